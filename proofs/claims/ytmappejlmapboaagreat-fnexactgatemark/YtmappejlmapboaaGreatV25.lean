import Derived.Test.YtmappejlmapboaaGreatV24
set_option maxHeartbeats 16000000
set_option maxRecDepth 100000
open Go.Proofs.Tryz
namespace Go.Proofs.YtmappejlmapboaaGreat
section
open Go.RowKit Go.Deep Go.Maps
theorem Zfu (a b:Int):wrap64 (wrap64 a+b)=wrap64 (a+b):=by unfold wrap64;omega
theorem Zhb (a b:Int):wrap64 (wrap64 a+wrap64 b)=wrap64 (a+b):=by unfold wrap64;omega
abbrev Tri:=Zy_×Zy_×Int
variable {T:List Tri}
def Zqj (T:List Tri):Prop:=∀ p ∈ T,p.1.size<=maxLen/\p.2.1.size<=maxLen
def Zkc (T:List Tri) (a b:Zy_):Int:=(T.map fun p=>if (p.1=a/\p.2.1=b) then p.2.2 else 0).sum
theorem ZgR (A B:List Tri) (a b:Zy_):Zkc (A ++ B) a b=Zkc A a b+Zkc B a b:=by simp [Zkc]
theorem Zk3 (p:Tri) (a b:Zy_):Zkc [p] a b=if (p.1=a/\p.2.1=b) then p.2.2 else 0:=by simp [Zkc]
structure Ze7 {H:Type} (T:List Tri) (D:DataW H):Prop where
 isMap:IsMap D
 sums:∀ a b:Zy_,a.size<=maxLen->b.size<=maxLen->D.atKey (ZbY a b) (.lit (.int .i64 0))=.lit (.int .i64 (wrap64 (Zkc T a b)))
 has:∀ p ∈ T,Maps.has D (ZbY p.1 p.2.1)=true
theorem Zeb (a b:Zy_):WideAt.IsKeyLit (ZbY a b):=trivial
theorem Ze7.start {H:Type}:Ze7 [] (.map []:DataW H):=⟨⟨[],rfl⟩,fun a b _ _=>by simp [Zkc,wrap64];rfl,fun p hp=>by cases hp⟩
theorem Zp8 {a b a' b':Zy_} (ha:a.size<=maxLen) (hb:b.size<=maxLen) (ha':a'.size<=maxLen) (hb':b'.size<=maxLen) (h:¬ (a=a'/\b=b')):ZbY a b≠ZbY a' b':=fun e=>h (ZdZ.inj ZfT ha hb ha' hb' e)
theorem Ze7.step {H:Type}{D:DataW H} (h:Ze7 T D) {t r:Zy_} (ht:t.size<=maxLen) (hr:r.size<=maxLen) {c:Int} (hat:D.atKey (ZbY t r) (.lit (.int .i64 0))=.lit (.int .i64 c)) (n:Int) :
 Ze7 (T ++ [(t,r,n)]) (D.put (ZbY t r) (.lit (.int .i64 (wrap64 (c+n))))):=by
 have hc:=hat.symm.trans (h.sums t r ht hr);injection hc with hc
 injection hc with _ hc
 refine⟨h.isMap.put _ _,fun a b ha hb=>?_,fun p hp=>?_⟩
 . by_cases e:t=a/\r=b
   . obtain⟨rfl,rfl⟩:=e
     rw [atKey_put_same h.isMap (Zeb _ _),ZgR,Zk3,if_pos ⟨rfl,rfl⟩,hc,Zfu]
   . rw [atKey_put_other (Zp8 ha hb ht hr (fun e'=>e ⟨e'.1.symm,e'.2.symm⟩)),h.sums a b ha hb,ZgR,Zk3,if_neg e,Int.add_zero]
 . by_cases e:ZbY p.1 p.2.1=ZbY t r
   . rw [e]
     exact has_put_same h.isMap (Zeb _ _) _
   . rw [has_put_other e]
     rcases List.mem_append.1 hp with hp | hp
     . exact h.has p hp
     . simp at hp
       subst hp;exact absurd rfl e
def Zg7 (Ts:List Tm) (team r:Zy_) (p:Tri):Int:=if (p.2.1.toList == r.toList&&Za6 Ts p.1 team)=true then p.2.2 else 0
def ZjZ (Ts:List Tm) (team r:Zy_) (T:List Tri) (left:Lit->Bool):Int:=(T.map fun p=>if left (ZbY p.1 p.2.1)=true then 0 else Zg7 Ts team r p).sum
theorem ZmZ {H:Type}{D:DataW H} (h:Ze7 T D) (Ts:List Tm) (team r:Zy_):ZjZ Ts team r T (Maps.has D)=0:=by
 have:∀ L:List Tri,(∀ p ∈ L,Maps.has D (ZbY p.1 p.2.1)=true)->ZjZ Ts team r L (Maps.has D)=0:=by
  intro L
  induction L with
  | nil=>intro _;rfl
  | cons p L ih=>
   intro hL;have h1:=hL p (List.mem_cons_self ..);have h2:=ih (fun q hq=>hL q (List.mem_cons_of_mem _ hq));unfold ZjZ at h2 |-;rw [List.map_cons,List.sum_cons,h2,if_pos h1]
   rfl
 exact this T h.has
theorem Zp6 {left:Lit->Bool} (h:∀ kl,left kl=false) (Ts:List Tm) (team r:Zy_) (T:List Tri):ZjZ Ts team r T left=(T.map (Zg7 Ts team r)).sum:=by
 unfold ZjZ;simp [h]
theorem ZjS (Ts:List Tm) (team r:Zy_) {left:Lit->Bool} {a b:Zy_} (ha:a.size<=maxLen) (hb:b.size<=maxLen) (hl:left (ZbY a b)=true):∀ (T:List Tri),Zqj T->
 ZjZ Ts team r T (fun z=>left z&&!z.sameKey (ZbY a b))=ZjZ Ts team r T left+(if (b.toList == r.toList&&Za6 Ts a team)=true then Zkc T a b else 0)
 | [],_=>by simp [ZjZ,Zkc]
 | p :: T,hT=>by
  have ih:=ZjS Ts team r ha hb hl T (fun q hq=>hT q (List.mem_cons_of_mem _ hq));obtain⟨s1,s2⟩:=hT p (List.mem_cons_self ..);unfold ZjZ Zkc at ih |-;simp only [List.map_cons,List.sum_cons];rw [ih]
  by_cases e:p.1=a/\p.2.1=b
  . obtain⟨e1,e2⟩:=e
    have hs:(ZbY a b).sameKey (ZbY a b)=true:=by unfold ZbY;simp [Lit.sameKey]
    unfold Zg7;simp only [hs,hl,Bool.not_true,Bool.and_false,Bool.false_eq_true,if_false,if_true,e1,e2,eq_self,and_self]
    cases hc:(b.toList == r.toList&&Za6 Ts a team)
    . simp only [Bool.false_eq_true,if_false];omega
    . simp only [if_true];omega
  . have hs:(ZbY p.1 p.2.1).sameKey (ZbY a b)=false:=sameKey_ne (Zp8 s1 s2 ha hb e)
    simp only [hs,Bool.not_false,Bool.and_true,if_neg e]
    cases hc:(b.toList == r.toList&&Za6 Ts a team)
    . simp only [Bool.false_eq_true,if_false];omega
    . simp only [if_true];omega
def Zcj (Ss:List Sh) (Os:List Ob):List Tri:=Os.flatMap fun o=>(Zeh Ss o.kd o.vs).map fun p=>(o.tm,p.1,p.2)
theorem Zm5 (Ss:List Sh) (A:List Ob) (o:Ob):Zcj Ss (A ++ [o])=Zcj Ss A ++ (Zeh Ss o.kd o.vs).map fun p=>(o.tm,p.1,p.2):=by simp [Zcj]
def Zc2 (Ss:List Sh) (Ts:List Tm) (Os:List Ob) (team r:Zy_):Int:=(Os.map fun o=>if Za6 Ts o.tm team=true then Zdu Ss o.kd o.vs r else 0).sum
theorem ZmW (Ts:List Tm) (team r t:Zy_) (L:List (Zy_×Int)):((L.map fun p=>((t,p.1,p.2):Tri)).map (Zg7 Ts team r)).sum=if Za6 Ts t team=true then Zmt r L else 0:=by
 induction L with
 | nil=>simp [Zmt]
 | cons p L ih=>
  rw [List.map_cons,List.map_cons,List.sum_cons,ih];unfold Zmt Zg7;rw [List.map_cons,List.sum_cons]
  cases h1:Za6 Ts t team <;> cases h2:(p.1.toList == r.toList) <;> simp
theorem ZmY (Ss:List Sh) (Ts:List Tm) (team r:Zy_) (Os:List Ob):((Zcj Ss Os).map (Zg7 Ts team r)).sum=Zc2 Ss Ts Os team r:=by
 induction Os with
 | nil=>rfl
 | cons o Os ih=>
  have e:Zcj Ss (o :: Os)=((Zeh Ss o.kd o.vs).map fun p=>(o.tm,p.1,p.2)) ++ Zcj Ss Os:=by simp [Zcj]
  rw [e,List.map_append,List.sum_append,ih,ZmW,Zmw]
  rfl
theorem ZmX (Ss:List Sh) (Ts:List Tm) (A:List Ob) (o:Ob) (team r:Zy_):Zc2 Ss Ts (A ++ [o]) team r=Zc2 Ss Ts A team r+(if Za6 Ts o.tm team=true then Zdu Ss o.kd o.vs r else 0):=by simp [Zc2]
theorem ZoS (Ss:List Sh) (kind:Zy_) (V:List Zy_):(Zeh Ss kind V).length<=V.length+1:=by
 unfold Zeh
 split
 . split
   . rename_i x _ _
     have:=ZfR x.fields V V.length;have h1:(Zdb kind).length<=1:=by unfold Zdb;split <;> simp
     rw [List.length_append];omega
   . simp
 . simp
theorem ZjX (Ss:List Sh):∀ Os:List Ob,(∀ o ∈ Os,o.vs.length<=1048576)->(Zcj Ss Os).length<=Os.length*1048577
 | [],_=>by simp [Zcj]
 | o :: Os,h=>by
  have ih:=ZjX Ss Os (fun q hq=>h q (List.mem_cons_of_mem _ hq));have h1:=h o (List.mem_cons_self ..);have h2:=ZoS Ss o.kd o.vs;have e:Zcj Ss (o :: Os)=((Zeh Ss o.kd o.vs).map fun p=>(o.tm,p.1,p.2)) ++ Zcj Ss Os:=by simp [Zcj]
  rw [e,List.length_append,List.length_map,List.length_cons]
  omega
end
section
open Go.RowKit Go.Deep Go.Maps
theorem Zcn {w wr w1:World}{r:Nat} (h:Zw_ w wr) (hg:wr.grownBy w1 (some r)) (hr:w.heap.size<=r):Zw_ w w1:=by
 have hz:=h.size;exact h.trans ⟨hg.os,hg.tape,hg.output,hg.size,fun k hk=>hg.block k (by omega) (fun e=>by have:=Option.some.inj e;omega)⟩
theorem ZaI {w w':World} (h:Zw_ w w'):w.grownBy w' none:=
 ⟨h.os,h.tape,h.output,h.size,fun k hk _=>h.block k hk⟩
section
variable (lo:Nat) (tv:Value) (Ts:List Tm) (team r:Zy_) (T:List Tri) (w:World)
theorem ZiO {D:DataW Unit}{b n:Nat} (hT:Zbh lo w tv Ts) (hown:w.ownsMap prog 251 (plainElem prog 3) b n D) (hs:Ze7 T D) (hok:Zqj T) :
 Calls prog 160 #[.map (some b),tv,.string team,.string r] w
  fun e w'=>e=.returned (.int .i64 (wrap64 (T.map (Zg7 Ts team r)).sum))/\Zw_ w w':=by
 have HT:=Zab hT;have HS:=Zab hs;have HK:=Zab hok;obtain⟨ta,tcap,rfl⟩:=hT.form;clear hT hs hok;go_enter func160,ntmps160
 go_wp2_with (first
  | (at_range;refine wpList_range_own _ rfl _ 218 rfl 251 3 Zh8 underlying218 _ b n _ rfl hown ?_;intro w0 hrg0 hg0 hs0)
  | go_in)
 go_frame
 go_loopw [9] (fun s wr=>∃ (left:Lit->Bool) (cnt:Nat),wr.ranges prog 251 (plainElem prog 3) b w.heap.size n D left cnt/\s=.int .i64 (wrap64 (ZjZ Ts team r T left))/\Zw_ w wr)
  (fun _ wr=>wr.rangeLeft b w.heap.size)
 case atStart=>exact⟨_,_,hrg0,by rw [ZmZ HS.o];simp [wrap64],⟨hg0.os,hg0.tape,hg0.output,hg0.size,fun k hk=>hg0.block k hk (by simp)⟩⟩
 case round=>
  obtain⟨left,cnt,hrg,rfl,hb⟩:=hrel;have HB:=Zab hb;clear hb
  go_wp2_with (first
   | (at_next;refine wpList_next_ranges _ rfl _ rfl 251 Zh8 (plainElem prog 3) (fun p:Zy_×Zy_=>.agg #[.string p.1,.string p.2]) (Value.int .i64) (fun key kl h=>by obtain⟨x,y,rfl,_⟩:=ZdZ.inv h;exact⟨(x,y),rfl⟩) (fun v y hv=>by obtain⟨c,rfl,_⟩:=plainElem_int_inv underlying3 hv;exact⟨c,rfl⟩) b w.heap.size n _ _ _ rfl hrg ?_ ?_)
   | go_in)
  . intro _ hl0
    go_wp2;go_ret;exact⟨ZaB (by rw [Zp6 hl0]),HB.o⟩
  . intro xa xb c kl yd yp w1 cnt1 hkey hlk hv hat hrg1 hlt hg1 hs1 hen
    obtain⟨xa',xb',exy,rfl,sa,sb⟩:=ZdZ.inv hkey;have e12:xa=xa'/\xb=xb':=by simpa using exy
    obtain⟨rfl,rfl⟩:=e12;clear exy hkey;have hbo:=hrg1.owns.lt;obtain⟨c',ec,ey,hwc⟩:=plainElem_int_inv underlying3 hv
    have hcc:c=wrap64 (Zkc T xa xb):=by
     have h1:=hat (.lit (.int .i64 0));rw [HS.o.sums xa xb sa sb] at h1;have h2:yd=.lit (.int .i64 c'):=congrArg Prod.fst ey;rw [h2] at h1;injection h1 with h1
     injection h1 with _ h1
     injection ec with _ ec
     rw [ec,h1]
    have HST:=Zab (ZjS Ts team r sa sb hlk T HK.o);have HB1:Hd (Zw_ w w1):=Zcn HB.o hg1 Zl_;have HRG1:=Zab hrg1;clear hv hat ec ey hwc hlk hrg1 hg1
    cases hq:(xb.toList == r.toList) with
    | false=>
     have HE:Hd (ZjZ Ts team r T (fun z=>left z&&!z.sameKey (ZbY xa xb))=ZjZ Ts team r T left):=by unfold Hd;rw [HST.o,hq];simp
     go_wp2;go_roundw
     . exact⟨_,cnt1,HRG1.o.alloc _,by rw [HE.o],HB1.o.trans ((Zac _ _).mono HB1.o.size)⟩
     . rw [(HRG1.o.alloc _).left_eq,hrg.left_eq];exact hlt
    | true=>
     go_wp2_with fail;refine (Zip lo _ Ts xa team _ ((HT.o.below HB1.o).below (Zac _ _))).mono ?_;rintro e w2 ⟨rfl,hb2⟩;have HRG2:=Zab (HRG1.o.kept (((World.grownBy_alloc w1 _ none)).trans (ZaI hb2)) (by simp) (by simp));have HB2:Hd (Zw_ w w2):=(HB1.o.trans ((Zac _ _).mono HB1.o.size)).trans (hb2.mono ((HB1.o.trans ((Zac _ _).mono HB1.o.size)).size));clear hb2
     cases hu:Za6 Ts xa team with
     | false=>
      have HE:Hd (ZjZ Ts team r T (fun z=>left z&&!z.sameKey (ZbY xa xb))=ZjZ Ts team r T left):=by unfold Hd;rw [HST.o,hq,hu];simp
      go_wp2;go_roundw
      . exact⟨_,cnt1,HRG2.o,by rw [HE.o],HB2.o⟩
      . rw [HRG2.o.left_eq,hrg.left_eq];exact hlt
     | true=>
      have HE:Hd (ZjZ Ts team r T (fun z=>left z&&!z.sameKey (ZbY xa xb))=ZjZ Ts team r T left+Zkc T xa xb):=by unfold Hd;rw [HST.o,hq,hu];simp
      go_wp2;go_roundw
      . exact⟨_,cnt1,HRG2.o,by rw [HE.o,Zhb],HB2.o⟩
      . rw [HRG2.o.left_eq,hrg.left_eq];exact hlt
end
end
section
open Go.RowKit Go.Deep
theorem Zks (lo hi:Nat) (v:Value) (Xl:List Ob) (k:Int) (w:World) (hv:ZbJ lo hi w v Xl) (hn:Zbv Xl) (h0:0<=k) (hk:k<=2000000000000000000) :
 Calls prog 55 #[v,.int .i64 k] w fun e w'=>e=.returned (.int .i64 (k+(Zde Xl Xl.length:Int)))/\Zag lo hi w w'/\ZbJ lo hi w' v (Zmi k Xl):=by
 rcases hv with ⟨a,cap,rfl,rfl⟩ | ⟨b,off,cap,c,X,rfl,hne,hm,hcap,hX,hR⟩
 . go_enter func55,ntmps55
   go_wp2
   go_loop [5,1] (fun i q=>i=.int .i64 0/\q=.int .i64 k) (fun _ _=>0)
   case atStart=>exact⟨rfl,rfl⟩
   case round=>
    obtain⟨rfl,rfl⟩:=hrel;go_wp2;go_ret;exact⟨by simp [Zde],Zag.refl _ _ _,Or.inl ⟨_,_,rfl,rfl⟩⟩
 . have hlen:=hn.1
   have HN:=Zab hn;have HX:=Zab hX;have HR0:=Zab hR;have HM:=Zab hm;have HC:=Zab hcap;have HNE:=Zab hne;clear hn hX hR hm hcap hne;go_enter func55,ntmps55;go_wp2
   go_loopw [5,1] (fun i q wr=>∃ j:Nat,i=.int .i64 j/\q=.int .i64 (k+(Zde Xl j:Int))/\j<=Xl.length/\Zag lo hi w wr/\Ze4 lo hi wr b off Xl.length c (fun i=>if i < j then Zrs (k+(Zde Xl i:Int)) (X i) else X i)) (fun i _ _=>Xl.length - (intOf i).toNat)
   case atStart=>exact⟨0,rfl,by simp [Zde],by omega,Zag.refl _ _ _,HR0.o.to (fun i _=>by simp)⟩
   case round=>
    obtain⟨j,rfl,rfl,hj,ht,hr⟩:=hrel;have HT:=Zab ht;have HR:=Zab hr;clear ht hr HR0
    by_cases hlt:j < Xl.length
    . have hpos:=Zlf HN.o (i:=j) (by omega)
      have HP:=Zab (ZhU hlt)
      have hone:Zfz b (off+j*7) (c j).1 (c j).2 wr (X j):=by
       have:=HR.o.row j hlt;simp only [Nat.lt_irrefl,if_false] at this;exact this
      have hxj:X j=Xl[j]:=HX.o j hlt;obtain⟨x,hx⟩:∃ x,x=X j:=⟨_,rfl⟩
      rw [<- hx] at hone;obtain⟨hs,vv0,vv1,m1,q0,q1,hc,l0,l1⟩:=hone;have hs0:x.vs.length<=1048576:=by have:=HN.o.2 j hlt;rw [hx,hxj];unfold ZdW at this;omega
      have hs1:x.hs.length<=1048576:=by have:=HN.o.2 j hlt;rw [hx,hxj];unfold ZdW at this;omega
      have HXJ:=Zab hxj;have HXX:=Zab hx;obtain⟨K,hK⟩:∃ K,K=k+(Zde Xl j:Int):=⟨_,rfl⟩
      rw [<- hK];have hK0:0<=K:=by omega
      have hK1:K<=2500000000000000000:=by omega
      have HK:=Zab hK;have HBC:Hd (b < (c j).1\/(c j).2<=b):=(HR.o.seg j hlt).2.2;have HS:Hd (ZeF wr b (off+j*7) (c j).1 (c j).2 m1 vv0 vv1 wr x):=⟨ZbI.refl _ _ _ _ _ _,HBC.o,q0,q1,hc,l0,l1,HR.o.frz,HR.o.lt⟩;clear hpos hxj hx hs hc l0 l1 q0 q1 hK;obtain⟨d0,d1,d2,d3,d4,d5,d6⟩:=HS.o.cells;have fz:=HS.o.frz;go_wp2_with fail;clear d0 d1 d2 d3 d4 d5 d6 fz;refine (Zal _ _ (by omega)).mono ?_;rintro e v1 ⟨rfl,hb⟩;have HS1:=Zab (HS.o.below hb);clear hb HS;obtain⟨d0,d1,d2,d3,d4,d5,d6⟩:=HS1.o.cells;have fz:=HS1.o.frz;go_wp2_with fail;clear d0 d1 d2 d3 d4 d5 d6 fz;obtain⟨v2,hv2,HS2⟩:∃ v',v'=(v1.setCell ⟨b,off+j*7,none⟩ (.string (mtB (K))))/\Hd (ZeF wr b (off+j*7) (c j).1 (c j).2 m1 vv0 vv1 v' ⟨mtB (K),x.nm,x.tm,x.vs,x.en,x.hs,x.ver⟩):=⟨_,rfl,(HS1.o.s0 (mtB (K)))⟩
      rw [<- hv2];clear hv2 HS1;refine (Zal _ _ (by omega)).mono ?_;rintro e v3 ⟨rfl,hb⟩;have HS3:=Zab (HS2.o.below hb);clear hb HS2;obtain⟨d0,d1,d2,d3,d4,d5,d6⟩:=HS3.o.cells;have fz:=HS3.o.frz;go_wp2_with fail;clear d0 d1 d2 d3 d4 d5 d6 fz;obtain⟨v4,hv4,HS4⟩:∃ v',v'=(v3.setCell ⟨b,off+j*7+1,none⟩ (.string (mtB (K+1))))/\Hd (ZeF wr b (off+j*7) (c j).1 (c j).2 m1 vv0 vv1 v' ⟨mtB (K),mtB (K+1),x.tm,x.vs,x.en,x.hs,x.ver⟩):=⟨_,rfl,(HS3.o.s1 (mtB (K+1)))⟩
      rw [<- hv4];clear hv4 HS3;refine (Zal _ _ (by omega)).mono ?_;rintro e v5 ⟨rfl,hb⟩;have HS5:=Zab (HS4.o.below hb);clear hb HS4;obtain⟨d0,d1,d2,d3,d4,d5,d6⟩:=HS5.o.cells;have fz:=HS5.o.frz;go_wp2_with fail;clear d0 d1 d2 d3 d4 d5 d6 fz;obtain⟨v6,hv6,HS6⟩:∃ v',v'=(v5.setCell ⟨b,off+j*7+2,none⟩ (.string (mtB (K+1+1))))/\Hd (ZeF wr b (off+j*7) (c j).1 (c j).2 m1 vv0 vv1 v' ⟨mtB (K),mtB (K+1),mtB (K+1+1),x.vs,x.en,x.hs,x.ver⟩):=⟨_,rfl,(HS5.o.s2 (mtB (K+1+1)))⟩
      rw [<- hv6];clear hv6 HS5;refine (Zf6 _ _ _ x.vs _ _ HS6.o.l0 (by omega) (by omega)).mono ?_;rintro e v7 ⟨rfl,ht,hl⟩;have HS7:Hd (ZeF wr b (off+j*7) (c j).1 (c j).2 m1 vv0 vv1 v7 ⟨mtB (K),mtB (K+1),mtB (K+1+1),Zfi (K+1+1+1) x.vs.length,x.en,x.hs,x.ver⟩):=HS6.o.m0' ht hl;clear ht hl HS6;obtain⟨d0,d1,d2,d3,d4,d5,d6⟩:=HS7.o.cells;have fz:=HS7.o.frz;go_wp2_with fail;clear d0 d1 d2 d3 d4 d5 d6 fz;obtain⟨v8,hv8,HS8⟩:∃ v',v'=(v7.setCell ⟨b,off+j*7+4,none⟩ (.bool (((K+1+1+1+(x.vs.length:Int)) % 3 == 0))))/\Hd (ZeF wr b (off+j*7) (c j).1 (c j).2 m1 vv0 vv1 v' ⟨mtB (K),mtB (K+1),mtB (K+1+1),Zfi (K+1+1+1) x.vs.length,((K+1+1+1+(x.vs.length:Int)) % 3 == 0),x.hs,x.ver⟩):=⟨_,rfl,(HS7.o.s4 (((K+1+1+1+(x.vs.length:Int)) % 3 == 0)))⟩
      rw [<- hv8];clear hv8 HS7;refine (Zf6 _ _ _ x.hs _ _ HS8.o.l1 (by omega) (by omega)).mono ?_;rintro e v9 ⟨rfl,ht,hl⟩;have HS9:Hd (ZeF wr b (off+j*7) (c j).1 (c j).2 m1 vv0 vv1 v9 ⟨mtB (K),mtB (K+1),mtB (K+1+1),Zfi (K+1+1+1) x.vs.length,((K+1+1+1+(x.vs.length:Int)) % 3 == 0),Zfi (K+1+1+1+(x.vs.length:Int)+1) x.hs.length,x.ver⟩):=HS8.o.m1' ht hl;clear ht hl HS8;obtain⟨d0,d1,d2,d3,d4,d5,d6⟩:=HS9.o.cells;have fz:=HS9.o.frz;go_wp2;clear d0 d1 d2 d3 d4 d5 d6 fz
      obtain⟨v10,hv10,HS10⟩:∃ v',v'=(v9.setCell ⟨b,off+j*7+6,none⟩ (.int .i64 (K+1+1+1+(x.vs.length:Int)+1+(x.hs.length:Int))))/\Hd (ZeF wr b (off+j*7) (c j).1 (c j).2 m1 vv0 vv1 v' ⟨mtB (K),mtB (K+1),mtB (K+1+1),Zfi (K+1+1+1) x.vs.length,((K+1+1+1+(x.vs.length:Int)) % 3 == 0),Zfi (K+1+1+1+(x.vs.length:Int)+1) x.hs.length,K+1+1+1+(x.vs.length:Int)+1+(x.hs.length:Int)⟩):=⟨_,rfl,(HS9.o.s6 (K+1+1+1+(x.vs.length:Int)+1+(x.hs.length:Int)))⟩
      rw [<- hv10];clear hv10 HS9;have HW:Hd (ZrW Xl[j]=5+x.vs.length+x.hs.length):=by unfold Hd;rw [<- HXJ.o,<- HXX.o];rfl
      have HQ:Hd ((K+1+1+1+(x.vs.length:Int)+1+(x.hs.length:Int)+1:Int)=k+(Zde Xl (j+1):Int)):=by
       have h1:=HP.o;have h2:=HW.o;have h3:=HK.o;unfold Hd
       omega
      have HRN:=Zab (HR.o.near hlt HS10.o.near (show Zfz b (off+j*7) (c j).1 (c j).2 v10 (Zrs K x) from ⟨⟨ZbR _ (by omega),ZbR _ (by omega),ZbR _ (by omega)⟩,_,_,_,HS10.o.q0,HS10.o.q1,HS10.o.cells,HS10.o.l0,HS10.o.l1⟩));have HTN:=Zab (HS10.o.near.wide HR.o.lt (lo':=lo) (hi':=hi) (HR.o.seg j hlt).1 (HR.o.seg j hlt).2.1 ⟨HR.o.low,HR.o.bh⟩);go_roundw
      . 
       refine⟨j+1,by go_num,congrArg (Value.int .i64) HQ.o,by omega,HT.o.trans HTN.o,HRN.o.to (fun i hi'=>?_)⟩
       by_cases e:i=j
       . subst e
         rw [if_pos rfl,if_pos (by omega),<- HK.o,HXX.o]
       . rw [if_neg e]
         by_cases e2:i < j
         . rw [if_pos e2,if_pos (by omega)]
         . rw [if_neg e2,if_neg (by omega)]
      . simp [intOf];omega
    . have e:j=Xl.length:=by omega
      subst e;go_wp2;go_ret;refine⟨rfl,HT.o,Or.inr ⟨b,off,cap,c,fun i=>Zrs (k+(Zde Xl i:Int)) (X i),by rw [Zdn],?_,by rw [Zdn];exact HM.o,by rw [Zdn];exact HC.o,fun i h=>?_,?_⟩⟩
      . intro e
        have:=congrArg List.length e;rw [Zdn] at this;exact HNE.o (List.length_eq_zero_iff.1 (by simpa using this))
      . have h':i < Xl.length:=by rw [Zdn] at h;exact h
        rw [ZnW _ _ _ _ h',<- HX.o i h']
      . rw [Zdn]
        exact HR.o.to (fun i hi'=>by rw [if_pos hi'])
end
open Go.RowKit Go.Deep
theorem Zkv (lo hi:Nat) (v:Value) (Xl:List Tm) (k:Int) (w:World) (hv:Zb6 lo hi w v Xl) (hn:Zc4 Xl) (h0:0<=k) (hk:k<=2000000000000000000) :
 Calls prog 54 #[v,.int .i64 k] w fun e w'=>e=.returned (.int .i64 (k+(ZeC Xl Xl.length:Int)))/\Zag lo hi w w'/\Zb6 lo hi w' v (ZnY k Xl):=by
 rcases hv with ⟨a,cap,rfl,rfl⟩ | ⟨b,off,cap,c,X,rfl,hne,hm,hcap,hX,hR⟩
 . go_enter func54,ntmps54
   go_wp2
   go_loop [5,1] (fun i q=>i=.int .i64 0/\q=.int .i64 k) (fun _ _=>0)
   case atStart=>exact⟨rfl,rfl⟩
   case round=>
    obtain⟨rfl,rfl⟩:=hrel;go_wp2;go_ret;exact⟨by simp [ZeC],Zag.refl _ _ _,Or.inl ⟨_,_,rfl,rfl⟩⟩
 . have hlen:=hn.1
   have HN:=Zab hn;have HX:=Zab hX;have HR0:=Zab hR;have HM:=Zab hm;have HC:=Zab hcap;have HNE:=Zab hne;clear hn hX hR hm hcap hne;go_enter func54,ntmps54;go_wp2
   go_loopw [5,1] (fun i q wr=>∃ j:Nat,i=.int .i64 j/\q=.int .i64 (k+(ZeC Xl j:Int))/\j<=Xl.length/\Zag lo hi w wr/\Zey lo hi wr b off Xl.length c (fun i=>if i < j then Zru (k+(ZeC Xl i:Int)) (X i) else X i)) (fun i _ _=>Xl.length - (intOf i).toNat)
   case atStart=>exact⟨0,rfl,by simp [ZeC],by omega,Zag.refl _ _ _,HR0.o.to (fun i _=>by simp)⟩
   case round=>
    obtain⟨j,rfl,rfl,hj,ht,hr⟩:=hrel;have HT:=Zab ht;have HR:=Zab hr;clear ht hr HR0
    by_cases hlt:j < Xl.length
    . have hpos:=Zlh HN.o (i:=j) (by omega)
      have HP:=Zab (ZhW hlt)
      have hone:ZfB b (off+j*2) (c j) (c (j+1)) wr (X j):=by
       have:=HR.o.row j hlt;simp only [Nat.lt_irrefl,if_false] at this;exact this
      have hxj:X j=Xl[j]:=HX.o j hlt;obtain⟨x,hx⟩:∃ x,x=X j:=⟨_,rfl⟩
      rw [<- hx] at hone;obtain⟨hs,hc⟩:=hone;have HXJ:=Zab hxj;have HXX:=Zab hx;obtain⟨K,hK⟩:∃ K,K=k+(ZeC Xl j:Int):=⟨_,rfl⟩
      rw [<- hK];have hK0:0<=K:=by omega
      have hK1:K<=2500000000000000000:=by omega
      have HK:=Zab hK;have HBC:Hd (b < c j):=Zk_ HR.o.bc (HR.o.le Zz_ (by omega));have HS:Hd (Zm7 wr b (off+j*2) (c j) (c (j+1)) wr x):=⟨ZbI.refl _ _ _ _ _ _,HBC.o,hc,HR.o.frz,HR.o.lt⟩;clear hpos hxj hx hs hc hK;obtain⟨d0,d1⟩:=HS.o.cells;have fz:=HS.o.frz;go_wp2_with fail;clear d0 d1 fz;refine (Zal _ _ (by omega)).mono ?_;rintro e v1 ⟨rfl,hb⟩;have HS1:=Zab (HS.o.below hb);clear hb HS;obtain⟨d0,d1⟩:=HS1.o.cells;have fz:=HS1.o.frz;go_wp2_with fail;clear d0 d1 fz;obtain⟨v2,hv2,HS2⟩:∃ v',v'=(v1.setCell ⟨b,off+j*2,none⟩ (.string (mtB (K))))/\Hd (Zm7 wr b (off+j*2) (c j) (c (j+1)) v' ⟨mtB (K),x.ov⟩):=⟨_,rfl,(HS1.o.s0 (mtB (K)))⟩
      rw [<- hv2];clear hv2 HS1;refine (Zal _ _ (by omega)).mono ?_;rintro e v3 ⟨rfl,hb⟩;have HS3:=Zab (HS2.o.below hb);clear hb HS2;obtain⟨d0,d1⟩:=HS3.o.cells;have fz:=HS3.o.frz;go_wp2;clear d0 d1 fz;obtain⟨v4,hv4,HS4⟩:∃ v',v'=(v3.setCell ⟨b,off+j*2+1,none⟩ (.string (mtB (K+1))))/\Hd (Zm7 wr b (off+j*2) (c j) (c (j+1)) v' ⟨mtB (K),mtB (K+1)⟩):=⟨_,rfl,(HS3.o.s1 (mtB (K+1)))⟩
      rw [<- hv4];clear hv4 HS3;have HW:Hd (ZrY Xl[j]=2):=by unfold Hd;rw [<- HXJ.o,<- HXX.o];rfl
      have HQ:Hd ((K+1+1:Int)=k+(ZeC Xl (j+1):Int)):=by
       have h1:=HP.o;have h2:=HW.o;have h3:=HK.o;unfold Hd
       omega
      have HRN:=Zab (HR.o.near hlt HS4.o.near (show ZfB b (off+j*2) (c j) (c (j+1)) v4 (Zru K x) from ⟨⟨ZbR _ (by omega),ZbR _ (by omega)⟩,HS4.o.cells⟩));have HTN:=Zab (HS4.o.near.wide HR.o.lt (lo':=lo) (hi':=hi) (by have:=HBC.o;have:=HR.o.low;omega) (Nat.le_trans (HR.o.le (by omega) Zl_) HR.o.top) ⟨HR.o.low,HR.o.bh⟩);go_roundw
      . 
       refine⟨j+1,by go_num,congrArg (Value.int .i64) HQ.o,by omega,HT.o.trans HTN.o,HRN.o.to (fun i hi'=>?_)⟩
       by_cases e:i=j
       . subst e
         rw [if_pos rfl,if_pos (by omega),<- HK.o,HXX.o]
       . rw [if_neg e]
         by_cases e2:i < j
         . rw [if_pos e2,if_pos (by omega)]
         . rw [if_neg e2,if_neg (by omega)]
      . simp [intOf];omega
    . have e:j=Xl.length:=by omega
      subst e;go_wp2;go_ret;refine⟨rfl,HT.o,Or.inr ⟨b,off,cap,c,fun i=>Zru (k+(ZeC Xl i:Int)) (X i),by rw [Zdp],?_,by rw [Zdp];exact HM.o,by rw [Zdp];exact HC.o,fun i h=>?_,?_⟩⟩
      . intro e
        have:=congrArg List.length e;rw [Zdp] at this;exact HNE.o (List.length_eq_zero_iff.1 (by simpa using this))
      . have h':i < Xl.length:=by rw [Zdp] at h;exact h
        rw [ZnZ _ _ _ _ h',<- HX.o i h']
      . rw [Zdp]
        exact HR.o.to (fun i hi'=>by rw [if_pos hi'])
end Go.Proofs.YtmappejlmapboaaGreat
