import Derived.Test.YtfohnageehneoaaGreatVOI
import Derived.Test.YtfohnageehneoaaGreatVOJ
set_option maxHeartbeats 16000000
set_option maxRecDepth 100000
open Go.Proofs.Tryz
namespace Go.Proofs.YtfohnageehneoaaGreat
open Go.RowKit Go.Deep
def Zee (w:World) (e:Ending) (w':World) (B:Bk) (c:Int):Prop:=
 ∃ b0 m0 b1 m1 b2 m2 b3 m3,e=.returned (.tuple #[.agg #[.int .i64 B.now,.int .i64 B.tick,.int .i64 B.given,.slice b0 B.os.length m0,.slice b1 B.gs.length m1,.slice b2 B.ls.length m2,.slice b3 B.ps.length m3],.int .i64 c])∧Zw_ w w'∧
  Zax w.heap.size w'.heap.size w' (.slice b0 B.os.length m0) (.slice b1 B.gs.length m1) (.slice b2 B.ls.length m2) (.slice b3 B.ps.length m3) B
def ZfE:Bk:=⟨0,0,0,[],[],[],[]⟩
theorem Zo1 (lo hi:Nat) (hh:lo≤hi) (w:World):Zax lo hi w (.slice none 0 0) (.slice none 0 0) (.slice none 0 0) (.slice none 0 0) ZfE:=
 ⟨lo,lo,lo,lo,lo,lo,lo,lo,⟨by omega,by omega,by omega,by omega,by omega,by omega,by omega,by omega,by omega,by omega⟩,Or.inl ⟨_,_,rfl,rfl⟩,Or.inl ⟨_,_,rfl,rfl⟩,Or.inl ⟨_,_,rfl,rfl⟩,Or.inl ⟨_,_,rfl,rfl⟩⟩
theorem Zlz:ZaA ZfE:=⟨⟨by simp [ZfE],fun i h=>by simp [ZfE] at h⟩,⟨by simp [ZfE],fun i h=>by simp [ZfE] at h⟩,⟨by simp [ZfE],fun i h=>by simp [ZfE] at h⟩,⟨by simp [ZfE],fun i h=>by simp [ZfE] at h⟩⟩
theorem Zee.no {w w':World} {e:Ending} (h:e=.returned (.tuple #[.agg #[.int .i64 0,.int .i64 0,.int .i64 0,.slice none 0 0,.slice none 0 0,.slice none 0 0,.slice none 0 0],.int .i64 1])∧Zw_ w w'):Zee w e w' ZfE 1:=
 ⟨none,0,none,0,none,0,none,0,h.1,h.2,Zo1 _ _ h.2.size _⟩
section
variable (sv mv tv ov gv lv pv:Value) (Ss:List Sh) (Ms:List Md) (Ts:List Tm) (B:Bk) (FF:Nat→List Zy_) (d t r:Zy_) (w:World)
end
section
variable (sv mv tv ov gv lv pv:Value) (Ss:List Sh) (Ms:List Md) (Ts:List Tm) (B:Bk) (FF:Nat→List Zy_) (w:World)
theorem ZeX (hl:ZbO 0 w sv mv tv Ss Ms Ts) (h:ZaW 0 w ov gv lv pv B) (hn:ZaA B) (hsh:ZbT Ss Ms B.os FF) (hbk:ZcW Ss Ms Ts B FF=true) (C:Bk) (c:Int)
 (hg:∀ (Wx:World) (lo β:Nat) (b0 b1 b2 b3:Option Addr) (m0 m1 m2 m3:Nat),Zw_ w Wx→w.heap.size≤lo→lo≤β→Wx.heap.size=β+1→Box Wx β #[.int .i64 B.now,.int .i64 B.tick,.int .i64 B.given,.slice b0 B.os.length m0,.slice b1 B.gs.length m1,.slice b2 B.ls.length m2,.slice b3 B.ps.length m3]→Zax lo β Wx (.slice b0 B.os.length m0) (.slice b1 B.gs.length m1) (.slice b2 B.ls.length m2) (.slice b3 B.ps.length m3) B→
   Calls prog 70 #[.pointer (some ⟨β,0,none⟩)] Wx fun e w'=>e=.returned (.int .i64 c)∧Zad lo (β+1) Wx w'∧∃ x0 y0 x1 y1 x2 y2 x3 y3,Box w' β #[.int .i64 C.now,.int .i64 C.tick,.int .i64 C.given,.slice x0 C.os.length y0,.slice x1 C.gs.length y1,.slice x2 C.ls.length y2,.slice x3 C.ps.length y3]∧Zax lo w'.heap.size w' (.slice x0 C.os.length y0) (.slice x1 C.gs.length y1) (.slice x2 C.ls.length y2) (.slice x3 C.ps.length y3) C) :
 Calls prog 48 #[.agg #[sv,mv,tv],.agg #[.int .i64 B.now,.int .i64 B.tick,.int .i64 B.given,ov,gv,lv,pv],.func (.func 70) #[] #[]] w fun e w'=>Zee w e w' C c:=by
 have HG:=Zab hg;clear hg;have HL:=Zab hl;have HK:=Zab h;have HN:=Zab hn;have HSH:=Zab hsh;have HQ:=Zab hbk;obtain⟨sa,sc,rfl⟩:=hl.shs.form;obtain⟨ma,mc,rfl⟩:=hl.mds.form;obtain⟨ta,tc,rfl⟩:=hl.tms.form;obtain⟨a0,k0,rfl⟩:=h.obs.form;obtain⟨a1,k1,rfl⟩:=h.grs.form;obtain⟨a2,k2,rfl⟩:=h.les.form;obtain⟨a3,k3,rfl⟩:=h.pus.form;clear hl h hn hsh hbk;go_enter func48,ntmps48;go_wp2_with fail;generalize hWa:World.alloc (World.alloc (w.alloc _) _) _=Wa;have HBa:Hid (Zw_ w Wa):=by rw [← hWa];exact ((Zac w _).alloc (by simp) _).alloc (by simp;omega) _
 have FB:Hid (Box Wa (w.heap.size+1) #[.int .i64 B.now,.int .i64 B.tick,.int .i64 B.given,.slice a0 B.os.length k0,.slice a1 B.gs.length k1,.slice a2 B.ls.length k2,.slice a3 B.ps.length k3]):=by rw [← hWa];exact (Box.new _ _ _ _ (by simp)).on (Zac _ _)
 have FC:Hid (Box Wa (w.heap.size+2) #[.int .i64 0,.int .i64 0,.int .i64 0,.slice none 0 0,.slice none 0 0,.slice none 0 0,.slice none 0 0]):=by rw [← hWa];exact Box.new _ _ _ _ (by simp)
 clear hWa;refine (Zf8 0 _ _ _ _ _ _ _ Ss Ms Ts B FF _ (HL.out.below HBa.out) (HK.out.below HBa.out) HN.out HSH.out).mono ?_;rintro e w1 ⟨rfl,hb1⟩;rw [HQ.out];have HB1:Hid (Zw_ w w1):=bt HBa.out hb1;replace FB:=Zab (FB.out.on hb1);replace FC:=Zab (FC.out.on hb1);clear hb1 HBa;have g1:=FB.out.cell;go_wp2_with fail;clear g1;refine (Zkl 0 _ _ _ _ B _ (HK.out.below HB1.out) HN.out).mono ?_;rintro e w2 ⟨b0,m0,b1,m1,b2,m2,b3,m3,rfl,hb2,ho2⟩;have HB2:Hid (Zw_ w w2):=bt HB1.out hb2;have hz1:=FC.out.lt;replace FC:=Zab (FC.out.on hb2);have hz2:=FC.out.lt;have hs12:=hb2.size;have hs01:=HB1.out.size;have HO2:=Zab ho2;clear hb2 ho2 HB1 FB;go_wp2_with fail;generalize hWx:w2.alloc _=Wx;have hx:Below w2.heap.size w2 Wx:=by rw [← hWx];exact Zac _ _
 have FX:Hid (Box Wx w2.heap.size #[.int .i64 B.now,.int .i64 B.tick,.int .i64 B.given,.slice b0 B.os.length m0,.slice b1 B.gs.length m1,.slice b2 B.ls.length m2,.slice b3 B.ps.length m3]):=by rw [← hWx];exact Box.new _ _ _ _ rfl
 have hxs:Wx.heap.size=w2.heap.size+1:=by rw [← hWx];simp
 clear hWx;have HBx:Hid (Zw_ w Wx):=bt HB2.out hx;have HOx:=Zab (HO2.out.below hx);replace FC:=Zab (FC.out.on hx);clear hx HB2 HO2;refine (HG.out Wx w1.heap.size w2.heap.size _ _ _ _ _ _ _ _ HBx.out (by omega) (by omega) hxs FX.out (HOx.out.wide (by omega) Zl_)).mono ?_;rintro e w5 ⟨rfl,ht5,x0,y0,x1,y1,x2,y2,x3,y3,hbx,ho5⟩;have s5:=ht5.size;have FX5:=Zab hbx;have HO5:=Zab ho5;have FC5:=Zab (FC.out.touch ht5 (by omega));have HB5:Hid (Zw_ w w5):=HBx.out.trans ((ht5.under (by omega)).mono (by omega));clear ht5 hbx ho5 FX FC HBx HG HOx;have o0:=FX5.out.cell;have r0:=FC5.out.cell;have g0:=FC5.out.free;go_wp2;clear o0 g0
 refine bodyPost_ret (v:=.tuple #[.agg #[.int .i64 C.now,.int .i64 C.tick,.int .i64 C.given,.slice x0 C.os.length y0,.slice x1 C.gs.length y1,.slice x2 C.ls.length y2,.slice x3 C.ps.length y3],.int .i64 c]) (by simp [results,results48,go_sem,r0]) rfl ⟨_,_,_,_,_,_,_,_,rfl,?_,?_⟩
 · repeat (refine Below.setCell ?_ (by simp only [];omega) _)
   exact HB5.out
 · refine Zax.wide (lo:=w1.heap.size) (hi:=w5.heap.size) ?_ (by omega) (by simp [World.setCell])
   iterate 7 (refine Zax.setLow ?_ (by simp only [];omega) _)
   exact HO5.out
end
theorem Zj7 {X:Type} {c:X→X→Int} {L:List X} (h:∀ j (hj:j+1 < L.length),c (L[j]'(by omega)) L[j+1] < 0):ZcO c L=true:=by
 unfold ZcO;rw [List.all_eq_true];intro j hj;rw [List.mem_range] at hj
 cases j with
 | zero=>rfl
 | succ j=>rw [ZdA hj];exact decide_eq_true (h j hj)
theorem Zop {L:List Pu} (h:ZcO ZfA L=true) (q:Nat):ZcO ZfA (L.eraseIdx q)=true:=by
 by_cases hq:q < L.length
 · have hl:(L.eraseIdx q).length=L.length - 1:=List.length_eraseIdx_of_lt hq
   refine Zj7 fun j hj=>?_
   rw [List.getElem_eraseIdx,List.getElem_eraseIdx]
   by_cases h1:j < q
   · by_cases h2:j+1 < q
     · rw [dif_pos h1,dif_pos h2];exact ZeF Zf0 h _ _ (by omega)
     · rw [dif_pos h1,dif_neg h2];exact ZeF Zf0 h _ _ (by omega)
   · rw [dif_neg h1,dif_neg (by omega)];exact ZeF Zf0 h _ _ (by omega)
 · rw [List.eraseIdx_of_length_le (by omega)];exact h
theorem Zdg {Ls:List Le} (k:Nat) (am:Int) {i:Nat} (h:i < Ls.length) (h':i < (Zc3 Ls k am).length):(Zc3 Ls k am)[i]=if i=k then { Ls[i] with fr:=Ls[i].fr+am } else Ls[i]:=by
 by_cases hk:k < Ls.length
 · simp only [ZlE hk am,List.getElem_set]
   by_cases e:k=i
   · subst e;simp
   · rw [if_neg e,if_neg (fun h=>e h.symm)]
 · rw [if_neg (by omega)]
   have:Zc3 Ls k am=Ls:=by unfold Zc3;rw [List.getElem?_eq_none (by omega)]
   simp only [this]
theorem Zm2 (Ls:List Le) (k j:Nat) (a b:Int):Zc3 (Zc3 Ls k a) j b=Zc3 (Zc3 Ls j b) k a:=by
 refine List.ext_getElem (by simp only [Zba]) fun i h1 h2=>?_
 have h0:i < Ls.length:=by simpa only [Zba] using h1
 rw [Zdg (Ls:=Zc3 Ls k a) j b (by rw [Zba];exact h0),Zdg (Ls:=Zc3 Ls j b) k a (by rw [Zba];exact h0),Zdg k a h0,Zdg j b h0]
 by_cases e1:i=j
 · by_cases e2:i=k
   · rw [if_pos e1,if_pos e2,if_pos e1,if_pos e2]
     simp only [Int.add_right_comm]
   · simp only [if_pos e1,if_neg e2]
 · by_cases e2:i=k
   · simp only [if_neg e1,if_pos e2]
   · simp only [if_neg e1,if_neg e2]
def Zf6 (Ls:List Le):List (Zy_×Zy_):=Ls.map fun x=>(x.tm,x.re)
theorem Zhm (Ls:List Le) (k:Nat) (a:Int):Zf6 (Zc3 Ls k a)=Zf6 Ls:=by
 unfold Zf6;refine List.ext_getElem (by simp only [List.length_map,Zba]) fun i h1 h2=>?_
 have h0:i < Ls.length:=by simpa only [List.length_map] using h2
 rw [List.getElem_map,List.getElem_map,Zdg k a h0]
 split <;> rfl
theorem Zc2 {A C:List Le} (h:Zf6 A=Zf6 C):A.length=C.length:=by
 have:=congrArg List.length h;unfold Zf6 at this
 simpa only [List.length_map] using this
theorem Zo6 {A C:List Le} (h:Zf6 A=Zf6 C) {i:Nat} (hA:i < A.length) (hC:i < C.length):A[i].tm=C[i].tm∧A[i].re=C[i].re:=by
 have e:(Zf6 A)[i]'(by unfold Zf6;rw [List.length_map];exact hA)=(Zf6 C)[i]'(by unfold Zf6;rw [List.length_map];exact hC):=by simp only [h]
 simp only [Zf6,List.getElem_map,Prod.mk.injEq] at e;exact e
theorem ZiT {A C:List Le} (h:Zf6 A=Zf6 C) (hr:ZcO Zcn C=true):ZcO Zcn A=true:=by
 have hl:=Zc2 h;refine Zj7 fun j hj=>?_
 have h1:=Zo6 h (i:=j) (by omega) (by omega);have h2:=Zo6 h (i:=j+1) hj (by omega);have:=Zi8 hr (j:=j) (by omega);unfold Zcn at this ⊢;rw [h1.1,h1.2,h2.1,h2.2];exact this
theorem Zl3 {A C:List Le} (h:Zf6 A=Zf6 C) (t r:Zy_):ZiH A t r=ZiH C t r:=by
 have e:∀ L:List Le,ZhK L t r=(Zf6 L).findIdx (fun k=>k.1.toList == t.toList&&k.2.toList == r.toList):=fun L=>by
  unfold ZhK Zf6;rw [List.findIdx_map]
  rfl
 unfold ZiH;rw [e A,e C,h,Zc2 h]
theorem Zmg {A C:List Le} (h:Zf6 A=Zf6 C) (t r:Zy_):A.any (Zb8 t r)=C.any (Zb8 t r):=by
 have e:∀ L:List Le,L.any (Zb8 t r)=(Zf6 L).any (fun k=>k.1.toList == t.toList&&k.2.toList == r.toList):=fun L=>by
  unfold Zf6;rw [List.any_map]
  rfl
 rw [e A,e C,h]
theorem Zdu.next {Ls:List Le} {Ps:List Pu} (h:Zdu Ls Ps) {q:Nat} (hq:q < Ps.length) (k:Nat):Zdu (Zc3 Ls k Ps[q].am) (Ps.eraseIdx q):=by
 have hl:(Ps.eraseIdx q).length=Ps.length - 1:=List.length_eraseIdx_of_lt hq;have hnp:=h.np;have ham:=h.am q hq
 have hin:∀ i (hi:i < (Ps.eraseIdx q).length),∃ j,∃ hj:j < Ps.length,(Ps.eraseIdx q)[i]=Ps[j]:=fun i hi=>by
  rw [List.getElem_eraseIdx]
  by_cases h1:i < q
  · rw [dif_pos h1];exact⟨i,by omega,rfl⟩
  · rw [dif_neg h1];exact⟨i+1,by omega,rfl⟩
 refine⟨by rw [Zba];exact h.nl,by omega,ZiT (Zhm _ _ _) h.rl,Zop h.rp q,fun i hi=>?_,fun i hi=>?_,fun i hi=>?_⟩
 · obtain⟨j,hj,e⟩:=hin i hi
   rw [e,Zmg (Zhm _ _ _)];exact h.led j hj
 · have hi':i < Ls.length:=by rw [Zba] at hi;exact hi
   have:=h.fr i hi';rw [Zdg k _ hi']
   split
   · simp only [];omega
   · omega
 · obtain⟨j,hj,e⟩:=hin i hi
   rw [e];exact h.am j hj
def due (T:Int) (p:Pu):Bool:=decide (p.un < T)
def stays (T:Int) (p:Pu):Bool:=!due T p
def fz (T:Int) (K:Pu→Nat) (L:List Le) (p:Pu):List Le:=if due T p=true then Zc3 L (K p) p.am else L
theorem ZrN (T:Int) (K:Pu→Nat) (L:List Le) (p q:Pu):fz T K (fz T K L p) q=fz T K (fz T K L q) p:=by
 unfold fz
 split <;> split <;> first | exact Zm2 _ _ _ _ _ | rfl
theorem Zi9 (T:Int) (K:Pu→Nat):∀ (L:List Le) (p:Pu) (R:List Pu),(p :: R).foldl (fz T K) L=fz T K (R.foldl (fz T K) L) p
 | L,p,[]=>rfl
 | L,p,x :: R=>by
  have h1:=Zi9 T K (fz T K L x) p R
  show R.foldl (fz T K) (fz T K (fz T K L p) x)=_
  rw [ZrN];exact h1
theorem Zgm (T:Int) (K:Pu→Nat):∀ (R:List Pu) (L:List Le),Zf6 (R.foldl (fz T K) L)=Zf6 L
 | [],L=>rfl
 | p :: R,L=>by
  show Zf6 (R.foldl (fz T K) (fz T K L p))=_
  rw [Zgm T K R];unfold fz
  split
  · exact Zhm _ _ _
  · rfl
def kOf (Ls:List Le) (p:Pu):Nat:=(ZiH Ls p.tm p.re).toNat
def ZcK (B:Bk) (n:Nat):Bk:=⟨B.now,B.tick+1,B.given,B.os,B.gs,(B.ps.drop n).foldl (fz (B.tick+1) (kOf B.ls)) B.ls,B.ps.take n ++ (B.ps.drop n).filter (stays (B.tick+1))⟩
def Zct (B:Bk):Bk:=⟨B.now,B.tick+1,B.given,B.os,B.gs,B.ps.foldl (fz (B.tick+1) (kOf B.ls)) B.ls,B.ps.filter (stays (B.tick+1))⟩
theorem Znm (B:Bk):ZcK B 0=Zct B:=by unfold ZcK Zct;simp
theorem Zjn (B:Bk):ZcK B B.ps.length=⟨B.now,B.tick+1,B.given,B.os,B.gs,B.ls,B.ps⟩:=by unfold ZcK;simp
theorem Zg4 {B:Bk} {n:Nat} (h:n≤B.ps.length):n≤(ZcK B n).ps.length:=by
 unfold ZcK;simp only [List.length_append,List.length_take]
 omega
theorem ZlK {B:Bk} {n:Nat} (h:n < B.ps.length) (h':n < (ZcK B (n+1)).ps.length):(ZcK B (n+1)).ps[n]=B.ps[n]:=by
 have e:(ZcK B (n+1)).ps=B.ps.take (n+1) ++ (B.ps.drop (n+1)).filter (stays (B.tick+1)):=rfl;rw [List.getElem_of_eq e,List.getElem_append_left (by rw [List.length_take];omega),List.getElem_take]
theorem Zpm (B:Bk) (n:Nat) (t r:Zy_):ZiH (ZcK B n).ls t r=ZiH B.ls t r:=Zl3 (Zgm _ _ _ _) t r
theorem Zl2 {B:Bk} {n:Nat} (h:n < B.ps.length) (hd:due (B.tick+1) B.ps[n]=false):ZcK B (n+1)=ZcK B n:=by
 unfold ZcK;rw [List.drop_eq_getElem_cons h,Zi9,List.take_succ_eq_append_getElem h,List.filter_cons_of_pos (by unfold stays;rw [hd];rfl)];unfold fz;rw [hd];simp only [Bool.false_eq_true,if_false,List.append_assoc,List.cons_append,List.nil_append]
theorem Zj1 {B:Bk} {n:Nat} (h:n < B.ps.length) (hd:due (B.tick+1) B.ps[n]=true):Zg2 (ZcK B (n+1)) n (kOf B.ls B.ps[n])=ZcK B n:=by
 have hl:=Zg4 (B:=B) (n:=n+1) h;rw [Zfi (q:=n) (by omega),ZlK h]
 have e:(ZcK B (n+1)).ps.eraseIdx n=(ZcK B n).ps:=by
  unfold ZcK;simp only [];rw [List.take_succ_eq_append_getElem h,List.append_assoc,List.eraseIdx_append_of_length_le (by rw [List.length_take];omega),List.length_take,Nat.min_eq_left (by omega),Nat.sub_self,List.drop_eq_getElem_cons h,List.filter_cons_of_neg (by unfold stays;rw [hd];simp)];simp
 rw [e];unfold ZcK;simp only [];rw [List.drop_eq_getElem_cons h,Zi9];unfold fz;rw [if_pos hd]
theorem ZqY {B:Bk} (h:Zdu B.ls B.ps):∀ d n,n+d=B.ps.length→Zdu (ZcK B n).ls (ZcK B n).ps
 | 0,n,e=>by
  have:n=B.ps.length:=by omega
  subst this;rw [Zjn];exact h
 | d+1,n,e=>by
  have hn:n < B.ps.length:=by omega
  have ih:=ZqY h d (n+1) (by omega)
  cases hd:due (B.tick+1) B.ps[n] with
  | false=>rw [← Zl2 hn hd];exact ih
  | true=>
   have hl:=Zg4 (B:=B) (n:=n+1) hn;have:=ih.next (q:=n) (by omega) (kOf B.ls B.ps[n]);rw [← Zj1 hn hd,Zfi (q:=n) (by omega)];exact this
theorem ZrB {B:Bk} (h:Zdu B.ls B.ps) {n:Nat} (hn:n≤B.ps.length):Zdu (ZcK B n).ls (ZcK B n).ps:=ZqY h (B.ps.length - n) n (by omega)
theorem Zq1 {T:Int} {K:Pu→Nat} {Ls:List Le} {Ps:List Pu} {n:Nat} (h:n < Ps.length) (hd:due T Ps[n]=true):(Ps.take (n+1)).foldl (fz T K) Ls=Zc3 ((Ps.take n).foldl (fz T K) Ls) (K Ps[n]) Ps[n].am∧(Ps.take (n+1)).filter (stays T)=(Ps.take n).filter (stays T):=by
 rw [List.take_succ_eq_append_getElem h,List.foldl_append,List.filter_append,List.filter_cons_of_neg (by unfold stays;rw [hd];simp)];refine⟨?_,by simp⟩
 show fz T K _ _=_
 unfold fz;rw [if_pos hd]
theorem ZsE {T:Int} {K:Pu→Nat} {Ls:List Le} {Ps:List Pu} {n:Nat} (h:n < Ps.length) (hd:due T Ps[n]=false):(Ps.take (n+1)).foldl (fz T K) Ls=(Ps.take n).foldl (fz T K) Ls∧(Ps.take (n+1)).filter (stays T)=(Ps.take n).filter (stays T) ++ [Ps[n]]:=by
 rw [List.take_succ_eq_append_getElem h,List.foldl_append,List.filter_append,List.filter_cons_of_pos (by unfold stays;rw [hd];rfl)];refine⟨?_,by simp⟩
 show fz T K _ _=_
 unfold fz;rw [hd];simp
theorem ZsD {B:Bk} (h:Zdu B.ls B.ps) {T:Int} {K:Pu→Nat}:∀ n,n≤B.ps.length→∀ i (hi:i < ((B.ps.take n).foldl (fz T K) B.ls).length),0≤((B.ps.take n).foldl (fz T K) B.ls)[i].fr∧((B.ps.take n).foldl (fz T K) B.ls)[i].fr≤10000000000000 - 1000000*((B.ps.length:Int) - n)
 | 0,_,i,hi=>by
  have:=h.fr i (by simpa using hi);simp only [List.take_zero,List.foldl_nil]
  omega
 | n+1,hn,i,hi=>by
  have hl:((B.ps.take n).foldl (fz T K) B.ls).length=B.ls.length:=Zc2 (Zgm _ _ _ _);have hi':i < B.ls.length:=by rw [Zc2 (Zgm _ _ _ _)] at hi;exact hi
  have ih:=ZsD h (T:=T) (K:=K) n (by omega) i (by omega);have ham:=h.am n (by omega)
  cases hd:due T (B.ps[n]'(by omega)) with
  | true=>
   simp only [(Zq1 (K:=K) (Ls:=B.ls) (n:=n) (by omega) hd).1];rw [Zdg _ _ (by omega)]
   split
   · simp only [];omega
   · omega
  | false=>
   simp only [(ZsE (K:=K) (Ls:=B.ls) (n:=n) (by omega) hd).1]
   omega
def Zd7 (Ss:List Sh) (Ms:List Md) (Ts:List Tm) (B:Bk) (FF:Nat→List Zy_):Bk×Int:=
 if ZcW Ss Ms Ts B FF=true then (if B.tick=1000000 then (B,2) else (Zct B,0)) else (ZfE,1)
theorem ZjQ {Ss:List Sh} {Ms:List Md} {Ts:List Tm} {B:Bk} {FF:Nat→List Zy_} (h:ZcW Ss Ms Ts B FF=true):0≤B.tick∧B.tick≤1000000:=by
 unfold ZcW ZdU Zdw at h;simp only [Bool.and_eq_true,Zej,decide_eq_true_eq] at h
 omega
theorem ZlQ {Ss:List Sh} {Ms:List Md} {Ts:List Tm} {B:Bk} {FF:Nat→List Zy_} (h:ZcW Ss Ms Ts B FF=false):Zd7 Ss Ms Ts B FF=(ZfE,1):=by
 unfold Zd7;rw [h];rfl
theorem Zic {Ss:List Sh} {Ms:List Md} {Ts:List Tm} {B:Bk} {FF:Nat→List Zy_} (h:ZcW Ss Ms Ts B FF=true) (ht:B.tick=1000000):Zd7 Ss Ms Ts B FF=(B,2):=by
 unfold Zd7;rw [if_pos h,if_pos ht]
theorem Zma {Ss:List Sh} {Ms:List Md} {Ts:List Tm} {B:Bk} {FF:Nat→List Zy_} (h:ZcW Ss Ms Ts B FF=true) (ht:¬ B.tick=1000000):Zd7 Ss Ms Ts B FF=(Zct B,0):=by
 unfold Zd7;rw [if_pos h,if_neg ht]
theorem Zkd {B:Bk} (hn:ZaA B):ZaA (Zct B):=by
 obtain⟨h1,h2,h3,h4⟩:=hn;exact⟨h1,h2,⟨by rw [show (Zct B).ls.length=B.ls.length from Zc2 (Zgm _ _ _ _)];exact h3.1,fun i h=>rfl⟩,⟨Nat.le_trans (List.length_filter_le _ _) h4.1,fun i h=>rfl⟩⟩
theorem Zk1 {Ss:List Sh} {Ms:List Md} {Ts:List Tm} {B:Bk} {FF:Nat→List Zy_} (hn:ZaA B):ZaA (Zd7 Ss Ms Ts B FF).1:=by
 unfold Zd7
 split
 · split
   · exact hn
   · exact Zkd hn
 · exact Zlz
theorem Zad.onB {lo hi:Nat} {w X Y:World} (h:Zad lo hi w X) (hb:Below w.heap.size X Y):Zad lo hi w Y:=
 ⟨hb.os.trans h.os,hb.tape.trans h.tape,hb.output.trans h.output,Nat.le_trans h.size hb.size,fun k hk ho=>(hb.block k hk).trans (h.block k hk ho)⟩
structure Znk (lo β o0 o1 g0 g1 l0 l1 p0 p1:Nat) (w:World) (n0 n1 n2 ov gv:Value) (a2:Option Addr) (k2:Nat) (pv:Value) (B:Bk) (wr:World) (Lc:List Le) (v:Value) (F:List Pu):Prop where
 tch:Zad lo (β+1) w wr
 box:Box wr β #[n0,n1,n2,ov,gv,.slice a2 Lc.length k2,pv]
 obs:Za2 o0 o1 wr ov B.os
 grs:Za8 g0 g1 wr gv B.gs
 les:ZaO l0 l1 wr (.slice a2 Lc.length k2) Lc
 pus:Za5 p0 p1 wr pv B.ps
 own:wr.ownsRow w.heap.size 94 5 v F.length (Zch F)
section
variable {lo β o0 o1 g0 g1 l0 l1 p0 p1:Nat} {w:World} {n0 n1 n2 ov gv:Value} {a2:Option Addr} {k2:Nat} {pv:Value} {B:Bk} {wr wr':World} {Lc Lc':List Le} {v v':Value} {F F':List Pu}
theorem Znk.below (h:Znk lo β o0 o1 g0 g1 l0 l1 p0 p1 w n0 n1 n2 ov gv a2 k2 pv B wr Lc v F) (hb:Below wr.heap.size wr wr'):Znk lo β o0 o1 g0 g1 l0 l1 p0 p1 w n0 n1 n2 ov gv a2 k2 pv B wr' Lc v F:=
 ⟨h.tch.trans (Zad.below hb),h.box.on hb,h.obs.below hb,h.grs.below hb,h.les.below hb,h.pus.below hb,Below.ownsB h.own hb⟩
theorem Znk.free (h:Znk lo β o0 o1 g0 g1 l0 l1 p0 p1 w n0 n1 n2 ov gv a2 k2 pv B wr Lc v F) (ha:Zl1 lo β o0 o1 g0 g1 l0 l1 p0 p1) (hw:β < w.heap.size) (ht:Zad l0 l1 wr wr') (hl:Lc'.length=Lc.length) (hL:ZaO l0 l1 wr' (.slice a2 Lc.length k2) Lc'):Znk lo β o0 o1 g0 g1 l0 l1 p0 p1 w n0 n1 n2 ov gv a2 k2 pv B wr' Lc' v F:=by
 obtain⟨⟨y1,y2⟩,⟨y3,y4⟩,⟨y5,y6⟩,⟨y7,y8⟩,yog,yol,yop,ygl,ygp,ylp⟩:=ha;refine⟨h.tch.trans (ht.wide (by omega) (by omega)),?_,h.obs.touch ht (by omega),h.grs.touch ht (by omega),by rw [hl];exact hL,h.pus.touch ht (by omega),Zad.ownsB h.own ht (by omega)⟩;rw [hl];exact h.box.touch ht (by omega)
theorem Znk.grown (h:Znk lo β o0 o1 g0 g1 l0 l1 p0 p1 w n0 n1 n2 ov gv a2 k2 pv B wr Lc v F) (ha:Zl1 lo β o0 o1 g0 g1 l0 l1 p0 p1) (hw:β < w.heap.size) (hb:Below w.heap.size wr wr') (ho:wr'.ownsRow w.heap.size 94 5 v' F'.length (Zch F')):Znk lo β o0 o1 g0 g1 l0 l1 p0 p1 w n0 n1 n2 ov gv a2 k2 pv B wr' Lc v' F':=by
 obtain⟨⟨y1,y2⟩,⟨y3,y4⟩,⟨y5,y6⟩,⟨y7,y8⟩,yog,yol,yop,ygl,ygp,ylp⟩:=ha;have ht:=Zad.ofBelow hb;exact⟨h.tch.onB hb,h.box.below hb hw,h.obs.touch ht (by omega),h.grs.touch ht (by omega),h.les.touch ht (by omega),h.pus.touch ht (by omega),ho⟩
end
theorem Zph (X:World) (g:Nat) (a b c d e:Value) (t:TypeId) (hg:X.heap.size=g):∀ j x,[a,b,c,d,e][j]?=some x→(X.alloc (.cells #[a,b,c,d,e] t)).cell? ((⟨g,0,none⟩:Addr).add j)=some x:=by
 intro j x hx;subst hg;rw [Go.WideShapes.add_plain,Nat.zero_add,ZbC _ _ _ _ _ rfl]
 simpa using hx
theorem Zsa (p:Pu):∀ u ∈ [Value.string p.dr,.string p.tm,.string p.re,.int .i64 p.am,.int .i64 p.un],u.oneCell'=true:=by
 intro u hu;simp only [List.mem_cons,List.not_mem_nil,or_false] at hu
 rcases hu with rfl | rfl | rfl | rfl | rfl <;> rfl
theorem ZnG {p0 p1:Nat} {w:World} {v:Value} {Ps:List Pu} (h:Za5 p0 p1 w v Ps):∀ i (hi:i < Ps.length),Zcr Ps[i]:=fun i hi=>by
 obtain⟨_,_,_,_,_,_,_,hc⟩:=h.at.full (fun e=>by rw [e] at hi;simp at hi);exact (hc i hi).1
theorem Zlp {Ps:List Pu} (h:∀ i (hi:i < Ps.length),Zcr Ps[i]) (p:Pu→Bool):∀ i (hi:i < (Ps.filter p).length),Zcr (Ps.filter p)[i]:=fun i hi=>by
 obtain⟨k,hk,e⟩:=List.getElem_of_mem (List.mem_filter.1 (List.getElem_mem hi)).1;rw [← e];exact h k hk
section
variable (lo β:Nat) (B:Bk) (a0 a1 a2 a3:Option Addr) (k0 k1 k2 k3:Nat) (w:World)
theorem Zgx (n0 n2 ov gv lv pv:Value) (hX:Box w β #[n0,.int .i64 1000000,n2,ov,gv,lv,pv]) :
 Calls prog 70 #[.pointer (some ⟨β,0,none⟩)] w fun e w'=>e=.returned (.int .i64 2)∧Zw_ w w':=by
 have x1:=hX.cell 1;simp at x1;go_enter func70,ntmps70;go_wp2;go_ret;exact⟨rfl,Below.refl _ _⟩
theorem Zji (hX:Box w β #[.int .i64 B.now,.int .i64 B.tick,.int .i64 B.given,.slice a0 B.os.length k0,.slice a1 B.gs.length k1,.slice a2 B.ls.length k2,.slice a3 B.ps.length k3])
 (hO:Zax lo β w (.slice a0 B.os.length k0) (.slice a1 B.gs.length k1) (.slice a2 B.ls.length k2) (.slice a3 B.ps.length k3) B) (hok:Zdu B.ls B.ps) (ht:0≤B.tick∧B.tick < 1000000) (hlo:lo≤β) :
 Calls prog 70 #[.pointer (some ⟨β,0,none⟩)] w fun e w'=>e=.returned (.int .i64 0)∧Zad lo (β+1) w w'∧∃ a9 c9,Box w' β #[.int .i64 B.now,.int .i64 (B.tick+1),.int .i64 B.given,.slice a0 B.os.length k0,.slice a1 B.gs.length k1,.slice a2 B.ls.length k2,.slice a9 (Zct B).ps.length c9]∧
  Zax lo w'.heap.size w' (.slice a0 B.os.length k0) (.slice a1 B.gs.length k1) (.slice a2 B.ls.length k2) (.slice a9 (Zct B).ps.length c9) (Zct B):=by
 obtain⟨i0,hi,hz0,hz1,hz2⟩:=info_parts Tryz.info94;have HI:=Zab (And.intro hi (And.intro hz0 (And.intro hz1 hz2)));clear hi hz0 hz1 hz2;obtain⟨o0,o1,g0,g1,l0,l1,p0,p1,ha,hO,hG,hL,hP⟩:=hO;have HAP:=Zab ha;have hlw:=hX.lt;have hy8:=ha.p.2;have HZ:=Zab (ZnG hP);have HOK:=Zab hok
 have HS0:Hid (Znk lo β o0 o1 g0 g1 l0 l1 p0 p1 w (.int .i64 B.now) (.int .i64 (B.tick+1)) (.int .i64 B.given) (.slice a0 B.os.length k0) (.slice a1 B.gs.length k1) a2 k2 (.slice a3 B.ps.length k3) B (w.setCell ⟨β,1,none⟩ (.int .i64 (B.tick+1))) B.ls (.slice none 0 0) []):=by
  obtain⟨⟨y1,y2⟩,⟨y3,y4⟩,⟨y5,y6⟩,⟨y7,y8⟩,yog,yol,yop,ygl,ygp,ylp⟩:=ha;have htc:Zad β (β+1) w (w.setCell ⟨β,1,none⟩ (.int .i64 (B.tick+1))):=Zad.setCell β (β+1) w _ _ ⟨Nat.le_refl _,Nat.lt_succ_self _⟩;have hbx:=hX.set (k:=1) (.int .i64 (B.tick+1)) (by simp);exact⟨htc.wide (by omega) Zl_,by simpa using hbx,hO.touch htc (by omega),hG.touch htc (by omega),hL.touch htc (by omega),hP.touch htc (by omega),ZdN _ _ _⟩
 have hnp:=hok.np;have hnl:=hok.nl;have x1:=hX.cell 1;have f1:=hX.free 1;have x6:∀ u,(w.setCell ⟨β,1,none⟩ u).cell? ⟨β,6,none⟩=some (.slice a3 B.ps.length k3):=fun u=>(cne (by omega)).trans (hX.cell 6)
 simp at x1;have hwt:IntKind.wrap .i64 (B.tick+1)=B.tick+1:=by rw [IntKind.wrap_i64];omega
 have hne:(B.tick == 1000000)=false:=by simp;omega
 clear hX ha hO hG hL hP hok;go_enter func70,ntmps70;go_wp2;clear x1 f1 x6
 go_loopw [3,23] (fun v i wr=>∃ (k:Nat),i=.int .i64 k∧k≤B.ps.length∧Znk lo β o0 o1 g0 g1 l0 l1 p0 p1 w (.int .i64 B.now) (.int .i64 (B.tick+1)) (.int .i64 B.given) (.slice a0 B.os.length k0) (.slice a1 B.gs.length k1) a2 k2 (.slice a3 B.ps.length k3) B wr ((B.ps.take k).foldl (fz (B.tick+1) (kOf B.ls)) B.ls) v ((B.ps.take k).filter (stays (B.tick+1)))) (fun _ i _=>B.ps.length - (intOf i).toNat)
 case atStart=>exact⟨0,rfl,by omega,by simpa using HS0.out⟩
 case round=>
  obtain⟨k,rfl,hk,hst⟩:=hrel;have HST:=Zab hst;obtain⟨va,vcap,rfl⟩:=ZfL hst.own;have hFl:((B.ps.take k).filter (stays (B.tick+1))).length≤k:=Nat.le_trans (List.length_filter_le _ _) (by rw [List.length_take];omega);have HK:=Zab (Zgm (B.tick+1) (kOf B.ls) (B.ps.take k) B.ls);clear hst
  by_cases hlt:k < B.ps.length
  · obtain⟨rb,ro,hra,hrb,-,hrc⟩:=HST.out.pus.at.full' (by omega)
    subst hra;obtain⟨hsz,hcell⟩:=hrc k hlt;obtain⟨c0,c1,c2,c3,c4⟩:=hcell;clear hrc hsz;go_wp2;generalize hWp:wr.alloc _=Wp;have hbp:Below wr.heap.size wr Wp:=by rw [← hWp];exact Zac _ _
    have FP:Hid (Box Wp wr.heap.size #[.string B.ps[k].dr,.string B.ps[k].tm,.string B.ps[k].re,.int .i64 B.ps[k].am,.int .i64 B.ps[k].un]):=by rw [← hWp];exact Box.new _ _ _ _ rfl
    have HSp:=Zab (HST.out.below hbp);clear hWp hbp c0 c1 c2 c3 c4 hrb HST;have p4:=FP.out.cell 4;have x1:=HSp.out.box.cell 1;simp at p4 x1
    go_quiet (fail)
    have hbn:Below Wp.heap.size Wp (Wp.drewN nq):=below_drewN Zb_ nq;have HSn:=Zab (HSp.out.below hbn);have FPn:=Zab (FP.out.on hbn);clear hbn p4 x1 FP HSp;generalize Wp.drewN nq=Wn at*;generalize wr.heap.size=π at*;have hf:=FPn.out.cell
    by_cases hd:B.ps[k].un < B.tick+1
    · have hdue:due (B.tick+1) B.ps[k]=true:=decide_eq_true hd
      have HU:=Zab (Zq1 (K:=kOf B.ls) (Ls:=B.ls) hlt hdue)
      have hlz:0 < B.ls.length:=by
       have h1:=HOK.out.led k hlt
       rcases Nat.eq_zero_or_pos B.ls.length with e | e
       · rw [List.length_eq_zero_iff.1 e] at h1;simp at h1
       · exact e
      obtain⟨lb,lf,hla⟩:=HSn.out.les.some (by rw [Zc2 HK.out];exact hlz);subst hla;go_wp2_with fail;clear hf;refine (Zls β l0 l1 lb lf k2 _ _ _ _ _ _ _ B.ps[k].dr B.ps[k].tm B.ps[k].re B.ps[k].am B.ps[k].un _ HSn.out.box HSn.out.les (by rw [Zc2 HK.out];exact hnl) (ZiT HK.out HOK.out.rl) (by rw [Zmg HK.out];exact HOK.out.led k hlt) (by have:=HAP.out.l;omega) (fun i hi=>by have:=ZsD HOK.out (T:=B.tick+1) (K:=kOf B.ls) k hk i hi;omega) (HOK.out.am k hlt) (by have:=HAP.out.l;have:=HSn.out.tch.size;omega)).mono ?_;rintro e w2 ⟨⟨v2,rfl⟩,p,⟨hp,e1,e2⟩,ht2,hl2⟩
      have hpk:p=kOf B.ls B.ps[k]:=by
       unfold kOf;rw [← Zl3 HK.out,ZqC (ZiT HK.out HOK.out.rl) hp e1 e2];simp
      subst hpk;have HS2:=Zab (HSn.out.free HAP.out hlw ht2 (Zba _ _ _) hl2);clear ht2 hl2 HSn e1 e2 hp;go_wp2;go_roundw
      case rel=>exact⟨k+1,by go_num,by omega,by rw [HU.out.1,HU.out.2];exact HS2.out⟩
      case measure=>simp [intOf];omega
    · have hdn:due (B.tick+1) B.ps[k]=false:=decide_eq_false hd
      have HU:=Zab (ZsE (K:=kOf B.ls) (Ls:=B.ls) hlt hdn);have hsz:=HSn.out.tch.size;go_wp2_with (at_builtin;refine wpList_append_own_at _ rfl (.tmp 37) (.tmp 39) 38 rfl w.heap.size 94 i0 (.agg #[.string ⟨#[]⟩,.string ⟨#[]⟩,.string ⟨#[]⟩,.int .i64 0,.int .i64 0]) 5 64 underlying38 HI.out.1 HI.out.2.1 HI.out.2.2.1 HI.out.2.2.2 rfl (by decide) _ ((B.ps.take k).filter (stays (B.tick+1))).length (Zch ((B.ps.take k).filter (stays (B.tick+1)))) rfl (Below.ownsB HSn.out.own (Zac _ _)) ⟨Wn.heap.size,0,none⟩ 1 1 [.string B.ps[k].dr,.string B.ps[k].tm,.string B.ps[k].re,.int .i64 B.ps[k].am,.int .i64 B.ps[k].un] rfl rfl (Zph _ _ _ _ _ _ _ _ rfl) (Zsa _) (by unfold maxLen;omega) (by omega) (by simp;omega) ?_;intro v' w4 hown4 hgrow4 hnil4 hat4)
      have HS4:Hid (Znk lo β o0 o1 g0 g1 l0 l1 p0 p1 w (.int .i64 B.now) (.int .i64 (B.tick+1)) (.int .i64 B.given) (.slice a0 B.os.length k0) (.slice a1 B.gs.length k1) a2 k2 (.slice (some ⟨rb,ro,none⟩) B.ps.length k3) B w4 ((B.ps.take k).foldl (fz (B.tick+1) (kOf B.ls)) B.ls) v' ((B.ps.take k).filter (stays (B.tick+1)) ++ [B.ps[k]])):=by
       refine HSn.out.grown HAP.out hlw (((Zac Wn _).mono hsz).trans (Zbw (Below.ownsB HSn.out.own (Zac _ _)) hgrow4 (by simp;omega))) ?_;rw [ZgG,List.length_append];exact hown4
      clear hown4 hgrow4 hnil4 hat4 hf HSn FPn;go_wp2;go_roundw
      case rel=>exact⟨k+1,by go_num,by omega,by rw [HU.out.1,HU.out.2];exact HS4.out⟩
      case measure=>simp [intOf];omega
  · have HS5:Hid (Znk lo β o0 o1 g0 g1 l0 l1 p0 p1 w (.int .i64 B.now) (.int .i64 (B.tick+1)) (.int .i64 B.given) (.slice a0 B.os.length k0) (.slice a1 B.gs.length k1) a2 k2 (.slice a3 B.ps.length k3) B wr (Zct B).ls (.slice va (Zct B).ps.length vcap) (Zct B).ps):=by
     have:=HST.out;rw [List.take_of_length_le (by omega)] at this;exact this
    have hvl:((B.ps.take k).filter (stays (B.tick+1))).length=(Zct B).ps.length:=by rw [List.take_of_length_le (by omega)];rfl
    rw [hvl];have hk2:(Zct B).ls.length=B.ls.length:=Zc2 (Zgm _ _ _ _);have x6:=HS5.out.box.cell 6;have f6:=HS5.out.box.free 6;simp at x6;clear HST hvl hFl;go_wp2;clear x6 f6;go_ret;obtain⟨⟨y1,y2⟩,⟨y3,y4⟩,⟨y5,y6⟩,⟨y7,y8⟩,yog,yol,yop,ygl,ygp,ylp⟩:=HAP.out;have hs:=HS5.out.tch.size;have htc:Zad β (β+1) wr (wr.setCell ⟨β,6,none⟩ (.slice va (Zct B).ps.length vcap)):=Zad.setCell β (β+1) wr _ _ ⟨Nat.le_refl _,Nat.lt_succ_self _⟩;refine⟨rfl,HS5.out.tch.trans (htc.wide (by omega) Zl_),va,vcap,?_,?_⟩
    · have:=HS5.out.box.set (k:=6) (.slice va (Zct B).ps.length vcap) (by simp)
      rw [hk2] at this
      simpa using this
    · refine⟨o0,o1,g0,g1,l0,l1,w.heap.size,wr.heap.size,⟨by simp [World.setCell];omega,by simp [World.setCell];omega,by simp [World.setCell];omega,by simp [World.setCell];omega,yog,yol,by omega,ygl,by omega,by omega⟩,HS5.out.obs.touch htc (by omega),HS5.out.grs.touch htc (by omega),?_,?_⟩
      · have:=HS5.out.les.touch htc (by omega)
        rw [hk2] at this;exact this
      · exact (ZgH HS5.out.own (Zlp HZ.out _)).touch htc (by omega)
end
structure Zsw (lo x:Nat) (w wr:World) (a0 a1 a2 a9:Option Addr) (k0 k1 k2 c9:Nat) (M:Bk):Prop where
 bel:Zw_ w wr
 res:Box wr (w.heap.size+2) #[.int .i64 0,.int .i64 0,.int .i64 0,.slice none 0 0,.slice none 0 0,.slice none 0 0,.slice none 0 0]
 box:Box wr x #[.int .i64 M.now,.int .i64 M.tick,.int .i64 M.given,.slice a0 M.os.length k0,.slice a1 M.gs.length k1,.slice a2 M.ls.length k2,.slice a9 M.ps.length c9]
 off:Zcj x lo wr.heap.size wr (.slice a0 M.os.length k0) (.slice a1 M.gs.length k1) (.slice a2 M.ls.length k2) (.slice a9 M.ps.length c9) M
theorem Zcj.wide {x lo hi hi':Nat} {w:World} {ov gv lv pv:Value} {B:Bk} (h:Zcj x lo hi w ov gv lv pv B) (h2:hi≤hi'):Zcj x lo hi' w ov gv lv pv B:=by
 obtain⟨o0,o1,g0,g1,l0,l1,p0,p1,⟨q1,q2,q3,q4,r1,r2,r3,r4,r5,r6⟩,hh⟩:=h;exact⟨o0,o1,g0,g1,l0,l1,p0,p1,⟨by omega,by omega,by omega,by omega,r1,r2,r3,r4,r5,r6⟩,hh⟩
theorem Zsw.below {lo x:Nat} {w wr wr':World} {a0 a1 a2 a9:Option Addr} {k0 k1 k2 c9:Nat} {M:Bk} (h:Zsw lo x w wr a0 a1 a2 a9 k0 k1 k2 c9 M) (hb:Below wr.heap.size wr wr'):Zsw lo x w wr' a0 a1 a2 a9 k0 k1 k2 c9 M:=
 ⟨bt h.bel hb,h.res.on hb,h.box.on hb,(h.off.below hb).wide hb.size⟩
theorem Box.put7 {w:World} {β:Nat} {z0 z1 z2 z3 z4 z5 z6:Value} (h:Box w β #[z0,z1,z2,z3,z4,z5,z6]) (u0 u1 u2 u3 u4 u5 u6:Value):Box (((((((w.setCell ⟨β,0,none⟩ u0).setCell ⟨β,1,none⟩ u1).setCell ⟨β,2,none⟩ u2).setCell ⟨β,3,none⟩ u3).setCell ⟨β,4,none⟩ u4).setCell ⟨β,5,none⟩ u5).setCell ⟨β,6,none⟩ u6) β #[u0,u1,u2,u3,u4,u5,u6]:=
 (((((((h.set (k:=0) u0 (by simp)).set (k:=1) u1 (by simp)).set (k:=2) u2 (by simp)).set (k:=3) u3 (by simp)).set (k:=4) u4 (by simp)).set (k:=5) u5 (by simp)).set (k:=6) u6 (by simp))
section
variable (sv mv tv ov gv lv pv:Value) (Ss:List Sh) (Ms:List Md) (Ts:List Tm) (B:Bk) (FF:Nat→List Zy_) (w:World)
theorem ZmE (hl:ZbO 0 w sv mv tv Ss Ms Ts) (h:ZaW 0 w ov gv lv pv B) (hn:ZaA B) (hsh:ZbT Ss Ms B.os FF) :
 Calls prog 48 #[.agg #[sv,mv,tv],.agg #[.int .i64 B.now,.int .i64 B.tick,.int .i64 B.given,ov,gv,lv,pv],.func (.func 70) #[] #[]] w fun e w'=>Zee w e w' (Zd7 Ss Ms Ts B FF).1 (Zd7 Ss Ms Ts B FF).2:=by
 cases hb:ZcW Ss Ms Ts B FF with
 | false=>
  rw [ZlQ hb];exact (Zku sv mv tv ov gv lv pv Ss Ms Ts B FF w hl h hn hsh hb _).mono fun e w' h=>Zee.no h
 | true=>
  by_cases ht:B.tick=1000000
  · rw [Zic hb ht]
    refine ZeX sv mv tv ov gv lv pv Ss Ms Ts B FF w hl h hn hsh hb B 2 fun Wx lo β b0 b1 b2 b3 m0 m1 m2 m3 hbw hlo hlb hsz hX hO=>?_
    have hX':=hX;rw [ht] at hX';refine (Zgx β Wx _ _ _ _ _ _ hX').mono fun e w' hw=>⟨hw.1,Zad.below hw.2,_,_,_,_,_,_,_,_,hX.on hw.2,(hO.below hw.2).wide Zl_ (by have:=hw.2.size;omega)⟩
  · rw [Zma hb ht]
    have hr:=ZjQ hb;refine ZeX sv mv tv ov gv lv pv Ss Ms Ts B FF w hl h hn hsh hb (Zct B) 0 fun Wx lo β b0 b1 b2 b3 m0 m1 m2 m3 hbw hlo hlb hsz hX hO=>?_
    refine (Zji lo β B b0 b1 b2 b3 m0 m1 m2 m3 Wx hX hO (ZjK hb) (by omega) hlb).mono fun e w' hw=>?_
    obtain⟨he,htc,a9,c9,hx,ho⟩:=hw;have e1:(Zct B).ls.length=B.ls.length:=Zc2 (Zgm _ _ _ _);exact⟨he,htc,b0,m0,b1,m1,b2,m2,a9,c9,by rw [e1];exact hx,by rw [e1];exact ho⟩
theorem Zgi (hl:ZbO 0 w sv mv tv Ss Ms Ts) (h:ZaW 0 w ov gv lv pv B) (hn:ZaA B) (hsh:ZbT Ss Ms B.os FF) :
 Calls prog 19 #[.agg #[sv,mv,tv],.agg #[.int .i64 B.now,.int .i64 B.tick,.int .i64 B.given,ov,gv,lv,pv]] w fun e w'=>Zee w e w' (Zd7 Ss Ms Ts B FF).1 (Zd7 Ss Ms Ts B FF).2:=by
 have HL:=Zab hl;have HK:=Zab h;have HN:=Zab hn;have HSH:=Zab hsh;obtain⟨sa,sc,rfl⟩:=hl.shs.form;obtain⟨ma,mc,rfl⟩:=hl.mds.form;obtain⟨ta,tc,rfl⟩:=hl.tms.form;obtain⟨a0,k0,rfl⟩:=h.obs.form;obtain⟨a1,k1,rfl⟩:=h.grs.form;obtain⟨a2,k2,rfl⟩:=h.les.form;obtain⟨a3,k3,rfl⟩:=h.pus.form;clear hl h hn hsh;obtain⟨Bq,c,hA⟩:∃ (Bq:Bk) (c:Int),Zd7 Ss Ms Ts B FF=(Bq,c):=⟨_,_,rfl⟩
 have HA:=Zab hA;rw [hA];clear hA;go_enter func19,ntmps19;go_wp2_with fail;generalize hWa:World.alloc (World.alloc (w.alloc _) _) _=Wa;have HBa:Hid (Zw_ w Wa):=by rw [← hWa];exact ((Zac w _).alloc (by simp) _).alloc (by simp;omega) _
 have hsa:Wa.heap.size=w.heap.size+3:=by rw [← hWa];simp
 have FC:Hid (Box Wa (w.heap.size+2) #[.int .i64 0,.int .i64 0,.int .i64 0,.slice none 0 0,.slice none 0 0,.slice none 0 0,.slice none 0 0]):=by rw [← hWa];exact Box.new _ _ _ _ (by simp)
 clear hWa;refine (ZmE _ _ _ _ _ _ _ Ss Ms Ts B FF _ (HL.out.below HBa.out) (HK.out.below HBa.out) HN.out HSH.out).mono ?_;intro e w1 hans;rw [HA.out] at hans;obtain⟨b0,m0,b1,m1,b2,m2,b3,m3,rfl,hb1,ho⟩:=hans;have HO:=Zab ho;clear ho;have HB1:Hid (Zw_ w w1):=bt HBa.out hb1;have hs1:=hb1.size;replace FC:=Zab (FC.out.on hb1);clear hb1 HBa;have r0:=FC.out.cell;have g0:=FC.out.free;go_wp2;refine bodyPost_ret (v:=.tuple #[.agg #[.int .i64 Bq.now,.int .i64 Bq.tick,.int .i64 Bq.given,.slice b0 Bq.os.length m0,.slice b1 Bq.gs.length m1,.slice b2 Bq.ls.length m2,.slice b3 Bq.ps.length m3],.int .i64 c]) (by simp [results,results19,go_sem,r0]) rfl ⟨_,_,_,_,_,_,_,_,rfl,?_,?_⟩
 · repeat (refine Below.setCell ?_ (by simp only [];omega) _)
   exact HB1.out
 · refine Zax.wide (lo:=Wa.heap.size) (hi:=w1.heap.size) ?_ (by omega) (by simp [World.setCell])
   iterate 7 (refine Zax.setLow ?_ (by simp only [];omega) _)
   exact HO.out
theorem Zkc (hl:ZbO 0 w sv mv tv Ss Ms Ts) (h:ZaW 0 w ov gv lv pv B) (hn:ZaA B) (hsh:ZbT Ss Ms B.os FF) :
 Calls prog 18 #[.agg #[sv,mv,tv],.agg #[.int .i64 B.now,.int .i64 B.tick,.int .i64 B.given,ov,gv,lv,pv]] w fun e w'=>Zee w e w' (Zd7 Ss Ms Ts B FF).1 (Zd7 Ss Ms Ts B FF).2:=by
 have HL:=Zab hl;have HK:=Zab h;have HN:=Zab hn;have HSH:=Zab hsh;obtain⟨sa,sc,rfl⟩:=hl.shs.form;obtain⟨ma,mc,rfl⟩:=hl.mds.form;obtain⟨ta,tc,rfl⟩:=hl.tms.form;obtain⟨a0,k0,rfl⟩:=h.obs.form;obtain⟨a1,k1,rfl⟩:=h.grs.form;obtain⟨a2,k2,rfl⟩:=h.les.form;obtain⟨a3,k3,rfl⟩:=h.pus.form;clear hl h hn hsh;go_enter func18,ntmps18;go_wp2_with fail;generalize hWa:World.alloc (World.alloc (w.alloc _) _) _=Wa;have HBa:Hid (Zw_ w Wa):=by rw [← hWa];exact ((Zac w _).alloc (by simp) _).alloc (by simp;omega) _
 have FB:Hid (Box Wa (w.heap.size+1) #[.int .i64 B.now,.int .i64 B.tick,.int .i64 B.given,.slice a0 B.os.length k0,.slice a1 B.gs.length k1,.slice a2 B.ls.length k2,.slice a3 B.ps.length k3]):=by rw [← hWa];exact (Box.new _ _ _ _ (by simp)).on (Zac _ _)
 have FR:Hid (Box Wa (w.heap.size+2) #[.int .i64 0,.int .i64 0,.int .i64 0,.slice none 0 0,.slice none 0 0,.slice none 0 0,.slice none 0 0]):=by rw [← hWa];exact Box.new _ _ _ _ (by simp)
 clear hWa;refine (ZjJ 0 _ _ _ _ _ _ _ Ss Ms Ts B FF _ (HL.out.below HBa.out) (HK.out.below HBa.out) HN.out HSH.out).mono ?_;rintro e w1 ⟨rfl,hb1⟩;have HB1:Hid (Zw_ w w1):=bt HBa.out hb1;replace FB:=Zab (FB.out.on hb1);replace FR:=Zab (FR.out.on hb1);clear hb1 HBa
 cases hbk:ZcW Ss Ms Ts B FF with
 | false=>
  have HE:Hid (Zd7 Ss Ms Ts B FF=(ZfE,1)):=ZlQ hbk;have r0:=FR.out.cell;have g0:=FR.out.free;go_wp2;refine bodyPost_ret (v:=.tuple #[.agg #[.int .i64 0,.int .i64 0,.int .i64 0,.slice none 0 0,.slice none 0 0,.slice none 0 0,.slice none 0 0],.int .i64 1]) (by simp [results,results18,go_sem,r0]) rfl ?_;rw [HE.out];refine Zee.no ⟨rfl,?_⟩
  repeat (refine Below.setCell ?_ (by simp only [];omega) _)
  exact HB1.out
 | true=>
 have hx:=FB.out.cell;go_wp2_with fail;clear hx;refine (ZmD 0 _ _ _ _ B _ (HK.out.below HB1.out) HN.out).mono ?_;rintro e w2 ⟨b0,m0,b1,m1,b2,m2,b3,m3,rfl,hb2,ho2⟩;have HB2:Hid (Zw_ w w2):=bt HB1.out hb2;have HO2:=Zab ho2;have hs1:=FR.out.lt;have hs2:=hb2.size;replace FB:=Zab (FB.out.on hb2);replace FR:=Zab (FR.out.on hb2);clear hb2 ho2 HB1;have hr:=ZjQ hbk;have HOK:=Zab (ZjK hbk);have hb1t:=FB.out.cell 1;have hlx:=FB.out.lt;simp at hb1t;have hx1:∀ o,(w2.alloc o).cell? ⟨w.heap.size+1,1,none⟩=_:=fun o=>(Zak _ _ _ _ hlx).trans hb1t
 by_cases hlast:B.tick=1000000
 · have HE:Hid (Zd7 Ss Ms Ts B FF=(B,2)):=Zic hbk hlast
   have HFB:Hid (∀ t,Box (w2.alloc (.cells #[.int .i64 B.now,.int .i64 B.tick,.int .i64 B.given,.slice b0 B.os.length m0,.slice b1 B.gs.length m1,.slice b2 B.ls.length m2,.slice b3 B.ps.length m3] t)) w2.heap.size #[.int .i64 B.now,.int .i64 B.tick,.int .i64 B.given,.slice b0 B.os.length m0,.slice b1 B.gs.length m1,.slice b2 B.ls.length m2,.slice b3 B.ps.length m3]):=fun t=>Box.new _ _ _ _ rfl
   have r0:∀ o i,(w2.alloc o).cell? ⟨w.heap.size+2,i,none⟩=_:=fun o i=>(Zak _ _ _ _ FR.out.lt).trans (FR.out.cell i)
   have g0:∀ o i,(w2.alloc o).frozen? ⟨w.heap.size+2,i,none⟩=false:=fun o i=>(FR.out.on (Zac w2 o)).free i
   have hge:(1000000:Int)≤B.tick:=by omega
   clear hlast;go_wp2;refine bodyPost_ret (v:=.tuple #[.agg #[.int .i64 B.now,.int .i64 B.tick,.int .i64 B.given,.slice b0 B.os.length m0,.slice b1 B.gs.length m1,.slice b2 B.ls.length m2,.slice b3 B.ps.length m3],.int .i64 2]) (by simp [results,results18,go_sem,r0]) rfl ?_;rw [HE.out];refine⟨_,_,_,_,_,_,_,_,rfl,?_,?_⟩
   · repeat (refine Below.setCell ?_ (by simp only [];omega) _)
     exact bt HB2.out (Zac _ _)
   · refine Zax.wide (lo:=w1.heap.size) (hi:=w2.heap.size) ?_ (by omega) (by simp [World.setCell])
     iterate 7 (refine Zax.setLow ?_ (by simp only [];omega) _)
     exact HO2.out.below (Zac _ _)
 have HE:Hid (Zd7 Ss Ms Ts B FF=(Zct B,0)):=Zma hbk hlast;have hwt:IntKind.wrap .i64 (B.tick+1)=B.tick+1:=by rw [IntKind.wrap_i64];omega
 have hnge:¬ (1000000:Int)≤B.tick:=by omega
 have hnp:=HOK.out.np;have hw1:IntKind.wrap .i64 ((B.ps.length:Int) - 1)=(B.ps.length:Int) - 1:=by rw [IntKind.wrap_i64];omega
 have HS0:Hid (∀ t,Zsw w1.heap.size w2.heap.size w (w2.alloc (.cells #[.int .i64 B.now,.int .i64 (B.tick+1),.int .i64 B.given,.slice b0 B.os.length m0,.slice b1 B.gs.length m1,.slice b2 B.ls.length m2,.slice b3 B.ps.length m3] t)) b0 b1 b2 b3 m0 m1 m2 m3 (ZcK B B.ps.length)):=fun t=>by
  rw [Zjn];exact⟨bt HB2.out (Zac _ _),FR.out.on (Zac _ _),Box.new _ _ _ _ rfl,((HO2.out.below (Zac _ _)).off Zl_).wide (by simp)⟩
 clear hbk hlast;go_wp2;clear hx1 hb1t
 go_loopw [7] (fun i wr=>∃ (n:Nat) (M:Bk) (a9:Option Addr) (c9:Nat),i=.int .i64 ((n:Int) - 1)∧n≤B.ps.length∧M=ZcK B n∧Zsw w1.heap.size w2.heap.size w wr b0 b1 b2 a9 m0 m1 m2 c9 M) (fun i _=>(intOf i+1).toNat)
 case atStart=>exact⟨B.ps.length,_,b3,m3,rfl,Nat.le_refl _,rfl,HS0.out _⟩
 case round=>
  obtain⟨n,M,a9,c9,rfl,hn,hM,hst⟩:=hrel;have HST:=Zab hst;have HM:=Zab hM;have hxl:=hst.box.lt;clear hst hM HS0 HO2 HB2 FB FR
  cases n with
  | zero=>
   have x0:=HST.out.box.cell;have r0:=HST.out.res.cell;have g0:=HST.out.res.free;go_wp2;refine bodyPost_ret (v:=.tuple #[.agg #[.int .i64 M.now,.int .i64 M.tick,.int .i64 M.given,.slice b0 M.os.length m0,.slice b1 M.gs.length m1,.slice b2 M.ls.length m2,.slice a9 M.ps.length c9],.int .i64 0]) (by simp [results,results18,go_sem,r0]) rfl ?_;rw [HE.out,← Znm,← HM.out];refine⟨_,_,_,_,_,_,_,_,rfl,?_,?_⟩
   · repeat (refine Below.setCell ?_ (by simp only [];omega) _)
     exact HST.out.bel
   · refine Zax.wide (lo:=w1.heap.size) (hi:=wr.heap.size) ?_ (by omega) (by simp [World.setCell])
     iterate 7 (refine Zax.setLow ?_ (by simp only [];omega) _)
     exact HST.out.off.own
  | succ m=>
   have hml:m < M.ps.length:=by rw [HM.out];exact Zg4 (B:=B) (n:=m+1) hn
   have HMM:Hid (∀ h:m < M.ps.length,M.ps[m]=B.ps[m]):=by
    have:=HM.out;subst this;exact fun h=>ZlK (by omega) h
   have HBO:Hid (Zdu M.ls M.ps):=by rw [HM.out];exact ZrB HOK.out hn
   have hidx:((m+1:Nat):Int) - 1=m:=by omega
   rw [hidx];obtain⟨pb,pf,hpa,hpb,-,hpc⟩:=HST.out.off.own.at.pus.full' (by omega);subst hpa;obtain⟨_,hcl⟩:=hpc m hml;have c4:=hcl.c4;have x6:=HST.out.box.cell 6;have x1:=HST.out.box.cell 1;simp at x6 x1;have hnpM:=HBO.out.np;clear hpc hcl;go_wp2
   go_quiet (fail)
   have hbn:Below wr.heap.size wr (wr.drewN nq):=below_drewN Zb_ nq;have HSn:=Zab (HST.out.below hbn);clear hbn c4 x6 x1 HST hpb hxl;generalize wr.drewN nq=Wn at*
   by_cases hd:M.ps[m].un < M.tick
   · have hdue:due (B.tick+1) B.ps[m]=true:=by
      refine decide_eq_true ?_;rw [← HMM.out hml];have:M.tick=B.tick+1:=by rw [HM.out];rfl
      omega
     obtain⟨k,hkl,hk⟩:=Zoa (HBO.out.led m hml)
     have hkO:kOf B.ls B.ps[m]=k:=by
      unfold kOf;rw [← Zpm B (m+1),← HM.out,← HMM.out hml,hk,Int.toNat_natCast]
     have HNX:Hid (Zg2 M m k=ZcK B m):=by
      have:=Zj1 (B:=B) (n:=m) (by omega) hdue;rw [← HM.out,hkO] at this;exact this
     obtain⟨lb,lf,hla,-⟩:=HSn.out.off.own.at.les.full' (by omega);subst hla;have x0:=HSn.out.box.cell;go_wp2_with fail;clear x0;have hxn:=HSn.out.box.lt;refine (Znd w2.heap.size w1.heap.size Wn.heap.size m k lb lf pb pf m0 m1 m2 c9 b0 b1 M _ HSn.out.off Zl_ (by omega) (by omega) HBO.out hml hkl hk).mono ?_;rintro e w4 ⟨v',rfl,ht4,hx4,ho4⟩;obtain⟨a8,c8,rfl⟩:=ho4.own.at.pus.form;have hs4:=ht4.size;have HO4:=Zab ho4;have FX4:=Zab (hx4 _ HSn.out.box);have FR4:=Zab (HSn.out.res.touch ht4 (by omega));have HB4:Hid (Zw_ w w4):=HSn.out.bel.trans ((ht4.under (by omega)).mono (by omega));clear ht4 hx4 ho4 HSn hk;have y0:=FX4.out.cell;have y1:=FX4.out.free;go_wp2;clear y0 y1;go_roundw
     case rel=>
      refine⟨m,Zg2 M m k,a8,c8,by go_num,by omega,HNX.out,?_⟩;have e:=Zfi (B:=M) (k:=k) hml;have hf:=Zba M.ls k M.ps[m].am;refine⟨?_,?_,?_,?_⟩
      · repeat (refine Below.setCell ?_ (by simp only [];omega) _)
        exact HB4.out
      · iterate 7 (refine Box.setFar ?_ (by simp only [];omega) _)
        exact FR4.out
      · rw [e]
        simp only [hf];exact FX4.out.put7 _ _ _ _ _ _ _
      · have ho:Zcj w2.heap.size w1.heap.size w4.heap.size _ _ _ _ _ _:=((((((HO4.out.set 0 (.int .i64 M.now)).set 1 (.int .i64 M.tick)).set 2 (.int .i64 M.given)).set 3 (.slice b0 M.os.length m0)).set 4 (.slice b1 M.gs.length m1)).set 5 (.slice (some ⟨lb,lf,none⟩) M.ls.length m2)).set 6 (.slice a8 (Zg2 M m k).ps.length c8)
        refine Zcj.wide (hi:=w4.heap.size) ?_ (by simp [World.setCell]);rw [e] at ho ⊢;simp only [hf] at ho ⊢;exact ho
     case measure=>simp [intOf]
   · have hdn:due (B.tick+1) B.ps[m]=false:=by
      refine decide_eq_false ?_;rw [← HMM.out hml];have:M.tick=B.tick+1:=by rw [HM.out];rfl
      omega
     go_wp2;go_roundw
     case rel=>exact⟨m,M,_,_,by go_num,by omega,by rw [HM.out];exact Zl2 (by omega) hdn,HSn.out⟩
     case measure=>simp [intOf]
end
end Go.Proofs.YtfohnageehneoaaGreat
