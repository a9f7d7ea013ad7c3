import Derived.Test.YtmappejlmapboaaGreatD47
import Derived.Test.YtmappejlmapboaaGreatD48
set_option maxHeartbeats 16000000
set_option maxRecDepth 100000
open Go.Proofs.Tryz
namespace Go.Proofs.YtmappejlmapboaaGreat
open Go.RowKit Go.Deep
section
variable {L:List Bool} {i k:Nat} {Ss:List Sh} {Os:List Ob}
section
variable (n:Nat) (E:Nat->Nat->Bool)
def Zdm (L:List Bool) (i k:Nat):Bool:=(List.range k).any fun q=>L[q]?.getD false&&E i q
def Zbc (L:List Bool) (i k:Nat):List Bool:=if Zdm E L i k then L.set i true else L
def ZdI (L:List Bool):Nat->List Bool
 | 0=>L
 | i+1=>Zbc E (ZdI L i) i n
def Zcl (L:List Bool):Nat->List Bool
 | 0=>L
 | m+1=>ZdI n E (Zcl L m) n
variable {n E}
theorem ZgC (L:List Bool) (i k:Nat):(Zbc E L i k).length=L.length:=by
 unfold Zbc
 split <;> simp
theorem ZdS (L:List Bool):∀ i,(ZdI n E L i).length=L.length
 | 0=>rfl
 | i+1=>by unfold ZdI;rw [ZgC,ZdS L i]
theorem ZcN (L:List Bool):∀ m,(Zcl n E L m).length=L.length
 | 0=>rfl
 | m+1=>by unfold Zcl;rw [ZdS,ZcN L m]
theorem Zl0 (L:List Bool) (i:Nat):Zbc E L i 0=L:=by unfold Zbc Zdm;simp
theorem ZhO {j:Nat} (hi:i < L.length):(L.set i true)[j]?.getD false=if j=i then true else L[j]?.getD false:=by
 rw [List.getElem?_set]
 by_cases h:i=j
 . subst h
   simp [hi]
 . rw [if_neg h,if_neg (fun e=>h e.symm)]
theorem Zg2 (L:List Bool) (i k:Nat):Zdm E L i (k+1)=(Zdm E L i k || (L[k]?.getD false&&E i k)):=by
 unfold Zdm;rw [List.range_succ,List.any_append];simp
theorem ZlZ (_:i < L.length):Zbc E L i (k+1)=if (Zbc E L i k)[k]?.getD false&&E i k then (Zbc E L i k).set i true else Zbc E L i k:=by
 by_cases h:Zdm E L i k=true
 . have h1:Zbc E L i k=L.set i true:=by unfold Zbc;rw [if_pos h]
   have h2:Zbc E L i (k+1)=L.set i true:=by unfold Zbc;rw [Zg2,h,Bool.true_or,if_pos rfl]
   rw [h1,h2]
   split
   . rw [List.set_set]
   . rfl
 . have h0:Zdm E L i k=false:=by simpa using h
   have h1:Zbc E L i k=L:=by unfold Zbc;rw [h0];rfl
   rw [h1];unfold Zbc;rw [Zg2,h0,Bool.false_or]
theorem Zgk (hi:i < L.length) (k:Nat):Zca L (Zbc E L i k):=by
 refine⟨(ZgC L i k).symm,fun j hj=>?_⟩;unfold Zbc
 split
 . rw [ZhO hi]
   split
   . rfl
   . exact hj
 . exact hj
theorem ZdF (hL:L.length=n):∀ i,i<=n->Zca L (ZdI n E L i)
 | 0,_=>Zca.refl L
 | i+1,h=>(ZdF hL i (by omega)).trans (Zgk (by rw [ZdS,hL];omega) n)
theorem Zgj (hL:L.length=n) {i:Nat}:∀ d,i+d<=n->Zca (ZdI n E L i) (ZdI n E L (i+d))
 | 0,_=>Zca.refl _
 | d+1,h=>by
  have h':i+d+1<=n:=h;exact (Zgj hL d (by omega)).trans (Zgk (L:=ZdI n E L (i+d)) (by rw [ZdS,hL];exact h') n)
theorem Zhe (hL:L.length=n):∀ m,Zca L (Zcl n E L m)
 | 0=>Zca.refl L
 | m+1=>(Zhe hL m).trans (ZdF (by rw [ZcN,hL]) n Zl_)
def Zjx (n:Nat) (E:Nat->Nat->Bool) (L:List Bool):Prop:=∀ i k,i < n->k < n->L[k]?.getD false=true->E i k=true->L[i]?.getD false=true
theorem ZlG (hL:L.length=n) (h:ZdI n E L n=L):Zjx n E L:=fun i k hi hk h1 h2=>by
 have same:∀ j,j<=n->ZdI n E L j=L:=fun j hj=>by
  have w1:=ZdF (E:=E) hL j hj;have w2:=Zgj (E:=E) hL (i:=j) (n - j) (by omega);rw [show j+(n - j)=n by omega,h] at w2;exact ((Za2 w2).2 (Nat.le_antisymm (Za2 w2).1 (Za2 w1).1))
 have h3:=same (i+1) (by omega);unfold ZdI at h3;rw [same i (by omega)] at h3;unfold Zbc at h3
 have h4:Zdm E L i n=true:=by
  unfold Zdm;rw [List.any_eq_true];exact⟨k,List.mem_range.2 hk,by rw [h1,h2];rfl⟩
 rw [if_pos h4] at h3;rw [<- h3,ZhO (by omega),if_pos rfl]
theorem ZhE (hL:L.length=n) (h:Zjx n E L):∀ i,i<=n->ZdI n E L i=L
 | 0,_=>rfl
 | i+1,hi=>by
  unfold ZdI;rw [ZhE hL h i (by omega)];unfold Zbc
  split
  . rename_i hc
    unfold Zdm at hc;rw [List.any_eq_true] at hc;obtain⟨k,hk,h1⟩:=hc;rw [Bool.and_eq_true] at h1;have h2:=h i k (by omega) (List.mem_range.1 hk) h1.1 h1.2;have hil:i < L.length:=by omega
    rw [List.getElem?_eq_getElem hil] at h2;have h2:L[i]=true:=h2;refine List.ext_getElem (by simp) fun j h3 h4=>?_
    rw [List.getElem_set]
    split
    . rename_i e
      subst e;exact h2.symm
    . rfl
  . rfl
theorem Zg3 (hL:L.length=n):∀ m,Zjx n E (Zcl n E L m)\/m+1<=(Zcl n E L m).count true
 | 0=>by
  by_cases h:L.count true=0
  . left
    intro i k _ hk h1 _;have hkl:k < L.length:=by omega
    have h1:L[k]?.getD false=true:=h1;rw [List.getElem?_eq_getElem hkl] at h1;have h1:L[k]=true:=h1;exact absurd (List.count_pos_iff.2 (h1 ▸ List.getElem_mem hkl)) (by omega)
  . right
    show 1<=L.count true
    omega
 | m+1=>by
  have hl:=ZcN (E:=E) (n:=n) L m
  rcases Zg3 hL m with h | h
  . left
    unfold Zcl;rw [ZhE (by rw [hl,hL]) h n Zl_];exact h
  . by_cases e:ZdI n E (Zcl n E L m) n=Zcl n E L m
    . left
      unfold Zcl;rw [e];exact ZlG (by rw [hl,hL]) e
    . right
      have w:=ZdF (E:=E) (L:=Zcl n E L m) (by rw [hl,hL]) n Zl_;have h1:=(Za2 w).1;have h2:(Zcl n E L m).count true≠(ZdI n E (Zcl n E L m) n).count true:=fun e'=>e ((Za2 w).2 e').symm
      unfold Zcl
      omega
theorem Zqq (hL:L.length=n):Zjx n E (Zcl n E L n):=by
 rcases Zg3 (E:=E) hL n with h | h
 . exact h
 . have:=List.count_le_length (a:=true) (l:=Zcl n E L n)
   rw [ZcN,hL] at this
   omega
def Zgp (n:Nat) (Wa:Nat->Bool) (S:Nat->List Nat) (L:List Bool):Prop:=∀ i,L[i]?.getD false=true->Least n Wa S i
theorem Zop {Wa:Nat->Bool}{S:Nat->List Nat} (hS:∀ k,k < n->∀ i,i ∈ S k↔i < n/\E i k=true) (hL:L.length=n) (h:Zgp n Wa S L) {i:Nat} (hi:i < n):Zgp n Wa S (Zbc E L i n):=fun j hj=>by
 unfold Zbc at hj
 split at hj
 . rename_i hc
   rw [ZhO (by omega)] at hj
   split at hj
   . rename_i e
     subst e;unfold Zdm at hc;rw [List.any_eq_true] at hc;obtain⟨k,hk,h1⟩:=hc;rw [Bool.and_eq_true] at h1;exact .step k j (h k h1.1) ((hS k (List.mem_range.1 hk) j).2 ⟨hi,h1.2⟩)
   . exact h j hj
 . exact h j hj
theorem Zg1 {Wa:Nat->Bool}{S:Nat->List Nat} (hS:∀ k,k < n->∀ i,i ∈ S k↔i < n/\E i k=true) (hL:L.length=n) (h:Zgp n Wa S L):∀ i,i<=n->Zgp n Wa S (ZdI n E L i)
 | 0,_=>h
 | i+1,hi=>Zop hS (by rw [ZdS,hL]) (Zg1 hS hL h i (by omega)) (by omega)
theorem Zf7 {Wa:Nat->Bool}{S:Nat->List Nat} (hS:∀ k,k < n->∀ i,i ∈ S k↔i < n/\E i k=true) (hL:L.length=n) (h:Zgp n Wa S L):∀ m,Zgp n Wa S (Zcl n E L m)
 | 0=>h
 | m+1=>Zg1 hS (by rw [ZcN,hL]) (Zf7 hS hL h m) n Zl_
theorem ZjZ {Wa:Nat->Bool}{S:Nat->List Nat} (hS:∀ k,k < n->∀ i,i ∈ S k↔i < n/\E i k=true) {i:Nat} (h:Least n Wa S i):i < n:=h (· < n) (fun _ hi _=>hi) fun k i ih hs=>((hS k ih i).1 hs).1
theorem Zqr {Wa:Nat->Bool}{S:Nat->List Nat} (hS:∀ k,k < n->∀ i,i ∈ S k↔i < n/\E i k=true) (i:Nat):(Zcl n E ((List.range n).map Wa) n)[i]?.getD false=true↔Least n Wa S i:=by
 have hL:((List.range n).map Wa).length=n:=by simp
 constructor
 . exact Zf7 hS hL (fun j hj=>by
    by_cases h:j < n
    . exact .base j h (by simpa [h] using hj)
    . simp [h] at hj) n i
 . intro h
   have hc:=Zqq (E:=E) hL;have hw:=Zhe (E:=E) hL n
   refine (h (fun i=>i < n/\(Zcl n E ((List.range n).map Wa) n)[i]?.getD false=true) (fun i hi h=>⟨hi,hw.2 i (by simp [hi,h])⟩) fun k i ih hs=>?_).2
   obtain⟨h1,h2⟩:=(hS k ih.1 i).1 hs;exact ⟨h1,hc i k h1 ih.1 ih.2 h2⟩
end
def ZfH (Ss:List Sh) (Os:List Ob) (i k:Nat):Bool:=match Os[i]?,Os[k]? with
 | some a,some b=>Zcz Ss a 3 b.kd b.nm
 | _,_=>false
theorem Zms (hi:i < Os.length) (hk:k < Os.length):ZfH Ss Os i k=Zcz Ss Os[i] 3 Os[k].kd Os[k].nm:=by
 unfold ZfH;rw [List.getElem?_eq_getElem hi,List.getElem?_eq_getElem hk]
def ZtF (Ss:List Sh) (Os:List Ob) (k:Nat):List Nat:=match Os[k]? with
 | some o=>(Zh6 Ss Os Os.length o.kd o.nm).map Int.toNat
 | none=>[]
theorem ZqM (hk:k < Os.length):ZdR (ZtF Ss Os k)=Zh6 Ss Os Os.length Os[k].kd Os[k].nm:=by
 unfold ZdR ZtF;rw [List.getElem?_eq_getElem hk];dsimp only;rw [List.map_map];refine (List.map_congr_left (g:=id) fun x hx=>?_).trans (List.map_id _);obtain⟨i,_,rfl,_⟩:=Zj1.1 hx;simp
theorem Zm1 (k:Nat) (hk:k < Os.length) (i:Nat):i ∈ ZtF Ss Os k↔i < Os.length/\ZfH Ss Os i k=true:=by
 unfold ZtF;rw [List.getElem?_eq_getElem hk];dsimp only;rw [List.mem_map]
 constructor
 . rintro⟨x,hx,rfl⟩
   obtain⟨j,hj,rfl,h⟩:=Zj1.1 hx;have:(j:Int).toNat=j:=by simp
   rw [this];exact⟨hj,by rw [Zms hj hk];exact h⟩
 . rintro⟨hi,h⟩
   rw [Zms hi hk] at h;exact⟨(i:Int),Zj1.2 ⟨i,hi,rfl,h⟩,by simp⟩
def Zeu (Ss:List Sh) (Os:List Ob) (i:Nat):Bool:=(Zcl Os.length (ZfH Ss Os) (ZfE Os) Os.length)[i]?.getD false
def ZeS (Ss:List Sh) (Os:List Ob):List Int:=Zb5 (ZbG Os.length (Zeu Ss Os) (ZaX Os) (ZbN Ss Os)) Os.length
theorem ZlL (Ss:List Sh) (Os:List Ob):(ZeS Ss Os).length<=Os.length:=Zh9 _ _
theorem Zqc (Ss:List Sh) (Os:List Ob) (i:Nat):Zeu Ss Os i=true↔Least Os.length (ZsK Os) (ZtF Ss Os) i:=by
 unfold Zeu;rw [Zn0];exact Zqr (fun k hk i=>Zm1 k hk i) i
theorem Zod (Ss:List Sh) (Os:List Ob):Zcl Os.length (ZfH Ss Os) (ZfE Os) Os.length=(List.range Os.length).map (Zeu Ss Os):=by
 refine List.ext_getElem (by rw [ZcN,ZjL];simp) fun i h1 h2=>?_
 simp [Zeu,List.getElem?_eq_getElem h1]
theorem Zit (Ss:List Sh) (Os:List Ob):passes Os.length (ZaX Os) (ZbN Ss Os) (Zcl Os.length (ZfH Ss Os) (ZfE Os) Os.length) (Os.length+1)=ZbG Os.length (Zeu Ss Os) (ZaX Os) (ZbN Ss Os):=by
 rw [Zod]
 rfl
end
section
variable (lo:Nat) (sv mv tv ov gv lv pv:Value) (Ss:List Sh) (Ms:List Md) (Ts:List Tm) (B:Bk) (FF:Nat->List Zy_) (w:World)
theorem ZiE (hl:ZbH lo w sv mv tv Ss Ms Ts) (h:ZaU lo w ov gv lv pv B) (hn:Zbp B) (hsh:Zcw Ss Ms B.os FF) :
 Calls prog 25 #[.agg #[sv,mv,tv],.agg #[.int .i64 B.now,.int .i64 B.tick,.int .i64 B.given,ov,gv,lv,pv]] w
  fun e w'=>∃ v,e=.returned v/\Zw_ w w'/\Zav w.heap.size w'.heap.size w' v (ZrB Ss Ms Ts B FF (ZeS Ss B.os)):=by
 obtain⟨i0,hi,hz0,hz1,hz2⟩:=info_parts Tryz.info3;have HI3:=Zab (And.intro hi (And.intro hz0 (And.intro hz1 hz2)));clear hi hz0 hz1 hz2;have HL:=Zab hl;have HK:=Zab h;have HN:=Zab hn;have HSH:=Zab hsh;obtain⟨sa,sc,rfl⟩:=hl.shs.form;obtain⟨ma,mc,rfl⟩:=hl.mds.form;obtain⟨ta,tc,rfl⟩:=hl.tms.form;obtain⟨a0,k0,rfl⟩:=h.obs.form;obtain⟨a1,k1,rfl⟩:=h.grs.form;obtain⟨a2,k2,rfl⟩:=h.les.form;obtain⟨a3,k3,rfl⟩:=h.pus.form;clear hl h hn hsh;go_enter func25,ntmps25;go_wp2_with fail;generalize hWa:(World.alloc (w.alloc _) _)=w0;have HB0:Hd (Zw_ w w0):=by rw [<- hWa];exact (Zac w _).alloc (by simp) _
 have HX0:Hd (Box w0 w.heap.size #[.slice sa Ss.length sc,.slice ma Ms.length mc,.slice ta Ts.length tc]):=by rw [<- hWa];exact (Box.new _ _ _ _ rfl).on (Zac _ _)
 have HY0:Hd (Box w0 (w.heap.size+1) #[.int .i64 B.now,.int .i64 B.tick,.int .i64 B.given,.slice a0 B.os.length k0,.slice a1 B.gs.length k1,.slice a2 B.ls.length k2,.slice a3 B.ps.length k3]):=by rw [<- hWa];exact Box.new _ _ _ _ (by simp)
 clear hWa;refine (Zlp lo _ _ _ _ _ _ _ Ss Ms Ts B FF _ (HL.o.below HB0.o) (HK.o.below HB0.o) HN.o HSH.o).mono ?_;rintro e w1 ⟨rfl,hb⟩;have HB1:Hd (Zw_ w w1):=bt HB0.o hb;have HX1:=Zab (HX0.o.on hb);have HY1:=Zab (HY0.o.on hb);clear hb HB0 HX0 HY0;have c0:=HX1.o.cell;have b0:=HY1.o.cell
 cases h0:Zdh Ss Ms Ts B FF with
 | false=>
  obtain⟨hi,hz0,hz1,hz2⟩:=HI3.o;go_wp2;go_ret
  first
   | exact⟨_,rfl,HB1.o,by rw [ZmO h0];exact Or.inl ⟨_,_,rfl,rfl⟩⟩
   | exact⟨_,rfl,HB1.o.alloc HB1.o.size _,by rw [ZmO h0];exact Or.inl ⟨_,_,rfl,rfl⟩⟩
 | true=>
  have HSP:=Zab (Zlo (ZdA h0));have HT:=Zab h0;have hz1:=HB1.o.size;have HLr:=Zab (HL.o.below HB1.o);have HKr:=Zab (HK.o.below HB1.o);have HI:Hd (B.os.length<=1048576):=HN.o.1.1;go_wp2_with fail;refine (Zk1 lo _ _ _ _ B _ HKr.o HN.o.1.1).mono ?_;rintro e w2 ⟨v,rfl,hnn,hb2,hr2⟩;rw [ZjL] at hr2;obtain⟨g2,c2,rfl⟩:=Zsg hr2 hnn;have hgl:=(Zni hr2).1;have HB2:Hd (Zw_ w w2):=bt HB1.o hb2;have HX2:=Zab (HX1.o.on hb2);have HY2:=Zab (HY1.o.on hb2);have HR2:Hd (w2.ownsRow w1.heap.size 4 1 (.slice (some ⟨g2,0,none⟩) B.os.length c2) B.os.length ((Zcl B.os.length (ZfH Ss B.os) (ZfE B.os) 0).map Value.bool)):=hr2;have hb12:w.heap.size+2<=w1.heap.size:=by have:=HY1.o.lt;omega
  clear hnn hr2 hb2 c0 b0 HX1 HY1;have hnb:=HI.o;have hj0:(ZfE B.os).length=B.os.length:=ZjL _;have HE0:=Zab hj0;clear hj0;go_wp2
  go_loopw [6,7,8] (fun q _ _ wr=>∃ m:Nat,q=.int .i64 m/\m<=B.os.length/\Zw_ w wr/\Box wr w.heap.size #[.slice sa Ss.length sc,.slice ma Ms.length mc,.slice ta Ts.length tc]/\Box wr (w.heap.size+1) #[.int .i64 B.now,.int .i64 B.tick,.int .i64 B.given,.slice a0 B.os.length k0,.slice a1 B.gs.length k1,.slice a2 B.ls.length k2,.slice a3 B.ps.length k3]/\wr.ownsRow w1.heap.size 4 1 (.slice (some ⟨g2,0,none⟩) B.os.length c2) B.os.length ((Zcl B.os.length (ZfH Ss B.os) (ZfE B.os) m).map Value.bool)) (fun q _ _ _=>B.os.length - (intOf q).toNat)
  case atStart=>exact⟨0,rfl,Nat.zero_le _,HB2.o,HX2.o,HY2.o,HR2.o⟩
  case round=>
   obtain⟨m,rfl,hm,hb,hx,hy,hr⟩:=hrel;have HBr:=Zab hb;have HXr:=Zab hx;have HYr:=Zab hy;have HR:=Zab hr;clear hb hx hy hr HB2 HX2 HY2 HR2
   by_cases hlt:m < B.os.length
   . go_wp2
     go_loopw [7,8] (fun q _ ws=>∃ i:Nat,q=.int .i64 i/\i<=B.os.length/\Zw_ w ws/\Box ws w.heap.size #[.slice sa Ss.length sc,.slice ma Ms.length mc,.slice ta Ts.length tc]/\Box ws (w.heap.size+1) #[.int .i64 B.now,.int .i64 B.tick,.int .i64 B.given,.slice a0 B.os.length k0,.slice a1 B.gs.length k1,.slice a2 B.ls.length k2,.slice a3 B.ps.length k3]/\ws.ownsRow w1.heap.size 4 1 (.slice (some ⟨g2,0,none⟩) B.os.length c2) B.os.length ((ZdI B.os.length (ZfH Ss B.os) (Zcl B.os.length (ZfH Ss B.os) (ZfE B.os) m) i).map Value.bool)) (fun q _ _=>B.os.length - (intOf q).toNat)
     case atStart=>exact⟨0,rfl,Nat.zero_le _,HBr.o,HXr.o,HYr.o,HR.o⟩
     case round=>
      obtain⟨i,rfl,hi,hb,hx,hy,hr⟩:=hrel;have HBs:=Zab hb;have HXs:=Zab hx;have HYs:=Zab hy;have HRs:=Zab hr;clear hb hx hy hr HBr HXr HYr HR
      by_cases hil:i < B.os.length
      . have hLc:(ZdI B.os.length (ZfH Ss B.os) (Zcl B.os.length (ZfH Ss B.os) (ZfE B.os) m) i).length=B.os.length:=by rw [ZdS,ZcN,HE0.o]
        have hLn:ZdI B.os.length (ZfH Ss B.os) (Zcl B.os.length (ZfH Ss B.os) (ZfE B.os) m) (i+1)=Zbc (ZfH Ss B.os) (ZdI B.os.length (ZfH Ss B.os) (Zcl B.os.length (ZfH Ss B.os) (ZfE B.os) m) i) i B.os.length:=rfl;have HLc:=Zab hLc;have HLn:=Zab hLn;clear hLc hLn;generalize hgn:ZdI B.os.length (ZfH Ss B.os) (Zcl B.os.length (ZfH Ss B.os) (ZfE B.os) m) i=L0 at HRs HLc HLn;clear hgn;have HS0:Hd (Zbc (ZfH Ss B.os) L0 i 0=L0):=Zl0 L0 i;go_wp2
        go_loopw [8] (fun q ws=>∃ k:Nat,q=.int .i64 k/\k<=B.os.length/\Zw_ w ws/\Box ws w.heap.size #[.slice sa Ss.length sc,.slice ma Ms.length mc,.slice ta Ts.length tc]/\Box ws (w.heap.size+1) #[.int .i64 B.now,.int .i64 B.tick,.int .i64 B.given,.slice a0 B.os.length k0,.slice a1 B.gs.length k1,.slice a2 B.ls.length k2,.slice a3 B.ps.length k3]/\ws.ownsRow w1.heap.size 4 1 (.slice (some ⟨g2,0,none⟩) B.os.length c2) B.os.length ((Zbc (ZfH Ss B.os) L0 i k).map Value.bool)) (fun q _=>B.os.length - (intOf q).toNat)
        case atStart=>exact⟨0,rfl,Nat.zero_le _,HBs.o,HXs.o,HYs.o,by rw [HS0.o];exact HRs.o⟩
        case round=>
         obtain⟨k,rfl,hk,hb,hx,hy,hr⟩:=hrel;have HBt:=Zab hb;have HXt:=Zab hx;have HYt:=Zab hy;have HRt:=Zab hr;clear hb hx hy hr HBs HXs HYs HRs HS0
         by_cases hkl:k < B.os.length
         . have HSU:=Zab (ZlZ (E:=ZfH Ss B.os) (L:=L0) (i:=i) (k:=k) (by rw [HLc.o];exact hil))
           have HOE:=Zab (Zms (Ss:=Ss) hil hkl);have hLk:(Zbc (ZfH Ss B.os) L0 i k).length=B.os.length:=by rw [ZgC,HLc.o]
           have HLk:=Zab hLk;clear hLk;generalize hgn:Zbc (ZfH Ss B.os) L0 i k=Lk at HRt HSU HLk;clear hgn;have hkL:k < Lk.length:=by rw [HLk.o];exact hkl
           have hiL:i < Lk.length:=by rw [HLk.o];exact hil
           have hck:wr.cell? ⟨g2,k,none⟩=some (.bool Lk[k]):=Zkc (cap:=c2) (by rw [HLk.o];exact HRt.o) hkL;have hge:Lk[k]?.getD false=Lk[k]:=by rw [List.getElem?_eq_getElem hkL];rfl
           have hk0:(0:Int)<=(k:Int):=by omega
           have hk1:(k:Int) < (B.os.length:Int):=by omega
           have hi0:(0:Int)<=(i:Int):=by omega
           have hi1:(i:Int) < (B.os.length:Int):=by omega
           have hlow:=Zni HRt.o;have HNM:=Zab (ZhZ lo _ _ _ _ _ _ _ Ss Ms Ts B i k 3 wr (HL.o.below HBt.o) (HK.o.below HBt.o) HSP.o hil hkl);rw [<- HOE.o] at HNM;have x:=HXt.o.cell;have y:=HYt.o.cell
           cases hq:Lk[k] with
           | false=>
            rw [hq] at hck;have HE:Hd (Zbc (ZfH Ss B.os) L0 i (k+1)=Lk):=by unfold Hd;rw [HSU.o,hge,hq];rfl
            clear x y;go_wp2;go_roundw
            case measure=>simp [intOf];omega
            case rel=>exact⟨k+1,by go_num,by omega,HBt.o,HXt.o,HYt.o,by rw [HE.o];exact HRt.o⟩
           | true=>
            rw [hq] at hck
            cases ho:ZfH Ss B.os i k with
            | false=>
             have HE:Hd (Zbc (ZfH Ss B.os) L0 i (k+1)=Lk):=by unfold Hd;rw [HSU.o,ho,Bool.and_false];rfl
             rw [ho] at HNM;go_wp2_with (go_at_call 72;refine HNM.o.mono ?_;rintro e w3 ⟨rfl,hb3⟩;have HB3:=Zab (bt HBt.o hb3);have HX3:=Zab (HXt.o.on hb3);have HY3:=Zab (HYt.o.on hb3);have HR3:=Zab (Zdd HRt.o hb3);clear hb3);go_roundw
             case measure=>simp [intOf];omega
             case rel=>exact⟨k+1,by go_num,by omega,HB3.o,HX3.o,HY3.o,by rw [HE.o];exact HR3.o⟩
            | true=>
             have HE:Hd (Zbc (ZfH Ss B.os) L0 i (k+1)=Lk.set i true):=by unfold Hd;rw [HSU.o,ho,hge,hq];rfl
             rw [ho] at HNM;have hci:wr.cell? ⟨g2,i,none⟩=some (.bool Lk[i]):=Zkc (cap:=c2) (by rw [HLk.o];exact HRt.o) hiL;have HFR:Hd (∀ W,Below wr.heap.size wr W->W.frozen? ⟨g2,i,none⟩=false/\W.cell? ⟨g2,i,none⟩=some (.bool Lk[i])):=fun W hW=>⟨(Zdd HRt.o hW).frozenAt i,(hW.cell (p:=⟨g2,i,none⟩) hlow.2).trans hci⟩
             have SET:Hd (∀ W,Below wr.heap.size wr W->Zw_ w (W.setCell ⟨g2,i,none⟩ (.bool true))/\Box (W.setCell ⟨g2,i,none⟩ (.bool true)) w.heap.size #[.slice sa Ss.length sc,.slice ma Ms.length mc,.slice ta Ts.length tc]/\Box (W.setCell ⟨g2,i,none⟩ (.bool true)) (w.heap.size+1) #[.int .i64 B.now,.int .i64 B.tick,.int .i64 B.given,.slice a0 B.os.length k0,.slice a1 B.gs.length k1,.slice a2 B.ls.length k2,.slice a3 B.ps.length k3]/\(W.setCell ⟨g2,i,none⟩ (.bool true)).ownsRow w1.heap.size 4 1 (.slice (some ⟨g2,0,none⟩) B.os.length c2) B.os.length ((Lk.set i true).map Value.bool)):=fun W hW=>by
              obtain⟨r1,r2⟩:=(Zdd HRt.o hW).stored i (.bool true);refine⟨(bt HBt.o hW).setCell (by simp only [];omega) _,(HXt.o.on hW).row r2 (fun e=>by injection e with e;omega),(HYt.o.on hW).row r2 (fun e=>by injection e with e;omega),?_⟩;rw [List.map_set];exact r1
             clear hci;go_wp2_with (go_at_call 72;refine HNM.o.mono ?_;rintro e w3 ⟨rfl,hb3⟩;obtain⟨hf2,hc2⟩:=HFR.o _ hb3;have HS2:=Zab (SET.o _ hb3);clear hb3);go_roundw
             case measure=>simp [intOf];omega
             case rel=>exact⟨k+1,by go_num,by omega,HS2.o.1,HS2.o.2.1,HS2.o.2.2.1,by rw [HE.o];exact HS2.o.2.2.2⟩
         . have hke:k=B.os.length:=by omega
           rw [hke,<- HLn.o] at HRt;go_wp2;go_roundw
           case measure=>simp [intOf];omega
           case rel=>exact⟨i+1,by go_num,by omega,HBt.o,HXt.o,HYt.o,HRt.o⟩
      . have hie:i=B.os.length:=by omega
        rw [hie] at HRs;go_wp2;go_roundw
        case measure=>simp [intOf];omega
        case rel=>exact⟨m+1,by go_num,by omega,HBs.o,HXs.o,HYs.o,HRs.o⟩
   . have hme:m=B.os.length:=by omega
     rw [hme] at HR;have hjl:(Zcl B.os.length (ZfH Ss B.os) (ZfE B.os) B.os.length).length=B.os.length:=by rw [ZcN,HE0.o]
     have HJL:=Zab hjl;clear hjl hme;have HGF:=Zab (Zit Ss B.os);have hgl2:(ZbG B.os.length (Zeu Ss B.os) (ZaX B.os) (ZbN Ss B.os)).length=B.os.length:=ZkK;have x:=HXr.o.cell;have y:=HYr.o.cell;have HG2:=Zab (Zni HR.o).2
     have HBA:Hd (Zch wr (.slice (some ⟨g2,0,none⟩) B.os.length c2) (Zcl B.os.length (ZfH Ss B.os) (ZfE B.os) B.os.length)):=by
      unfold Hd;exact Zch.of_row (by rw [HJL.o];exact HR.o)
     clear HR;go_wp2_with fail;refine (ZiB lo _ _ _ _ _ _ _ _ _ Ss Ms Ts B (Zcl B.os.length (ZfH Ss B.os) (ZfE B.os) B.os.length) _ (HL.o.below HBr.o) (HK.o.below HBr.o) HSP.o HBA.o HG2.o HJL.o HN.o.1.1).mono ?_;rintro e w3 ⟨g3,c3,rfl,hb3,hr3⟩;have HB3:Hd (Zw_ w w3):=bt HBr.o hb3;rw [HGF.o] at hr3;have HR3:=Zab hr3;clear hr3 hb3 x y;go_wp2_with fail;refine (Zk2 _ (ZbG B.os.length (Zeu Ss B.os) (ZaX B.os) (ZbN Ss B.os)) _ (Zch.of_row (by rw [hgl2];exact HR3.o)) (by rw [hgl2];exact HN.o.1.1)).mono ?_;rintro e w4 ⟨v4,rfl,hb4,hi4⟩;have HB4:Hd (Zw_ w w4):=bt HB3.o hb4;have hz3:=HB3.o.size;rw [hgl2] at hi4;have HI4:Hd (Zav w.heap.size w4.heap.size w4 v4 (ZeS Ss B.os)):=Zav.wide hi4 hz3 Zl_;clear hi4 hb4;go_wp2;go_ret
     exact⟨v4,rfl,HB4.o,by rw [Zno HT.o];exact HI4.o⟩
end
end Go.Proofs.YtmappejlmapboaaGreat
