import Derived.Test.YtdeammfdkaomlaaGreatM31
import Derived.Test.YtdeammfdkaomlaaGreatM33
import Derived.Lib.Overlaps
import Derived.Lib.AppendZeros
import Derived.Deep.RegionLaw
set_option maxHeartbeats 16000000
set_option maxRecDepth 100000
open Go.Proofs.Tryz
namespace Go.Proofs.YtdeammfdkaomlaaGreat
open Go.RowKit Go.Deep
section
variable {P:Program} {k g o j:Nat} {W w:World} {vs:List Value}
theorem ZaQ (w:World) (dT sT ty elem:TypeId) (k b o dLen dCap:Nat) (a:Addr) (sLen sCap m:Nat) (cs:List Value)
 (hu:P.underlying dT=some (.slice elem)) (hs:(P.info? elem).map (·.size)=some k) (hm:Nat.min sLen dLen=m) (hn:cs.length=m*k)
 (hsrc:∀ j v,cs[j]?=some v->w.cell? (a.add j)=some v) (hc:∀ j,j < cs.length->(w.cell? ⟨b,o+j,none⟩).isSome=true) (hf:∀ j,w.frozen? ⟨b,j,none⟩=false) (h1:∀ v ∈ cs,v.oneCell'=true) :
 (Builtin.copy_ #[dT,sT] ty #[.slice (some ⟨b,o,none⟩) dLen dCap,.slice (some a) sLen sCap]).run P w=.ok (goInt m) (w.setCells b o cs):=by
 subst hm;have hl:=run_firstCells_some (P:=P) w k (Nat.min sLen dLen) a sLen sCap cs hn hsrc;have hst:=run_storeCells_cells (P:=P) b o cs 0 w (by simpa using hc) (fun j _=>hf _) h1;simp only [Nat.add_zero] at hst
 cases hq:P.info? elem with
 | none=>simp [hq] at hs
 | some i=>
  have hi:i.size=k:=by simpa [hq] using hs
  simp [Builtin.copy_,run_underlying hu,Builtin.lenOf,sizeOf,typeInfo,hq,hi,hl,hst]
theorem ZbR (w:World) (t tn ty e:TypeId) (i:TypeInfo) (z:Value) (k kn:IntKind) (ht:P.underlying t=some (.slice e)) (htn:P.underlying tn=some (.int kn)) (hi:P.info? e=some i) (hz:i.zero=some z)
 (b:Addr) (sLen sCap n:Nat) (olds:List Value) (hlo:olds.length=sLen*i.size) (holds:∀ j v,olds[j]?=some v->w.cell? (b.add j)=some v)
 (h0:0 < n) (hs:0 < i.size) (hg:sCap < sLen+n) (h63:((sLen+n:Nat):Int)<=9223372036854775807) (hfit:Builtin.nextslicecap (sLen+n) sCap*i.bytes<=281474976710656) (h48:n*i.bytes<=281474976710656) :
 (Builtin.append_ #[t,tn] ty #[.slice (some b) sLen sCap,.int k n]).run P w=
   .ok (.slice (some ⟨w.heap.size,0,none⟩) (sLen+n) (grownCap w (sLen+n) sCap e))
    (w.drew.alloc (.cells (olds.toArray ++ Builtin.zeroCells z.cells n ++ Builtin.zeroCells z.cells (grownCap w (sLen+n) sCap e - (sLen+n))) e)):=by
 have hn:¬ (sLen+n<=sCap):=by omega
 have hn0:n≠0:=by omega
 have hw:IntKind.i64.wrap (n:Int)=n:=by rw [IntKind.wrap_i64];omega
 have h63':¬ (9223372036854775807 < ((sLen:Int)+(n:Int))):=by omega
 have h48':¬ (281474976710656 < Builtin.nextslicecap (sLen+n) sCap*i.bytes):=by omega
 have h48i:¬ (281474976710656 < (n:Int)*(i.bytes:Int)):=by rw [<- Int.natCast_mul];omega
 have hneg:¬ ((n:Int) < 0):=by omega
 have hns:¬ (n*i.size=0):=Nat.mul_ne_zero hn0 (by omega);have hfo:=run_firstCells_some (P:=P) w.drew i.size sLen b sLen sCap olds hlo (by simpa using holds);simp [Builtin.append_,run_underlying ht,run_underlying htn,sizeOf,typeInfo,zeroValue,hi,hz,asInt,asIntOf,hw,hn,hneg,hns,h63',h48',h48i,Question.forced,hfo,newRow,grownCap]
theorem Zg9 {X:Type}{f:X->List Value} (hk:∀ x,(f x).length=k) (L:List X) (i:Nat) (hi:i<=L.length):Zai f (L.take i)=(Zai f L).take (i*k)/\Zai f (L.drop i)=(Zai f L).drop (i*k):=by
 have e:Zai f L=Zai f (L.take i) ++ Zai f (L.drop i):=by rw [<- Zbg,List.take_append_drop]
 have hl:(Zai f (L.take i)).length=i*k:=by rw [Zaw hk,List.length_take,Nat.min_eq_left hi]
 rw [e];exact⟨(List.take_left' hl).symm,(List.drop_left' hl).symm⟩
theorem ZhW {X:Type}{f:X->List Value} (hk:∀ x,(f x).length=k) (L:List X) (x:X) (i:Nat) (hi:i<=L.length):Zai f (L.take i ++ [x] ++ L.drop i)=(Zai f L).take (i*k) ++ f x ++ (Zai f L).drop (i*k):=by
 obtain⟨h1,h2⟩:=Zg9 hk L i hi;rw [Zbg,Zbg,h1,h2];simp [Zai]
theorem Zil {X:Type}{f:X->List Value} (hk:∀ x,(f x).length=k) {L:List X} {x:X} {i:Nat} (hi:i<=L.length) {W:World} {g:Nat}
 (h1:∀ j,j < i*k->W.cell? ⟨g,j,none⟩=(Zai f L)[j]?) (h2:∀ j,j < k->W.cell? ⟨g,i*k+j,none⟩=(f x)[j]?) (h3:∀ j,j < (L.length - i)*k->W.cell? ⟨g,i*k+k+j,none⟩=(Zai f L)[i*k+j]?) :
 W.rangeAt g 0 (Zai f (L.take i ++ [x] ++ L.drop i)):=by
 have hl:(Zai f L).length=L.length*k:=Zaw hk L;have hik:i*k<=L.length*k:=Nat.mul_le_mul_right _ hi;rw [ZhW hk L x i hi];intro j v hv;rw [Nat.zero_add];have hlt:((Zai f L).take (i*k)).length=i*k:=by rw [List.length_take,hl];omega
 have hsub:(L.length - i)*k=L.length*k - i*k:=Nat.sub_mul _ _ _;rw [List.append_assoc] at hv
 rcases Nat.lt_or_ge j (i*k) with q | q
 . rw [List.getElem?_append_left (by rw [hlt];exact q),List.getElem?_take,if_pos q] at hv
   rw [h1 j q,hv]
 . rw [List.getElem?_append_right (by rw [hlt];exact q),hlt] at hv
   rcases Nat.lt_or_ge (j - i*k) k with r | r
   . rw [List.getElem?_append_left (by rw [hk];exact r)] at hv
     have:=h2 (j - i*k) r;rw [show i*k+(j - i*k)=j by omega] at this;rw [this,hv]
   . rw [List.getElem?_append_right (by rw [hk];exact r),hk,List.getElem?_drop] at hv
     have hb:=(List.getElem?_eq_some_iff.1 hv).1;rw [hl] at hb;have:=h3 (j - i*k - k) (by omega);rw [show i*k+k+(j - i*k - k)=j by omega] at this;rw [this,hv]
theorem Zbz (o:Nat) (vs:List Value) {j:Nat} (h:∀ t,t < vs.length->(W.cell? ⟨g,o+t,none⟩).isSome=true) (hj:(W.cell? ⟨g,j,none⟩).isSome=true):((W.setCells g o vs).cell? ⟨g,j,none⟩).isSome=true:=by
 by_cases q:o<=j/\j < o+vs.length
 . have:=World.cell?_setCells_in g vs o W h (j - o) (by omega)
   rw [show o+(j - o)=j by omega] at this;rw [this]
   rfl
 . rw [World.cell?_setCells_out g vs o W ⟨g,j,none⟩ (fun _ _=>by simp only [];omega)]
   exact hj
theorem ZcH (h:∀ t,t < vs.length->(W.cell? ⟨g,o+t,none⟩).isSome=true) {j:Nat} (hj:j < vs.length):(W.setCells g o vs).cell? ⟨g,o+j,none⟩=vs[j]?:=by
 rw [World.cell?_setCells_in g vs o W h j hj,List.getElem?_eq_getElem hj]
theorem Zbs (hj:j < o\/o+vs.length<=j):(W.setCells g o vs).cell? ⟨g,j,none⟩=W.cell? ⟨g,j,none⟩:=World.cell?_setCells_out g vs o W ⟨g,j,none⟩ (fun _ _=>hj)
theorem FR.insIn {X:Type}{f:X->List Value} (hk:∀ x,(f x).length=k) {w:World} {g cap:Nat} {L:List X} (h:FR f k w g (g+1) g cap L) {i:Nat} (hi:i < L.length) (hc:L.length+1<=cap) (x:X) {o1 o2:Nat} (e1:o1=(i+1)*k) (e2:o2=i*k) :
 FR f k ((w.setCells g o1 ((Zai f L).drop (i*k))).setCells g o2 (f x)) g (g+1) g cap (L.take i ++ [x] ++ L.drop i):=by
 subst e1 e2;have hl:(Zai f L).length=L.length*k:=Zaw hk L;have hdl:((Zai f L).drop (i*k)).length=(L.length - i)*k:=by rw [List.length_drop,hl,Nat.sub_mul]
 have hik:(i+1)*k=i*k+k:=Nat.succ_mul _ _;have hsub:(L.length - i)*k=L.length*k - i*k:=Nat.sub_mul _ _ _;have hle:(i+1)*k<=L.length*k:=Nat.mul_le_mul_right _ hi;have hck:(L.length+1)*k<=cap*k:=Nat.mul_le_mul_right _ hc;rw [Nat.succ_mul] at hck;have c1:∀ t,t < ((Zai f L).drop (i*k)).length->(w.cell? ⟨g,(i+1)*k+t,none⟩).isSome=true:=fun t ht=>h.th _ (by rw [hdl] at ht;omega)
 have c2:∀ t,t < (f x).length->((w.setCells g ((i+1)*k) ((Zai f L).drop (i*k))).cell? ⟨g,i*k+t,none⟩).isSome=true:=fun t ht=>Zbz _ _ c1 (h.th _ (by rw [hk] at ht;omega))
 refine⟨Nat.le_refl _,Nat.lt_succ_self _,by rw [Za6,Za6];exact h.lt,by simp;omega,h.mx,fun j hj=>Zbz _ _ c2 (Zbz _ _ c1 (h.th j hj)),fun j=>by rw [World.frozen?_setCells,World.frozen?_setCells];exact h.fz j,?_⟩;refine Zil hk (Nat.le_of_lt hi) (fun j hj=>?_) (fun j hj=>?_) (fun j hj=>?_)
 . rw [Zbs (Or.inl hj),Zbs (Or.inl (by omega))]
   obtain⟨v,hv⟩:∃ v,(Zai f L)[j]?=some v:=⟨_,List.getElem?_eq_getElem (by rw [hl];omega)⟩
   rw [hv];have:=h.rg j v hv
   rwa [Nat.zero_add] at this
 . exact ZcH c2 (by rw [hk];exact hj)
 . rw [Zbs (Or.inr (by rw [hk];omega)),<- hik,ZcH c1 (by rw [hdl];exact hj),List.getElem?_drop]
theorem FR.insNew {X:Type}{f:X->List Value} (hk:∀ x,(f x).length=k) {W:World} {n cap:Nat} {L:List X} (hn:n < W.heap.size) (hth:∀ j,j < cap*k->(W.cell? ⟨n,j,none⟩).isSome=true) (hfz:∀ j,W.frozen? ⟨n,j,none⟩=false) (hm:cap<=maxLen) {i:Nat} (hi:i < L.length) (hc:L.length+1<=cap) (x:X) (hold:∀ j,j < i*k->W.cell? ⟨n,j,none⟩=(Zai f L)[j]?) {o1 o2:Nat} (e1:o1=(i+1)*k) (e2:o2=i*k) :
 FR f k ((W.setCells n o2 (f x)).drew.setCells n o1 ((Zai f L).drop (i*k))) n (n+1) n cap (L.take i ++ [x] ++ L.drop i):=by
 subst e1 e2;have hl:(Zai f L).length=L.length*k:=Zaw hk L;have hdl:((Zai f L).drop (i*k)).length=(L.length - i)*k:=by rw [List.length_drop,hl,Nat.sub_mul]
 have hik:(i+1)*k=i*k+k:=Nat.succ_mul _ _;have hsub:(L.length - i)*k=L.length*k - i*k:=Nat.sub_mul _ _ _;have hle:(i+1)*k<=L.length*k:=Nat.mul_le_mul_right _ hi;have hck:(L.length+1)*k<=cap*k:=Nat.mul_le_mul_right _ hc;rw [Nat.succ_mul] at hck;have c2:∀ t,t < (f x).length->(W.cell? ⟨n,i*k+t,none⟩).isSome=true:=fun t ht=>hth _ (by rw [hk] at ht;omega)
 have c1:∀ t,t < ((Zai f L).drop (i*k)).length->((W.setCells n (i*k) (f x)).drew.cell? ⟨n,(i+1)*k+t,none⟩).isSome=true:=fun t ht=>Zbz (W:=W) _ _ c2 (hth _ (by rw [hdl] at ht;omega))
 refine⟨Nat.le_refl _,Nat.lt_succ_self _,?_,by simp;omega,hm,fun j hj=>Zbz _ _ c1 (Zbz (W:=W) _ _ c2 (hth j hj)),fun j=>?_,?_⟩
 . rw [Za6]
   show n < (W.setCells n (i*k) (f x)).heap.size
   rw [Za6];exact hn
 . rw [World.frozen?_setCells]
   show (W.setCells n (i*k) (f x)).frozen? _=false
   rw [World.frozen?_setCells];exact hfz j
 refine Zil hk (Nat.le_of_lt hi) (fun j hj=>?_) (fun j hj=>?_) (fun j hj=>?_)
 . rw [Zbs (Or.inl (by omega))]
   show (W.setCells n (i*k) (f x)).cell? _=_
   rw [Zbs (Or.inl hj)];exact hold j hj
 . rw [Zbs (Or.inl (by omega))]
   show (W.setCells n (i*k) (f x)).cell? _=_
   exact ZcH c2 (by rw [hk];exact hj)
 . rw [<- hik,ZcH c1 (by rw [hdl];exact hj),List.getElem?_drop]
theorem ZdW (h:(w.cell? ⟨g,j,none⟩).isSome=true):∃ t k,w.shape? g=some (t,k)/\k≠0:=by
 unfold World.cell? at h;unfold World.shape?
 cases hq:w.heap[g]? with
 | none=>simp [hq] at h
 | some o=>
  cases o <;> simp_all
  exact⟨_,_,⟨rfl,rfl⟩,by omega⟩
theorem Zad.drewL {lo hi:Nat}{w':World} (h:Zad lo hi w.drew w'):Zad lo hi w w':=⟨h.os,h.tape,h.output,h.size,h.block⟩
end
theorem Zhe (g i vb cap:Nat) (L:List Int) (x:Int) (w:World) (hfr:FR inL 1 w g (g+1) g cap L) (hi:i<=L.length) (hn:L.length<=1000000) (hvb:vb≠g) (hv:Box w vb (inL x).toArray) :
 Calls prog 213 #[.slice (some ⟨g,0,none⟩) L.length cap,.int .i64 i,.slice (some ⟨vb,0,none⟩) 1 1] w fun e w'=>∃ v',e=.returned v'/\Zad g (g+1) w w'/\(ZaH inL 1 w' g (g+1) v' (L.take i ++ [x] ++ L.drop i)\/ZaH inL 1 w' w.heap.size w'.heap.size v' (L.take i ++ [x] ++ L.drop i)):=by
 have HF:=Zaa hfr;have HV:=Zaa hv;have hvlt:=hv.lt;have hglt:=hfr.lt;have hlc:L.length<=cap:=hfr.le;have hcm:=hfr.mx;have HXL:Hd ((Zai inL L).length=L.length*1):=Zaw ZaE L;have HONE:Hd (∀ u ∈ inL x,u.oneCell'=true):=fun u hu=>ZaO [x] u (by simpa [Zai] using hu)
 have HFL:Hd ((inL x).length=1):=ZaE x
 have HVC:Hd (∀ W:World,W.heap[vb]?=w.heap[vb]?->∀ j u,(inL x)[j]?=some u->W.cell? ((⟨vb,0,none⟩:Addr).add j)=some u):=fun W hW j u hu=>by
  rw [Go.WideShapes.add_plain,Nat.zero_add,World.cell?_of_block (w:=w) (a:=⟨vb,j,none⟩) hW,HV.o.cell j]
  simpa using hu
 clear hfr hv;generalize hRR:L.take i ++ [x] ++ L.drop i=R;have HRR:=Zaa hRR;clear hRR
 by_cases hil:i=L.length
 . subst hil
   have HEN:Hd (R=L ++ [x]):=by unfold Hd;rw [<- HRR.o];simp
   have hii:(L.length:Int)<=L.length:=Int.le_refl _;have hz:¬ ((L.length:Int) < 0):=by omega
   obtain⟨v',w',hrun,ht,hrow⟩:=ZeK ZaE (by decide) underlying51 Zbe rfl (w:=w) (lo:=g) (hi':=g+1) (L:=L) (M:=[x]) 51 ⟨g,cap,rfl,HF.o⟩ (some ⟨vb,0,none⟩) 1 1 rfl (fun e=>by cases e) (fun ad e j u hu=>by
    injection e with e
    subst e;exact HVC.o w rfl j u (by simpa [Zai] using hu)) (ZaO _) (by simp;omega) (by decide)
   have HT:=Zaa ht;have HRW:=Zaa hrow;clear ht hrow
   by_cases hcl:cap=L.length
   all_goals
    go_enter func213,ntmps213;go_wp2_with (at_builtin;refine wpList_append_run rfl (.tmp 23) (.tmp 24) 51 rfl rfl rfl hrun ?_);go_ret;refine⟨v',rfl,HT.o,?_⟩;rw [HEN.o];exact HRW.o
 have hlt:i < L.length:=by omega
 obtain⟨i0,hin,hz0,hz1,hz2⟩:=info_parts Zbe;have HI:=Zaa (And.intro hin (And.intro hz0 (And.intro hz1 hz2)));have HSZ:Hd ((prog.info? 3).map (·.size)=some 1):=by unfold Hd;rw [hin];simp [hz1]
 clear hin hz0 hz1 hz2
 have HGC:Hd (∀ W:World,W.heap[g]?=w.heap[g]?->∀ j,j < L.length*1->W.cell? ⟨g,j,none⟩=(Zai inL L)[j]?):=fun W hW j hj=>by
  rw [World.cell?_of_block (w:=w) (a:=⟨g,j,none⟩) hW];obtain⟨u,hu⟩:∃ u,(Zai inL L)[j]?=some u:=⟨_,List.getElem?_eq_getElem (by rw [HXL.o];exact hj)⟩
  rw [hu];have:=HF.o.rg j u hu
  rwa [Nat.zero_add] at this
 have hii:¬ ((i:Int)=(L.length:Int)):=by omega
 have hi1:(i:Int)<=(L.length:Int):=by omega
 have hcapI:(cap:Int)<=9223372036854775807:=by unfold maxLen at hcm;omega
 have hw1:IntKind.wrap .i64 ((L.length:Int)+1)=(L.length:Int)+1:=by rw [IntKind.wrap_i64];omega
 have hw2:IntKind.wrap .i64 ((i:Int)+1)=(i:Int)+1:=by rw [IntKind.wrap_i64];omega
 have hti:((i:Int)+1).toNat=i+1:=by omega
 have htn:((L.length:Int)+1).toNat=L.length+1:=by omega
 have hb1:¬ (cap=i):=by omega
 have hb3:i<=cap:=by omega
 have hdl:((Zai inL L).drop (i*1)).length=(L.length - i)*1:=by rw [List.length_drop,HXL.o,Nat.sub_mul]
 clear hil
 by_cases hroom:L.length+1<=cap
 . have hb4:¬ (cap=i+1):=by omega
   have hb5:i+1<=cap:=by omega
   have hq1:(0:Int)<=(i:Int)+1:=by omega
   have hq2:(i:Int)+1<=(L.length:Int)+1:=by omega
   have hq3:(i:Int)<=(L.length:Int)+1:=by omega
   have hq4:i<=L.length+1:=by omega
   have hb6:(L.length:Int)+1<=(cap:Int):=by omega
   have hb7:i<=L.length:=by omega
   have hb8:¬ ((cap:Int) < (L.length:Int)+1):=by omega
   obtain⟨tA,kA,hsa,-⟩:=ZdW (w:=w) (g:=vb) (j:=0) (by rw [HV.o.cell 0];simp [HFL.o]);obtain⟨tB,kB,hsb,hkB⟩:=ZdW (HF.o.th 0 (by omega))
   have hov:∀ o lb cb,(callFunc 222 #[.slice (some ⟨vb,0,none⟩) 1 1,.slice (some ⟨g,o,none⟩) lb cb]).run prog w=.ok (.value (.bool false)) w:=fun o lb cb=>by
    rw [run_callFunc_extern func222 (by kernel_rfl) (by kernel_rfl) (by kernel_rfl) (e:=Extern.SlicesOverlaps.overlaps #[51,51] #[4]) (by kernel_rfl),
     Lib.run_overlaps_apart w 51 4 3 underlying51 1 (fun w=>by simp [sizeOf,typeInfo,HI.o.1,HI.o.2.2.1]) ⟨vb,0,none⟩ ⟨g,o,none⟩ 1 1 lb cb hvb tA tB kA kB hsa hsb hkB (HV.o.free 0) (HV.o.free _)]
    rfl
   have hcp1:∀ ty dc sc,(Builtin.copy_ #[51,51] ty #[.slice (some ⟨g,i+1,none⟩) (L.length - i) dc,.slice (some ⟨g,i,none⟩) (L.length+1 - i) sc]).run prog w.drew=.ok (goInt (L.length - i:Nat)) (w.drew.setCells g (i+1) ((Zai inL L).drop (i*1))):=fun ty dc sc=>
    ZaQ w.drew _ _ ty 3 1 g (i+1) _ dc ⟨g,i,none⟩ _ sc (L.length - i) _ underlying51 HSZ.o (by show min _ _=_;omega) hdl (fun j u hj=>by
     rw [Go.WideShapes.add_plain,HGC.o w.drew rfl _ (by have:=(List.getElem?_eq_some_iff.1 hj).1;rw [hdl] at this;omega)];rw [List.getElem?_drop] at hj
     simpa using hj) (fun j hj=>HF.o.th _ (by rw [hdl] at hj;omega)) (fun j=>HF.o.fz j) (fun u hu=>ZaO _ u (List.mem_of_mem_drop hu))
   obtain⟨W1,hW1⟩:∃ W1,W1=w.drew.setCells g (i+1) ((Zai inL L).drop (i*1)):=⟨_,rfl⟩
   have hF1:∀ j,(W1.cell? ⟨g,j,none⟩).isSome=(w.cell? ⟨g,j,none⟩).isSome\/(W1.cell? ⟨g,j,none⟩).isSome=true:=fun j=>by
    cases hq:(w.cell? ⟨g,j,none⟩).isSome with
    | true=>exact Or.inr (by rw [hW1];exact Zbz (W:=w.drew) _ _ (fun t ht=>HF.o.th _ (by rw [hdl] at ht;omega)) hq)
    | false=>
     by_cases q:i+1<=j/\j < i+1+((Zai inL L).drop (i*1)).length
     . have:=HF.o.th j (by have:=q.2;rw [hdl] at this;omega)
       rw [hq] at this
       cases this
     . exact Or.inl (by rw [hW1,Zbs (by omega)];exact hq)
   have hT1:Zad g (g+1) w W1:=by rw [hW1];exact Zad.drewL (Zad.sets ⟨Nat.le_refl _,Nat.lt_succ_self _⟩ _ _ _)
   have hcp2:∀ ty dc,(Builtin.copy_ #[51,51] ty #[.slice (some ⟨g,i,none⟩) (L.length+1 - i) dc,.slice (some ⟨vb,0,none⟩) 1 1]).run prog W1=.ok (goInt (1:Nat)) (W1.setCells g (i) (inL x)):=fun ty dc=>
    ZaQ W1 _ _ ty 3 1 g (i) _ dc ⟨vb,0,none⟩ 1 1 1 _ underlying51 HSZ.o (by show min _ _=_;omega) (by rw [HFL.o]) (HVC.o W1 (hT1.block vb hvlt (by omega))) (fun j hj=>by
     have hth:=HF.o.th (i+j) (by rw [HFL.o] at hj;omega)
     rcases hF1 (i+j) with q | q
     . rw [q];exact hth
     . exact q) (fun j=>by rw [hW1,World.frozen?_setCells];exact HF.o.fz j) HONE.o
   rw [<- hW1] at hcp1;obtain⟨W2,hW2⟩:∃ W2,W2=W1.setCells g (i) (inL x):=⟨_,rfl⟩
   have HR2:Hd (FR inL 1 (W1.setCells g (i) (inL x)) g (g+1) g cap R):=by
    unfold Hd;rw [hW1,<- HRR.o];have hd:FR inL 1 w.drew g (g+1) g cap L:=⟨HF.o.bs,HF.o.up,HF.o.lt,HF.o.le,HF.o.mx,HF.o.th,HF.o.fz,HF.o.rg⟩;exact hd.insIn ZaE hlt hroom x (by omega) (by omega)
   have HT2:Hd (Zad g (g+1) w (W1.setCells g (i) (inL x))):=hT1.trans (Zad.sets ⟨Nat.le_refl _,Nat.lt_succ_self _⟩ _ _ _);have HLN:Hd (R.length=L.length+1):=by unfold Hd;rw [<- HRR.o];simp;omega
   rw [<- hW2] at hcp2 HR2 HT2;clear hW2;clear hW1 hF1 hT1 hdl hsa hsb;go_enter func213,ntmps213;go_wp2_with (simp only [hov]);clear hov
   go_region_law (refine step_copy_runF rfl (.tmp 73) (.tmp 76) 51 51 rfl _ _ (by simp [Act.eval,Act.put]) (by simp [Act.eval,Act.put]) (hcp1 _ _ _) ?_)
   clear hcp1;go_wp2_with (simp only [hcp2]);clear hcp2;go_ret;exact⟨_,rfl,HT2.o,Or.inl ⟨g,cap,by rw [HLN.o];rfl,HR2.o⟩⟩
 . have hgr:cap < i+(L.length+1 - i):=by omega
   have hb8:(cap:Int) < (L.length:Int)+1:=by omega
   have hw3:IntKind.wrap .i64 ((L.length:Int)+1 - (i:Int))=((L.length+1 - i:Nat):Int):=by rw [IntKind.wrap_i64];omega
   have hie:i+(L.length+1 - i)=L.length+1:=by omega
   have hap:=fun ty=>ZbR (P:=prog) w 51 3 ty 3 i0 (.int .i64 0) .i64 .i64 underlying51 underlying3 HI.o.1 HI.o.2.1 ⟨g,0,none⟩ i cap (L.length+1 - i) ((Zai inL L).take (i*1)) (by rw [List.length_take,HXL.o,HI.o.2.2.1];omega) (fun j u hj=>by
    rw [List.getElem?_take] at hj
    split at hj
    . rw [Go.WideShapes.add_plain,Nat.zero_add,HGC.o w rfl _ (by omega)]
      exact hj
    . cases hj) (by omega) (by rw [HI.o.2.2.1];omega) hgr (by omega) (growslice_fits hgr (by rw [HI.o.2.2.2];omega)) (by rw [HI.o.2.2.2];omega)
   rw [hie] at hap;have hcg:=grownCap_ge w (L.length+1) cap 3;have hcx:=grownCap_le_maxLen w (L.length+1) cap 3 (by unfold maxLen;omega);generalize grownCap w (L.length+1) cap 3=cap1 at hap hcg hcx;have hzc:∀ n,(Builtin.zeroCells (.int .i64 0:Value).cells n).size=n*1:=fun n=>size_zeroCells _ n
   obtain⟨C0,hC0⟩:∃ C0:List Value,C0=(((Zai inL L).take (i*1)).toArray ++ Builtin.zeroCells (.int .i64 0:Value).cells (L.length+1 - i) ++ Builtin.zeroCells (.int .i64 0:Value).cells (cap1 - (L.length+1))).toList:=⟨_,rfl⟩
   have hC0l:C0.length=cap1*1:=by
    rw [hC0,Array.length_toList];simp only [Array.size_append,List.size_toArray,hzc,List.length_take,HXL.o]
    omega
   have hC0t:C0.take (i*1)=(Zai inL L).take (i*1):=by
    rw [hC0];simp only [Array.toList_append,List.append_assoc];refine (List.take_append_of_le_length ?_).trans (List.take_of_length_le ?_)
    . simp only [List.length_take,HXL.o];omega
    . simp only [List.length_take];omega
   have hC0a:((Zai inL L).take (i*1)).toArray ++ Builtin.zeroCells (.int .i64 0:Value).cells (L.length+1 - i) ++ Builtin.zeroCells (.int .i64 0:Value).cells (cap1 - (L.length+1))=C0.toArray:=by rw [hC0]
   rw [hC0a] at hap;obtain⟨W0,hW0⟩:∃ W0,W0=w.drew.alloc (.cells C0.toArray 3):=⟨_,rfl⟩
   rw [<- hW0] at hap;have hB0:Box W0 w.heap.size C0.toArray:=by rw [hW0];exact Box.new w.drew _ _ _ rfl
   have hb0:Zw_ w W0:=by rw [hW0];exact (Zb_.drew).trans (Zab w.drew _)
   have hth0:∀ j,j < cap1*1->(W0.cell? ⟨w.heap.size,j,none⟩).isSome=true:=fun j hj=>by rw [hB0.cell j,List.getElem?_toArray,List.getElem?_eq_getElem (by rw [hC0l];exact hj)];rfl
   have hsW:w.heap.size < W0.heap.size:=hB0.lt
   have hcp2:∀ ty dc,(Builtin.copy_ #[51,51] ty #[.slice (some ⟨w.heap.size,i,none⟩) (L.length+1 - i) dc,.slice (some ⟨vb,0,none⟩) 1 1]).run prog W0=.ok (goInt (1:Nat)) (W0.setCells w.heap.size (i) (inL x)):=fun ty dc=>
    ZaQ W0 _ _ ty 3 1 w.heap.size (i) _ dc ⟨vb,0,none⟩ 1 1 1 _ underlying51 HSZ.o (by show min _ _=_;omega) (by rw [HFL.o]) (HVC.o W0 (hb0.block vb hvlt)) (fun j hj=>hth0 _ (by rw [HFL.o] at hj;omega)) (fun j=>hB0.free j) HONE.o
   obtain⟨W1,hW1⟩:∃ W1,W1=W0.setCells w.heap.size (i) (inL x):=⟨_,rfl⟩
   have hT1:Zad w.heap.size (w.heap.size+1) W0 W1:=by rw [hW1];exact Zad.sets ⟨Nat.le_refl _,Nat.lt_succ_self _⟩ _ _ _
   have hb1':Zw_ w W1:=hb0.trans (hT1.under (by omega))
   have hcp1:∀ ty dc sc,(Builtin.copy_ #[51,51] ty #[.slice (some ⟨w.heap.size,i+1,none⟩) (L.length - i) dc,.slice (some ⟨g,i,none⟩) (L.length - i) sc]).run prog W1.drew=.ok (goInt (L.length - i:Nat)) (W1.drew.setCells w.heap.size (i+1) ((Zai inL L).drop (i*1))):=fun ty dc sc=>
    ZaQ W1.drew _ _ ty 3 1 w.heap.size (i+1) _ dc ⟨g,i,none⟩ _ sc (L.length - i) _ underlying51 HSZ.o (by show min _ _=_;omega) hdl (fun j u hj=>by
     rw [Go.WideShapes.add_plain,HGC.o W1.drew (hb1'.block g hglt) _ (by have:=(List.getElem?_eq_some_iff.1 hj).1;rw [hdl] at this;omega)];rw [List.getElem?_drop] at hj
     simpa using hj) (fun j hj=>by
     show (W1.cell? _).isSome=true
     rw [hW1];exact Zbz _ _ (fun t ht=>hth0 _ (by rw [HFL.o] at ht;omega)) (hth0 _ (by rw [hdl] at hj;omega))) (fun j=>by
     show W1.frozen? _=false
     rw [hW1,World.frozen?_setCells];exact hB0.free j) (fun u hu=>ZaO _ u (List.mem_of_mem_drop hu))
   have HR2:Hd (FR inL 1 (W1.drew.setCells w.heap.size (i+1) ((Zai inL L).drop (i*1))) w.heap.size (w.heap.size+1) w.heap.size cap1 R):=by
    unfold Hd;rw [hW1,<- HRR.o]
    exact FR.insNew ZaE hsW hth0 hB0.free hcx hlt hcg x (fun j hj=>by
     rw [hB0.cell j,List.getElem?_toArray];have:=congrArg (fun l=>l[j]?) hC0t;simp only [List.getElem?_take,if_pos hj] at this;exact this) (by omega) (by omega)
   rw [<- hW1] at hcp2;obtain⟨W2,hW2⟩:∃ W2,W2=W1.drew.setCells w.heap.size (i+1) ((Zai inL L).drop (i*1)):=⟨_,rfl⟩
   have HB2:Hd (Zw_ w (W1.drew.setCells w.heap.size (i+1) ((Zai inL L).drop (i*1)))):=Below.sets Zl_ _ _ hb1'.drew;rw [<- hW2] at hcp1 HR2 HB2;clear hW2;have HLN:Hd (R.length=L.length+1):=by unfold Hd;rw [<- HRR.o];simp;omega
   have hb9:¬ (cap1=i):=by omega
   have hq1:(0:Int)<=(i:Int)+1:=by omega
   have hq2:(i:Int)+1<=(L.length:Int)+1:=by omega
   have hq3:(i:Int)<=(L.length:Int)+1:=by omega
   have hq4:i<=L.length+1:=by omega
   have hb10:¬ (cap1=i+1):=by omega
   have hb11:i+1<=cap1:=by omega
   clear hC0 hC0l hC0t hC0a hW0 hB0 hb0 hth0 hT1 hb1' hW1 hdl hzc;go_enter func213,ntmps213
   go_wp2_with (at_builtin;first
    | (refine Lib.wpList_append_run _ rfl (.tmp 34) (.tmp 39) 51 3 rfl _ _ rfl rfl _ _ (hap _) ?_)
    | (refine wpList_copy_runF _ rfl (.tmp 43) (.tmp 44) 51 51 rfl _ _ rfl rfl (hcp2 _ _) ?_))
   go_region_law (refine step_copy_runF rfl (.tmp 50) (.tmp 53) 51 51 rfl _ _ (by simp [Act.eval,Act.put]) (by simp [Act.eval,Act.put]) (hcp1 _ _ _) ?_)
   clear hcp1 hcp2 hap;go_wp2;go_ret;refine⟨_,rfl,⟨HB2.o.os,HB2.o.tape,HB2.o.output,HB2.o.size,fun j hj _=>HB2.o.block j hj⟩,Or.inr ⟨w.heap.size,cap1,by rw [HLN.o];rfl,?_⟩⟩;have hR2:=HR2.o;exact⟨Nat.le_refl _,hR2.lt,hR2.lt,hR2.le,hR2.mx,hR2.th,hR2.fz,hR2.rg⟩
theorem Zhf (vb:Nat) (x:Int) (w:World) (hv:Box w vb (inL x).toArray) :
 Calls prog 213 #[.slice none 0 0,.int .i64 0,.slice (some ⟨vb,0,none⟩) 1 1] w fun e w'=>∃ v',e=.returned v'/\Zw_ w w'/\ZaH inL 1 w' w.heap.size w'.heap.size v' [x]:=by
 have HV:=Zaa hv
 obtain⟨v',w',hrun,ht,hrow⟩:=ZdM ZaE (by decide) underlying51 Zbe rfl (w:=w) (M:=[x]) 51 (Zay.nil inL 1 w w.heap.size w.heap.size) (some ⟨vb,0,none⟩) 1 1 rfl (fun e=>by cases e) (fun ad e j u hu=>by
  injection e with e
  subst e;rw [Go.WideShapes.add_plain,Nat.zero_add,HV.o.cell j]
  simpa [Zai] using hu) (ZaO _) (by simp) (by decide)
 have HB:Hd (Zw_ w w'):=ht.none Zl_;have HRW:=Zaa hrow;clear ht hrow hv;go_enter func213,ntmps213;go_wp2_with (at_builtin;refine wpList_append_run rfl (.tmp 23) (.tmp 24) 51 rfl rfl rfl hrun ?_);go_ret;refine⟨v',rfl,HB.o,?_⟩;have h2:=HRW.o;rw [List.nil_append] at h2
 rcases h2 with (⟨_,h3⟩ | h3)|(⟨_,h3⟩ | h3)
 . cases h3
 . obtain⟨g,cap,_,h4⟩:=h3
   have:=h4.bs;have:=h4.up
   omega
 . cases h3
 . exact h3
end Go.Proofs.YtdeammfdkaomlaaGreat
