import Derived.Test.YtkiefplmnoapfaaGreatV31
import Derived.Test.YtkiefplmnoapfaaGreatV37
import Derived.Lib.Overlaps
import Derived.Lib.AppendZeros
import Derived.Deep.RegionLaw
set_option maxHeartbeats 16000000
set_option maxRecDepth 100000
open Go.Proofs.Tryz
namespace Go.Proofs.YtkiefplmnoapfaaGreat
open Go.RowKit Go.Deep
theorem Zkq:(prog.info? 30).map (·.size)=some 18:=by kernel_rfl
theorem szA {cs:List Value} (h:cs.length=18):(prog.info? 41).map (·.size)=some cs.toArray.size:=by rw [List.size_toArray,h];exact Zar
def z18:List Value:=[.int .i64 0,.int .i64 0,.bool false,.int .i64 0,.int .i64 0,.slice none 0 0,.int .i64 0,.int .i64 0,.slice none 0 0,.slice none 0 0,.slice none 0 0,.bool false,.bool false,.int .i64 0,.slice none 0 0,.slice none 0 0,.slice none 0 0,.int .i64 0]
theorem Zi2 {U:Rr} (h:ZaW U=true):∀ i (hi:i < U.dk.sl.length),(i:Int) < U.dk.kn->0 < U.dk.sl[i].ba:=by
 intro i hi hk;unfold ZaW at h;simp only [Bool.and_eq_true] at h;have h2:=h.2.2.2.1;unfold Za4 at h2;simp only [Bool.and_eq_true] at h2;have h3:=ZjD hi h2.2.2.2;rw [Ze0 hi] at h3;have h4:=h2.2.1;unfold ZaT at h4;simp only [Bool.and_eq_true] at h4;have h5:=List.all_eq_true.1 h4.2 _ (List.getElem_mem hi);unfold ZbO at h5;rw [ZdK] at h5;simp only [Bool.and_eq_true,decide_eq_true_eq] at h5;simp only [decide_eq_true hk,Bool.true_and,Bool.not_eq_true',Bool.or_eq_false_iff] at h3;have h6:¬ U.dk.sl[i].ba=0:=by simpa using h3.2
 omega
theorem ZkF {L:List Rs} {tx:Zy_} (h:∀ x ∈ L,0 < x.ba):Zev L tx=ZgS L tx:=by
 unfold Zev ZgS
 induction L with
 | nil=>rfl
 | cons x r ih=>
  simp only [List.any_cons];rw [ih (fun y hy=>h y (List.mem_cons_of_mem _ hy)),decide_eq_true (h x (List.mem_cons_self ..)),Bool.true_and]
theorem Zi7 {U:Rr} (h:ZaW U=true) (tx:Zy_):Zcp U tx=Zeq U tx:=by
 have hk:=Zfk h
 have e:Zev (U.dk.sl.take U.dk.kn.toNat) tx=ZgS (U.dk.sl.take U.dk.kn.toNat) tx:=ZkF fun x hx=>by
  obtain⟨i,hi,rfl⟩:=List.mem_iff_getElem.1 hx;rw [List.length_take] at hi;rw [List.getElem_take];exact Zi2 h i (by omega) (by omega)
 have e2:Zfn U tx=Zdz U tx:=by
  unfold Zfn Zdz;rw [e,ZdK];have e3:(!decide ((tx.size:Int) < 1))=decide (1<=(tx.size:Int)):=by rw [<- decide_not];exact decide_eq_decide.2 (by omega)
  have e4:(!decide (160 < (tx.size:Int)))=decide ((tx.size:Int)<=160):=by rw [<- decide_not];exact decide_eq_decide.2 (by omega)
  have e5:(!decide (20<=(U.wi.length:Int)))=decide ((U.wi.length:Int) < 20):=by rw [<- decide_not];exact decide_eq_decide.2 (by omega)
  rw [e3,e4,e5]
  cases decide (1<=(tx.size:Int)) <;> cases decide ((tx.size:Int)<=160) <;> cases decide ((U.wi.length:Int) < 20) <;> cases ZgS (U.dk.sl.take U.dk.kn.toNat) tx <;> cases (U.wi.any fun s=>s.toList == tx.toList) <;> rfl
 unfold Zcp Zeq;rw [e2]
theorem Zhz (γ:Nat) (w:World) :
 Calls prog 102 #[.pointer (some ⟨γ,0,none⟩)] w fun e w'=>e=.returned (.agg #[.pointer (some ⟨γ,0,none⟩),.func (.func 115) #[] #[.pointer (some ⟨w.heap.size,0,none⟩)]])/\Zw_ w w'/\Box w' w.heap.size #[.pointer (some ⟨γ,0,none⟩)]:=by
 obtain⟨fs,hfs⟩:∃ fs:Array Value,fs=#[.pointer (some ⟨γ,0,none⟩),.func (.func 115) #[] #[.pointer (some ⟨w.heap.size,0,none⟩)]]:=⟨_,rfl⟩
 obtain⟨W0,hW0⟩:∃ W0,W0=(w.alloc (.cells #[.pointer (some ⟨γ,0,none⟩)] 74)).alloc (.cells #[.pointer none,.nilFunc] 123):=⟨_,rfl⟩
 have BX:Hd (Box W0 w.heap.size #[.pointer (some ⟨γ,0,none⟩)]):=by unfold Hd;rw [hW0];exact (Box.new w _ _ _ rfl).on (Zab _ _)
 have RB:Hd (Box W0 (w.heap.size+1) #[.pointer none,.nilFunc]):=by unfold Hd;rw [hW0];exact Box.new _ _ _ _ (by simp)
 have HB:Hd (Zw_ w W0):=by unfold Hd;rw [hW0];exact bt (Zab _ _) (Zab _ _)
 have HTH:Hd (World.there ((w.alloc (.cells #[.pointer (some ⟨γ,0,none⟩)] 74)).alloc (.cells #[.pointer none,.nilFunc] 123)) (w.heap.size+1) 0 fs.size):=by unfold Hd;rw [<- hW0,hfs];exact RB.o.there rfl
 have HON:Hd (fs.all (·.oneCell')=true):=by unfold Hd;rw [hfs];simp [Value.oneCell']
 have HSA:Hd ((prog.info? 123).map (·.size)=some fs.size):=by unfold Hd;rw [hfs];kernel_rfl
 have HFS:=Zaa hfs;go_enter func102,ntmps102;go_wp2_with (with_reducible refine wpList_store_mid (by with_reducible rfl) 123 (.tmp 2) (.tmp 5) (by with_reducible rfl) (w.heap.size+1) 0 fs (by with_unfolding_all rfl) (by rw [hfs];with_unfolding_all rfl) HTH.o HSA.o HON.o ?_;refine Hd.o ?_);rw [<- hW0];generalize hW:World.setCells _ _ _ _=W9;have FR9:Hd (Box W9 (w.heap.size+1) fs):=by unfold Hd;rw [<- hW,hfs];exact RB.o.full rfl
 have TT:Hd (Zad (w.heap.size+1) (w.heap.size+2) W0 W9):=by unfold Hd;rw [<- hW];exact Zad.sets ⟨by omega,by omega⟩ _ _ _
 have BX9:=Zaa (BX.o.tch2 TT.o (Or.inl (by omega)));have HB9:Hd (Zw_ w W9):=HB.o.trans ((TT.o.under (by have:=RB.o.lt;omega)).mono (by omega));clear hW hW0;refine Zaa ?_;go_wp2;refine bodyPost_ret (v:=.agg fs) ?_ rfl ⟨by rw [HFS.o],HB9.o,BX9.o⟩;have g:=FR9.o.cell;rw [HFS.o] at g |-;simp [results,results102,go_sem,g]
def f7 {X:Type} (a0 a1 a2 a3 a4 a5 a6:X):Nat->X
 | 0=>a0
 | 1=>a1
 | 2=>a2
 | 3=>a3
 | 4=>a4
 | 5=>a5
 | _=>a6
section
variable {lo γ ρ n:Nat} {w W W':World} {U U':Rr}
def wkC (γ ρ:Nat):Array Value:=#[.pointer (some ⟨γ,0,none⟩),.func (.func 115) #[] #[.pointer (some ⟨ρ,0,none⟩)]]
structure Wk (K:Nat->Prop) (lo:Nat) (w:World) (γ ρ:Nat) (U:Rr):Prop where
 wz:Wz K lo w γ U
 kr:K ρ
 rb:Box w ρ #[.pointer (some ⟨γ,0,none⟩)]
def KN (K:Nat->Prop) (w:World) (n:Nat):Nat->Prop:=fun k=>K k\/(w.heap.size<=k/\k < w.heap.size+n)
theorem Wk.less {K K':Nat->Prop} (h:Wk K lo w γ ρ U) (hk:∀ k,K' k->K k) (hr:K' ρ):Wk K' lo w γ ρ U:=⟨h.wz.less hk,hr,h.rb⟩
theorem Wz.kw {K:Nat->Prop} (h:Wz K lo w γ U):∀ k,K k->k < w.heap.size:=fun k hk=>by
 obtain⟨b,m,S,h⟩:=h;exact (h.prot k hk).1
structure At (K:Nat->Prop) (lo:Nat) (w W:World) (γ ρ n:Nat) (U:Rr):Prop where
 kp:Zag K w W
 wz:Wz (KN K w n) lo W γ U
 kr:K ρ
 rb:Box W ρ #[.pointer (some ⟨γ,0,none⟩)]
 bx:Box W w.heap.size (wkC γ ρ)
 kw:∀ k,K k->k < w.heap.size
 ps:0 < n
theorem Wk.enter {K:Nat->Prop} (h:Wk K lo w γ ρ U) (hb:Zw_ w W) (hx:Box W w.heap.size (wkC γ ρ)) (hn:w.heap.size+n<=W.heap.size) (h0:0 < n):At K lo w W γ ρ n U:=by
 refine⟨Zag.below hb h.wz.kw,h.wz.shield hb (fun k hk=>?_),h.kr,h.rb.on hb,hx,h.wz.kw,h0⟩
 rcases hk with hk | hk
 . exact Or.inl hk
 . exact Or.inr ⟨hk.1,by omega⟩
theorem At.step {K:Nat->Prop} (h:At K lo w W γ ρ n U) (hk:Zag (KN K w n) W W') (hz:Wz (KN K w n) lo W' γ U'):At K lo w W' γ ρ n U':=
 ⟨h.kp.trans (hk.less fun _ h=>Or.inl h),hz,h.kr,h.rb.kept hk (Or.inl h.kr),h.bx.kept hk (Or.inr ⟨Nat.le_refl _,by have:=h.ps;omega⟩),h.kw,h.ps⟩
theorem At.sz {K:Nat->Prop} (h:At K lo w W γ ρ n U):w.heap.size+n<=W.heap.size:=by
 have:=h.wz.kw (w.heap.size+(n - 1)) (Or.inr ⟨by omega,by have:=h.ps;omega⟩);have:=h.ps
 omega
theorem At.on {K:Nat->Prop} (h:At K lo w W γ ρ n U) (hb:Below W.heap.size W W'):At K lo w W' γ ρ n U:=
 h.step (Zag.below hb h.wz.kw) (h.wz.shield hb fun _ h=>Or.inl h)
theorem At.wk {K:Nat->Prop} (h:At K lo w W γ ρ n U):Wk (KN K w n) lo W γ ρ U:=⟨h.wz,Or.inl h.kr,h.rb⟩
theorem At.call {K:Nat->Prop} (h:At K lo w W γ ρ n U) (hk:Zag (KN K w n) W W') (hz:Wk (KN K w n) lo W' γ ρ U'):At K lo w W' γ ρ n U':=h.step hk hz.wz
theorem At.fin {K:Nat->Prop} (h:At K lo w W γ ρ n U):Zag K w W/\Wk K lo W γ ρ U:=⟨h.kp,h.wz.less (fun _ h=>Or.inl h),h.kr,h.rb⟩
theorem At.c0 {K:Nat->Prop} (h:At K lo w W γ ρ n U):W.cell? ⟨w.heap.size,0,none⟩=some (.pointer (some ⟨γ,0,none⟩)):=h.bx.cell 0
theorem At.c1 {K:Nat->Prop} (h:At K lo w W γ ρ n U):W.cell? ⟨w.heap.size,1,none⟩=some (.func (.func 115) #[] #[.pointer (some ⟨ρ,0,none⟩)]):=h.bx.cell 1
theorem ZeP {hi:Nat}{w':World} (h:Zad lo hi w w'):Zad lo hi w w'.drew:=⟨h.os,h.tape,h.output,h.size,h.block⟩
theorem Zcv (γ j:Nat) (w:World) (v:Value):Zad γ (γ+1) w (w.setCell ⟨γ,j,none⟩ v):=Zad.setCell _ _ _ _ _ ⟨Nat.le_refl _,Nat.lt_succ_self _⟩
end
theorem ZkG:(prog.info? 121).map (·.size)=some 10:=by kernel_rfl
theorem Zh0 (γ ρ:Nat) (w:World) :
 Calls prog 103 #[.agg #[.pointer (some ⟨γ,0,none⟩),.func (.func 115) #[] #[.pointer (some ⟨ρ,0,none⟩)]]] w fun e w'=>e=.returned (.agg #[.nilFunc,.func (.func 116) #[.agg #[.pointer (some ⟨γ,0,none⟩),.func (.func 115) #[] #[.pointer (some ⟨ρ,0,none⟩)]]] #[],.func (.func 117) #[.agg #[.pointer (some ⟨γ,0,none⟩),.func (.func 115) #[] #[.pointer (some ⟨ρ,0,none⟩)]]] #[],.func (.func 118) #[.agg #[.pointer (some ⟨γ,0,none⟩),.func (.func 115) #[] #[.pointer (some ⟨ρ,0,none⟩)]]] #[],.func (.func 119) #[.agg #[.pointer (some ⟨γ,0,none⟩),.func (.func 115) #[] #[.pointer (some ⟨ρ,0,none⟩)]]] #[],.func (.func 120) #[.agg #[.pointer (some ⟨γ,0,none⟩),.func (.func 115) #[] #[.pointer (some ⟨ρ,0,none⟩)]]] #[],.func (.func 121) #[.agg #[.pointer (some ⟨γ,0,none⟩),.func (.func 115) #[] #[.pointer (some ⟨ρ,0,none⟩)]]] #[],.func (.func 122) #[.agg #[.pointer (some ⟨γ,0,none⟩),.func (.func 115) #[] #[.pointer (some ⟨ρ,0,none⟩)]]] #[],.func (.func 123) #[.agg #[.pointer (some ⟨γ,0,none⟩),.func (.func 115) #[] #[.pointer (some ⟨ρ,0,none⟩)]]] #[],.func (.func 124) #[.agg #[.pointer (some ⟨γ,0,none⟩),.func (.func 115) #[] #[.pointer (some ⟨ρ,0,none⟩)]]] #[]])/\Zw_ w w':=by
 obtain⟨fs,hfs⟩:∃ fs:Array Value,fs=#[.nilFunc,.func (.func 116) #[.agg #[.pointer (some ⟨γ,0,none⟩),.func (.func 115) #[] #[.pointer (some ⟨ρ,0,none⟩)]]] #[],.func (.func 117) #[.agg #[.pointer (some ⟨γ,0,none⟩),.func (.func 115) #[] #[.pointer (some ⟨ρ,0,none⟩)]]] #[],.func (.func 118) #[.agg #[.pointer (some ⟨γ,0,none⟩),.func (.func 115) #[] #[.pointer (some ⟨ρ,0,none⟩)]]] #[],.func (.func 119) #[.agg #[.pointer (some ⟨γ,0,none⟩),.func (.func 115) #[] #[.pointer (some ⟨ρ,0,none⟩)]]] #[],.func (.func 120) #[.agg #[.pointer (some ⟨γ,0,none⟩),.func (.func 115) #[] #[.pointer (some ⟨ρ,0,none⟩)]]] #[],.func (.func 121) #[.agg #[.pointer (some ⟨γ,0,none⟩),.func (.func 115) #[] #[.pointer (some ⟨ρ,0,none⟩)]]] #[],.func (.func 122) #[.agg #[.pointer (some ⟨γ,0,none⟩),.func (.func 115) #[] #[.pointer (some ⟨ρ,0,none⟩)]]] #[],.func (.func 123) #[.agg #[.pointer (some ⟨γ,0,none⟩),.func (.func 115) #[] #[.pointer (some ⟨ρ,0,none⟩)]]] #[],.func (.func 124) #[.agg #[.pointer (some ⟨γ,0,none⟩),.func (.func 115) #[] #[.pointer (some ⟨ρ,0,none⟩)]]] #[]]:=⟨_,rfl⟩
 obtain⟨W0,hW0⟩:∃ W0,W0=(w.alloc (.cells #[.pointer (some ⟨γ,0,none⟩),.func (.func 115) #[] #[.pointer (some ⟨ρ,0,none⟩)]] 123)).alloc (.cells #[.nilFunc,.nilFunc,.nilFunc,.nilFunc,.nilFunc,.nilFunc,.nilFunc,.nilFunc,.nilFunc,.nilFunc] 121):=⟨_,rfl⟩
 have BX:Hd (Box W0 w.heap.size #[.pointer (some ⟨γ,0,none⟩),.func (.func 115) #[] #[.pointer (some ⟨ρ,0,none⟩)]]):=by unfold Hd;rw [hW0];exact (Box.new w _ _ _ rfl).on (Zab _ _)
 have RB:Hd (Box W0 (w.heap.size+1) #[.nilFunc,.nilFunc,.nilFunc,.nilFunc,.nilFunc,.nilFunc,.nilFunc,.nilFunc,.nilFunc,.nilFunc]):=by unfold Hd;rw [hW0];exact Box.new _ _ _ _ (by simp)
 have HB:Hd (Zw_ w W0):=by unfold Hd;rw [hW0];exact bt (Zab _ _) (Zab _ _)
 have HTH:Hd (World.there W0 (w.heap.size+1) 0 fs.size):=by unfold Hd;rw [hfs];exact RB.o.there rfl
 have HON:Hd (fs.all (·.oneCell')=true):=by unfold Hd;rw [hfs];simp [Value.oneCell']
 have HSA:Hd ((prog.info? 121).map (·.size)=some fs.size):=by unfold Hd;rw [hfs];exact ZkG
 have HFS:=Zaa hfs;go_enter func103,ntmps103
 go_upto_region 1 with fail
 rw [<- hW0];clear hW0;have x0:W0.cell? ⟨w.heap.size,0,none⟩=some (.pointer (some ⟨γ,0,none⟩)):=BX.o.cell 0;have x1:W0.cell? ⟨w.heap.size,1,none⟩=some (.func (.func 115) #[] #[.pointer (some ⟨ρ,0,none⟩)]):=BX.o.cell 1;go_wp2_with (with_reducible refine wpList_store_mid (by with_reducible rfl) 121 (.tmp 2) (.tmp 21) (by with_reducible rfl) (w.heap.size+1) 0 fs (by with_unfolding_all rfl) (by rw [hfs];with_unfolding_all rfl) HTH.o HSA.o HON.o ?_;refine Hd.o ?_);clear x0 x1;generalize hW:World.setCells _ _ _ _=W9;have FR9:Hd (Box W9 (w.heap.size+1) fs):=by unfold Hd;rw [<- hW,hfs];exact RB.o.full rfl
 have TT:Hd (Zad (w.heap.size+1) (w.heap.size+2) W0 W9):=by unfold Hd;rw [<- hW];exact Zad.sets ⟨by omega,by omega⟩ _ _ _
 have HB9:Hd (Zw_ w W9):=HB.o.trans ((TT.o.under (by have:=RB.o.lt;omega)).mono (by omega));clear hW;refine Zaa ?_;go_wp2;refine bodyPost_ret (v:=.agg fs) ?_ rfl ⟨by rw [HFS.o],HB9.o⟩;have g:=FR9.o.cell;rw [HFS.o] at g |-;simp [results,results103,go_sem,g]
section
variable {P:Program} {k g o j:Nat} {W w:World} {vs:List Value}
theorem ZaZ (w:World) (dT sT ty elem:TypeId) (k b o dLen dCap:Nat) (a:Addr) (sLen sCap m:Nat) (cs:List Value)
 (hu:P.underlying dT=some (.slice elem)) (hs:(P.info? elem).map (·.size)=some k) (hm:Nat.min sLen dLen=m) (hn:cs.length=m*k)
 (hsrc:∀ j v,cs[j]?=some v->w.cell? (a.add j)=some v) (hc:∀ j,j < cs.length->(w.cell? ⟨b,o+j,none⟩).isSome=true) (hf:∀ j,w.frozen? ⟨b,j,none⟩=false) (h1:∀ v ∈ cs,v.oneCell'=true) :
 (Builtin.copy_ #[dT,sT] ty #[.slice (some ⟨b,o,none⟩) dLen dCap,.slice (some a) sLen sCap]).run P w=.ok (goInt m) (w.setCells b o cs):=by
 subst hm;have hl:=run_firstCells_some (P:=P) w k (Nat.min sLen dLen) a sLen sCap cs hn hsrc;have hst:=run_storeCells_cells (P:=P) b o cs 0 w (by simpa using hc) (fun j _=>hf _) h1;simp only [Nat.add_zero] at hst
 cases hq:P.info? elem with
 | none=>simp [hq] at hs
 | some i=>
  have hi:i.size=k:=by simpa [hq] using hs
  simp [Builtin.copy_,run_underlying hu,Builtin.lenOf,sizeOf,typeInfo,hq,hi,hl,hst]
theorem ZbV (w:World) (t tn ty e:TypeId) (i:TypeInfo) (z:Value) (k kn:IntKind) (ht:P.underlying t=some (.slice e)) (htn:P.underlying tn=some (.int kn)) (hi:P.info? e=some i) (hz:i.zero=some z)
 (b:Addr) (sLen sCap n:Nat) (olds:List Value) (hlo:olds.length=sLen*i.size) (holds:∀ j v,olds[j]?=some v->w.cell? (b.add j)=some v)
 (h0:0 < n) (hs:0 < i.size) (hg:sCap < sLen+n) (h63:((sLen+n:Nat):Int)<=9223372036854775807) (hfit:Builtin.nextslicecap (sLen+n) sCap*i.bytes<=281474976710656) (h48:n*i.bytes<=281474976710656) :
 (Builtin.append_ #[t,tn] ty #[.slice (some b) sLen sCap,.int k n]).run P w=
   .ok (.slice (some ⟨w.heap.size,0,none⟩) (sLen+n) (grownCap w (sLen+n) sCap e))
    (w.drew.alloc (.cells (olds.toArray ++ Builtin.zeroCells z.cells n ++ Builtin.zeroCells z.cells (grownCap w (sLen+n) sCap e - (sLen+n))) e)):=by
 have hn:¬ (sLen+n<=sCap):=by omega
 have hn0:n≠0:=by omega
 have hw:IntKind.i64.wrap (n:Int)=n:=by rw [IntKind.wrap_i64];omega
 have h63':¬ (9223372036854775807 < ((sLen:Int)+(n:Int))):=by omega
 have h48':¬ (281474976710656 < Builtin.nextslicecap (sLen+n) sCap*i.bytes):=by omega
 have h48i:¬ (281474976710656 < (n:Int)*(i.bytes:Int)):=by rw [<- Int.natCast_mul];omega
 have hneg:¬ ((n:Int) < 0):=by omega
 have hns:¬ (n*i.size=0):=Nat.mul_ne_zero hn0 (by omega);have hfo:=run_firstCells_some (P:=P) w.drew i.size sLen b sLen sCap olds hlo (by simpa using holds);simp [Builtin.append_,run_underlying ht,run_underlying htn,sizeOf,typeInfo,zeroValue,hi,hz,asInt,asIntOf,hw,hn,hneg,hns,h63',h48',h48i,Question.forced,hfo,newRow,grownCap]
theorem Zg4 {X:Type}{f:X->List Value} (hk:∀ x,(f x).length=k) (L:List X) (i:Nat) (hi:i<=L.length):Zai f (L.take i)=(Zai f L).take (i*k)/\Zai f (L.drop i)=(Zai f L).drop (i*k):=by
 have e:Zai f L=Zai f (L.take i) ++ Zai f (L.drop i):=by rw [<- Zbv,List.take_append_drop]
 have hl:(Zai f (L.take i)).length=i*k:=by rw [Zaw hk,List.length_take,Nat.min_eq_left hi]
 rw [e];exact⟨(List.take_left' hl).symm,(List.drop_left' hl).symm⟩
theorem ZhT {X:Type}{f:X->List Value} (hk:∀ x,(f x).length=k) (L:List X) (x:X) (i:Nat) (hi:i<=L.length):Zai f (L.take i ++ [x] ++ L.drop i)=(Zai f L).take (i*k) ++ f x ++ (Zai f L).drop (i*k):=by
 obtain⟨h1,h2⟩:=Zg4 hk L i hi;rw [Zbv,Zbv,h1,h2];simp [Zai]
theorem Zif {X:Type}{f:X->List Value} (hk:∀ x,(f x).length=k) {L:List X} {x:X} {i:Nat} (hi:i<=L.length) {W:World} {g:Nat}
 (h1:∀ j,j < i*k->W.cell? ⟨g,j,none⟩=(Zai f L)[j]?) (h2:∀ j,j < k->W.cell? ⟨g,i*k+j,none⟩=(f x)[j]?) (h3:∀ j,j < (L.length - i)*k->W.cell? ⟨g,i*k+k+j,none⟩=(Zai f L)[i*k+j]?) :
 W.rangeAt g 0 (Zai f (L.take i ++ [x] ++ L.drop i)):=by
 have hl:(Zai f L).length=L.length*k:=Zaw hk L;have hik:i*k<=L.length*k:=Nat.mul_le_mul_right _ hi;rw [ZhT hk L x i hi];intro j v hv;rw [Nat.zero_add];have hlt:((Zai f L).take (i*k)).length=i*k:=by rw [List.length_take,hl];omega
 have hsub:(L.length - i)*k=L.length*k - i*k:=Nat.sub_mul _ _ _;rw [List.append_assoc] at hv
 rcases Nat.lt_or_ge j (i*k) with q | q
 . rw [List.getElem?_append_left (by rw [hlt];exact q),List.getElem?_take,if_pos q] at hv
   rw [h1 j q,hv]
 . rw [List.getElem?_append_right (by rw [hlt];exact q),hlt] at hv
   rcases Nat.lt_or_ge (j - i*k) k with r | r
   . rw [List.getElem?_append_left (by rw [hk];exact r)] at hv
     have:=h2 (j - i*k) r;rw [show i*k+(j - i*k)=j by omega] at this;rw [this,hv]
   . rw [List.getElem?_append_right (by rw [hk];exact r),hk,List.getElem?_drop] at hv
     have hb:=(List.getElem?_eq_some_iff.1 hv).1;rw [hl] at hb;have:=h3 (j - i*k - k) (by omega);rw [show i*k+k+(j - i*k - k)=j by omega] at this;rw [this,hv]
theorem ZbF (o:Nat) (vs:List Value) {j:Nat} (h:∀ t,t < vs.length->(W.cell? ⟨g,o+t,none⟩).isSome=true) (hj:(W.cell? ⟨g,j,none⟩).isSome=true):((W.setCells g o vs).cell? ⟨g,j,none⟩).isSome=true:=by
 by_cases q:o<=j/\j < o+vs.length
 . have:=World.cell?_setCells_in g vs o W h (j - o) (by omega)
   rw [show o+(j - o)=j by omega] at this;rw [this]
   rfl
 . rw [World.cell?_setCells_out g vs o W ⟨g,j,none⟩ (fun _ _=>by simp only [];omega)]
   exact hj
theorem ZcY (h:∀ t,t < vs.length->(W.cell? ⟨g,o+t,none⟩).isSome=true) {j:Nat} (hj:j < vs.length):(W.setCells g o vs).cell? ⟨g,o+j,none⟩=vs[j]?:=by
 rw [World.cell?_setCells_in g vs o W h j hj,List.getElem?_eq_getElem hj]
theorem Zbu (hj:j < o\/o+vs.length<=j):(W.setCells g o vs).cell? ⟨g,j,none⟩=W.cell? ⟨g,j,none⟩:=World.cell?_setCells_out g vs o W ⟨g,j,none⟩ (fun _ _=>hj)
theorem FR.insIn {X:Type}{f:X->List Value} (hk:∀ x,(f x).length=k) {w:World} {g cap:Nat} {L:List X} (h:FR f k w g (g+1) g cap L) {i:Nat} (hi:i < L.length) (hc:L.length+1<=cap) (x:X) {o1 o2:Nat} (e1:o1=(i+1)*k) (e2:o2=i*k) :
 FR f k ((w.setCells g o1 ((Zai f L).drop (i*k))).setCells g o2 (f x)) g (g+1) g cap (L.take i ++ [x] ++ L.drop i):=by
 subst e1 e2;have hl:(Zai f L).length=L.length*k:=Zaw hk L;have hdl:((Zai f L).drop (i*k)).length=(L.length - i)*k:=by rw [List.length_drop,hl,Nat.sub_mul]
 have hik:(i+1)*k=i*k+k:=Nat.succ_mul _ _;have hsub:(L.length - i)*k=L.length*k - i*k:=Nat.sub_mul _ _ _;have hle:(i+1)*k<=L.length*k:=Nat.mul_le_mul_right _ hi;have hck:(L.length+1)*k<=cap*k:=Nat.mul_le_mul_right _ hc;rw [Nat.succ_mul] at hck;have c1:∀ t,t < ((Zai f L).drop (i*k)).length->(w.cell? ⟨g,(i+1)*k+t,none⟩).isSome=true:=fun t ht=>h.th _ (by rw [hdl] at ht;omega)
 have c2:∀ t,t < (f x).length->((w.setCells g ((i+1)*k) ((Zai f L).drop (i*k))).cell? ⟨g,i*k+t,none⟩).isSome=true:=fun t ht=>ZbF _ _ c1 (h.th _ (by rw [hk] at ht;omega))
 refine⟨Nat.le_refl _,Nat.lt_succ_self _,by rw [Za8,Za8];exact h.lt,by simp;omega,h.mx,fun j hj=>ZbF _ _ c2 (ZbF _ _ c1 (h.th j hj)),fun j=>by rw [World.frozen?_setCells,World.frozen?_setCells];exact h.fz j,?_⟩;refine Zif hk (Nat.le_of_lt hi) (fun j hj=>?_) (fun j hj=>?_) (fun j hj=>?_)
 . rw [Zbu (Or.inl hj),Zbu (Or.inl (by omega))]
   obtain⟨v,hv⟩:∃ v,(Zai f L)[j]?=some v:=⟨_,List.getElem?_eq_getElem (by rw [hl];omega)⟩
   rw [hv];have:=h.rg j v hv
   rwa [Nat.zero_add] at this
 . exact ZcY c2 (by rw [hk];exact hj)
 . rw [Zbu (Or.inr (by rw [hk];omega)),<- hik,ZcY c1 (by rw [hdl];exact hj),List.getElem?_drop]
theorem FR.insNew {X:Type}{f:X->List Value} (hk:∀ x,(f x).length=k) {W:World} {n cap:Nat} {L:List X} (hn:n < W.heap.size) (hth:∀ j,j < cap*k->(W.cell? ⟨n,j,none⟩).isSome=true) (hfz:∀ j,W.frozen? ⟨n,j,none⟩=false) (hm:cap<=maxLen) {i:Nat} (hi:i < L.length) (hc:L.length+1<=cap) (x:X) (hold:∀ j,j < i*k->W.cell? ⟨n,j,none⟩=(Zai f L)[j]?) {o1 o2:Nat} (e1:o1=(i+1)*k) (e2:o2=i*k) :
 FR f k ((W.setCells n o2 (f x)).drew.setCells n o1 ((Zai f L).drop (i*k))) n (n+1) n cap (L.take i ++ [x] ++ L.drop i):=by
 subst e1 e2;have hl:(Zai f L).length=L.length*k:=Zaw hk L;have hdl:((Zai f L).drop (i*k)).length=(L.length - i)*k:=by rw [List.length_drop,hl,Nat.sub_mul]
 have hik:(i+1)*k=i*k+k:=Nat.succ_mul _ _;have hsub:(L.length - i)*k=L.length*k - i*k:=Nat.sub_mul _ _ _;have hle:(i+1)*k<=L.length*k:=Nat.mul_le_mul_right _ hi;have hck:(L.length+1)*k<=cap*k:=Nat.mul_le_mul_right _ hc;rw [Nat.succ_mul] at hck;have c2:∀ t,t < (f x).length->(W.cell? ⟨n,i*k+t,none⟩).isSome=true:=fun t ht=>hth _ (by rw [hk] at ht;omega)
 have c1:∀ t,t < ((Zai f L).drop (i*k)).length->((W.setCells n (i*k) (f x)).drew.cell? ⟨n,(i+1)*k+t,none⟩).isSome=true:=fun t ht=>ZbF (W:=W) _ _ c2 (hth _ (by rw [hdl] at ht;omega))
 refine⟨Nat.le_refl _,Nat.lt_succ_self _,?_,by simp;omega,hm,fun j hj=>ZbF _ _ c1 (ZbF (W:=W) _ _ c2 (hth j hj)),fun j=>?_,?_⟩
 . rw [Za8]
   show n < (W.setCells n (i*k) (f x)).heap.size
   rw [Za8];exact hn
 . rw [World.frozen?_setCells]
   show (W.setCells n (i*k) (f x)).frozen? _=false
   rw [World.frozen?_setCells];exact hfz j
 refine Zif hk (Nat.le_of_lt hi) (fun j hj=>?_) (fun j hj=>?_) (fun j hj=>?_)
 . rw [Zbu (Or.inl (by omega))]
   show (W.setCells n (i*k) (f x)).cell? _=_
   rw [Zbu (Or.inl hj)];exact hold j hj
 . rw [Zbu (Or.inl (by omega))]
   show (W.setCells n (i*k) (f x)).cell? _=_
   exact ZcY c2 (by rw [hk];exact hj)
 . rw [<- hik,ZcY c1 (by rw [hdl];exact hj),List.getElem?_drop]
theorem Zd0 (h:(w.cell? ⟨g,j,none⟩).isSome=true):∃ t k,w.shape? g=some (t,k)/\k≠0:=by
 unfold World.cell? at h;unfold World.shape?
 cases hq:w.heap[g]? with
 | none=>simp [hq] at h
 | some o=>
  cases o <;> simp_all
  exact⟨_,_,⟨rfl,rfl⟩,by omega⟩
theorem Zad.drewL {lo hi:Nat}{w':World} (h:Zad lo hi w.drew w'):Zad lo hi w w':=⟨h.os,h.tape,h.output,h.size,h.block⟩
end
variable {lo γ:Nat} {w:World} {V:Rr}
theorem Rz.acks6 {K:Nat->Prop}{b:Nat->Option Addr}{m:Nat->Nat}{S:Nat->Nat->Prop} (h:Rz K lo w γ b m S V) :
 ∃ L:List AX,L.map (·.1)=V.ac/\((b 6=none/\m 6=0/\L=[])\/∃ g,b 6=some ⟨g,0,none⟩/\S 6 g/\g≠γ/\¬ K g/\FR axL 2 w g (g+1) g (m 6) L)/\
  ∀ k,k<=V.ac.length->∀ (ix:Int) w3 v,(((∃ T:Nat->Prop,Zal T w w3/\∀ t,T t->b 6=some ⟨t,0,none⟩)/\ZaK axL 2 w3 w.heap.size w3.heap.size v (L.take k ++ [ZdB ix] ++ L.drop k))\/(∃ g,b 6=some ⟨g,0,none⟩/\Zad g (g+1) w w3/\ZaK axL 2 w3 g (g+1) v (L.take k ++ [ZdB ix] ++ L.drop k)))->
  ∃ a' c',v=.slice a' (V.ac.take k ++ [(⟨ix,[]⟩:Ra)] ++ V.ac.drop k).length c'/\Zal (S 6) w w3/\∃ b' m' S',Rz K lo (w3.setCell ⟨γ,16,none⟩ v) γ b' m' S' { V with ac:=V.ac.take k ++ [(⟨ix,[]⟩:Ra)] ++ V.ac.drop k }/\Zag K w (w3.setCell ⟨γ,16,none⟩ v):=by
 obtain⟨L,hng,hmap⟩:=h.cp.o6;have hll:L.length=V.ac.length:=by rw [<- hmap,List.length_map]
 have hsg:=h.cp.seg 6 (by decide);refine⟨L,hmap,?_,fun k hk ix w3 v hcase=>?_⟩
 . rcases hng with ⟨e,e'⟩ | ⟨g,c,hg,⟨g',cp,e1,e2⟩,hI⟩
   . injection e with e1 e2 e3
     exact Or.inl ⟨e1,e3,e'⟩
   . obtain rfl:g'=g:=by have:=e2.bs;have:=e2.up;omega
     injection e1 with e3 e4 e5
     exact Or.inr ⟨g',e3,hg,fun e=>h.far 6 (by decide) (e ▸ hg),fun hK=>(h.prot g' hK).2.2 6 (by decide) hg,by rw [e5];exact e2⟩
 have hmk:(L.take k ++ [ZdB ix] ++ L.drop k).map (·.1)=V.ac.take k ++ [(⟨ix,[]⟩:Ra)] ++ V.ac.drop k:=by
  rw [<- hmap,List.map_append,List.map_append,List.map_take,List.map_drop]
  rfl
 have hlen:(L.take k ++ [ZdB ix] ++ L.drop k).length=(V.ac.take k ++ [(⟨ix,[]⟩:Ra)] ++ V.ac.drop k).length:=by rw [<- hmk,List.length_map]
 have hnil:PA (ZdB ix) w3 0 0:=Or.inl ⟨rfl,rfl⟩
 rcases hcase with ⟨⟨T,hT,hTb⟩,g',cp,e1,e2⟩ | ⟨g,hbg,ht,g',cp,e1,e2⟩
 . rw [hlen] at e1
   have hg':w.heap.size<=g'/\g' < w3.heap.size:=⟨e2.bs,e2.up⟩
   have hT6:∀ t,T t->S 6 t:=fun t ht=>by
    have hbt:=hTb t ht
    rcases hng with ⟨e,_⟩ | ⟨g0,c,hg,⟨g1,cp0,f1,f2⟩,hI⟩
    . injection e with e3 e4 e5
      rw [hbt] at e3
      cases e3
    . obtain rfl:g1=g0:=by have:=f2.bs;have:=f2.up;omega
      injection f1 with f3 f4 f5
      rw [hbt] at f3;injection f3 with f3
      injection f3 with f3
      rw [f3];exact hg
   have htS:Zal (S 6) w w3:=hT.wide hT6;refine⟨_,_,e1,htS,?_⟩
   obtain⟨c,hI⟩:∃ c,Zc6 PA w3 (Gr (S 6) w w3) g' (L.take k ++ [ZdB ix] ++ L.drop k) c:=by
    rcases hng with ⟨_,e⟩ | ⟨g,c,hg,⟨g1,cp0,f1,f2⟩,hI⟩
    . have h0:Zc6 PA w3 (Gr (S 6) w w3) g' L (fun _=>(0,0)):=by
       rw [e];exact⟨fun i hi=>absurd hi (Nat.not_lt_zero _),fun i hi=>absurd hi (Nat.not_lt_zero _),fun i j hi=>absurd hi (Nat.not_lt_zero _),fun i hi=>absurd hi (Nat.not_lt_zero _)⟩
      exact⟨_,h0.ins (by omega) hnil (fun i hi=>by rw [e] at hi;exact absurd hi (Nat.not_lt_zero _))⟩
    . obtain rfl:g1=g:=by have:=f2.bs;have:=f2.up;omega
      injection f1 with f3 f4 f5
      have hTg:∀ t,T t->t=g1:=fun t ht=>by
       have hbt:=hTb t ht;rw [f3] at hbt;injection hbt with hbt
       injection hbt with hbt
       exact hbt.symm
      have hkp:Zag (fun t=>t < w.heap.size/\t≠g1) w w3:=Zag.touchS hT (fun t p=>⟨p.1,fun ht=>p.2 (hTg t ht)⟩);have hI0:Zc6 PA w3 (Gr (S 6) w w3) g1 L c:=⟨fun i hi=>⟨(hI.seg i hi).1,fun t p q=>Or.inl ((hI.seg i hi).2.1 t p q),(hI.seg i hi).2.2⟩,hI.one,hI.ap,fun i hi=>ZdS.kp (hI.inn i hi) hkp (fun t p q=>⟨(hsg t ((hI.seg i hi).2.1 t p q)).2,by have:=(hI.seg i hi).2.2;omega⟩)⟩;refine⟨_,hI0.ins (by omega) hnil (fun i hi=>?_)⟩
      rcases Nat.lt_or_ge (c i).1 (c i).2 with p | p
      . have:=(hsg (c i).1 ((hI.seg i hi).2.1 _ Zl_ p)).2
        have:=hI.one i hi
        omega
      . omega
   have:=h.part6 htS (L':=V.ac.take k ++ [(⟨ix,[]⟩:Ra)] ++ V.ac.drop k) (a':=some ⟨g',0,none⟩) (m':=cp) ⟨_,Or.inr ⟨g',c,Or.inr hg',⟨g',cp,by rw [hlen],e2.own'⟩,hI⟩,hmk⟩;rw [e1];exact⟨_,_,_,this⟩
 . rw [hlen] at e1
   obtain rfl:g'=g:=by have:=e2.bs;have:=e2.up;omega
   rcases hng with ⟨e,_⟩ | ⟨g0,c,hg,⟨g1,cp0,f1,f2⟩,hI⟩
   . injection e with e3 e4 e5
     rw [hbg] at e3
     cases e3
   obtain rfl:g1=g0:=by have:=f2.bs;have:=f2.up;omega
   injection f1 with f3 f4 f5
   rw [hbg] at f3;injection f3 with f3
   injection f3 with f3
   subst f3;have htS:Zal (S 6) w w3:=ht.toS (Zdt hg);refine⟨_,_,e1,htS,?_⟩;have hkp:Zag (fun t=>t < w.heap.size/\t≠g') w w3:=Zag.touch ht (fun t p=>⟨p.1,by omega⟩);have hI0:Zc6 PA w3 (Gr (S 6) w w3) g' L c:=⟨fun i hi=>⟨(hI.seg i hi).1,fun t p q=>Or.inl ((hI.seg i hi).2.1 t p q),(hI.seg i hi).2.2⟩,hI.one,hI.ap,fun i hi=>ZdS.kp (hI.inn i hi) hkp (fun t p q=>⟨(hsg t ((hI.seg i hi).2.1 t p q)).2,by have:=(hI.seg i hi).2.2;omega⟩)⟩;have hI2:=hI0.ins (k:=k) (by omega) hnil (fun i hi=>(hI.seg i hi).2.2);have:=h.part6 htS (L':=V.ac.take k ++ [(⟨ix,[]⟩:Ra)] ++ V.ac.drop k) (a':=some ⟨g',0,none⟩) (m':=cp) ⟨_,Or.inr ⟨g',_,Or.inl hg,⟨g',cp,by rw [hlen],e2⟩,hI2⟩,hmk⟩;rw [e1];exact⟨_,_,_,this⟩
theorem Rz.inner6 {K:Nat->Prop}{b:Nat->Option Addr}{m:Nat->Nat}{S:Nat->Nat->Prop} (h:Rz K lo w γ b m S V) {k:Nat} (hk:k < V.ac.length) :
 ∃ g a1 c1,∃ T:Nat->Prop,b 6=some ⟨g,0,none⟩/\V.ac.length<=m 6/\w.cell? ⟨g,k*2+1,none⟩=some (.slice a1 V.ac[k].fr.length c1)/\(∀ j,w.frozen? ⟨g,j,none⟩=false)/\g < w.heap.size/\g≠γ/\¬ K g/\NRS inL 1 w T (.slice a1 V.ac[k].fr.length c1) V.ac[k].fr/\(∀ t,T t->S 6 t/\t≠g)/\
  ∀ w1 v1 N,Zal T w w1->NRS inL 1 w1 (Gr T w w1) v1 N->∃ S',Rz K lo (w1.setCell ⟨g,k*2+1,none⟩ v1) γ b m S' { V with ac:=V.ac.set k { V.ac[k] with fr:=N } }/\Zag K w (w1.setCell ⟨g,k*2+1,none⟩ v1):=by
 obtain⟨L,hng,hmap⟩:=h.cp.o6;have hll:L.length=V.ac.length:=by rw [<- hmap,List.length_map]
 have hkL:k < L.length:=by omega
 have hLk:L[k].1=V.ac[k]:=by
  have:=congrArg (fun l=>l[k]?) hmap
  simpa only [List.getElem?_map,List.getElem?_eq_getElem hkL,List.getElem?_eq_getElem hk,Option.map_some,Option.some.injEq] using this
 have hsg:=h.cp.seg 6 (by decide)
 rcases hng with ⟨_,e⟩ | ⟨g,c,hg,⟨g',cp,e1,e2⟩,hI⟩
 . rw [e] at hkL;simp at hkL
 obtain rfl:g'=g:=by have:=e2.bs;have:=e2.up;omega
 injection e1 with e1 e3 e4
 have hin:ZaE inL 1 w (c k).1 (c k).2 (.slice L[k].2.1 L[k].1.fr.length L[k].2.2) L[k].1.fr:=hI.inn k hkL;have hgl:=e2.lt;have hc:=e2.get Zat (i:=k) hkL (t:=1) (by omega) (v:=.slice L[k].2.1 L[k].1.fr.length L[k].2.2) rfl;rw [hLk] at hin hc;have hTg:∀ t,(c k).1<=t->t < (c k).2->S 6 t/\t≠g':=fun t p q=>⟨(hI.seg k hkL).2.1 t p q,by have:=(hI.seg k hkL).2.2;omega⟩
 refine⟨g',L[k].2.1,L[k].2.2,fun t=>(c k).1<=t/\t < (c k).2,e1,by rw [e4,<- hll];exact e2.le,hc,e2.fz,hgl,fun e=>h.far 6 (by decide) (e ▸ hg),fun hK=>(h.prot g' hK).2.2 6 (by decide) hg,hin.set1 (fun t p q=>⟨p,q⟩),fun t ht=>hTg t ht.1 ht.2,fun w1 v1 N htT hN=>?_⟩;obtain⟨a',c',rfl⟩:=hN.form;have hs1:=htT.size;obtain⟨W,hW⟩:∃ W,W=w1.setCell ⟨g',k*2+1,none⟩ (.slice a' N.length c'):=⟨_,rfl⟩
 rw [<- hW];have hsW:W.heap.size=w1.heap.size:=by rw [hW];simp [World.setCell]
 have ht1:Zad g' (g'+1) w1 W:=by rw [hW];exact Zcv _ _ _ _
 have hT6:Zal (S 6) w w1:=htT.wide (fun t ht=>(hTg t ht.1 ht.2).1);have htS:Zal (S 6) w W:=Zal.trans hT6 (ht1.toS (Zdt hg));have hk1:Zag (fun t=>t < w.heap.size/\¬ ((c k).1<=t/\t < (c k).2)) w w1:=Zag.touchS htT (fun _ p=>p);have hkp:Zag (fun t=>t < w.heap.size/\t≠g'/\¬ ((c k).1<=t/\t < (c k).2)) w W:=(hk1.less (fun t p=>⟨p.1,p.2.2⟩)).trans (Zag.touch ht1 (fun t p=>⟨by omega,by omega⟩));have hfr1:FR axL 2 w1 g' (g'+1) g' cp L:=e2.kept hk1 ⟨hgl,by have:=(hI.seg k hkL).2.2;omega⟩
 have hfr:FR axL 2 W g' (g'+1) g' cp (L.set k ({ V.ac[k] with fr:=N },a',c')):=by
  rw [hW];refine FR.setOne Zat hfr1 hkL (by omega) _ _ ?_;have:axL L[k]=[.int .i64 L[k].1.ix,.slice L[k].2.1 L[k].1.fr.length L[k].2.2]:=rfl;rw [this,hLk]
  rfl
 have hIo:∀ i (hi:i < L.length),i≠k->PA L[i] W (c i).1 (c i).2:=fun i hi hne=>ZdS.kp (hI.inn i hi) hkp (fun t p q=>⟨(hsg t ((hI.seg i hi).2.1 t p q)).2,by have:=(hI.seg i hi).2.2;omega,by have:=hI.ap i k hi hkL hne;omega⟩)
 have hin':∃ l u,l<=u/\u<=l+1/\(∀ t,l<=t->t < u->Gr (S 6) w W t)/\(g' < l\/u<=g')/\(∀ i,i < L.length->i≠k->(c i).2<=l\/u<=(c i).1)/\ZaE inL 1 W l u (.slice a' N.length c') N:=by
  rcases hN with ⟨e,e'⟩ | ⟨gn,hgn,g2,cn,e,hf⟩
  . exact⟨(c k).1,(c k).2,(hI.seg k hkL).1,hI.one k hkL,fun t p q=>Or.inl ((hI.seg k hkL).2.1 t p q),(hI.seg k hkL).2.2,fun i hi hne=>hI.ap i k hi hkL hne,Or.inl ⟨e,e'⟩⟩
  . obtain rfl:g2=gn:=by have:=hf.bs;have:=hf.up;omega
    rcases hgn with hgn | hgn
    . have hne:g2≠g':=(hTg g2 hgn.1 hgn.2).2
      have ho:=hI.one k hkL;refine⟨(c k).1,(c k).2,(hI.seg k hkL).1,ho,fun t p q=>Or.inl ((hI.seg k hkL).2.1 t p q),(hI.seg k hkL).2.2,fun i hi hne=>hI.ap i k hi hkL hne,Or.inr ⟨g2,cn,e,?_⟩⟩;exact (hf.touch ht1 (by omega)).wide (by omega) (by omega)
    . have q2:=hf.lt
      refine⟨g2,g2+1,by omega,by omega,fun t p q=>Or.inr ⟨by omega,by omega⟩,by omega,fun i hi hne=>?_,Or.inr ⟨g2,cn,e,hf.own'.touch ht1 (by omega)⟩⟩
      rcases Nat.lt_or_ge (c i).1 (c i).2 with p | p
      . have:=(hsg (c i).1 ((hI.seg i hi).2.1 _ Zl_ p)).2
        have:=hI.one i hi
        omega
      . rcases Nat.lt_or_ge g2 (c i).1 with p' | p'
        . exact Or.inr p'
        . exact Or.inl (by omega)
 obtain⟨l,u,q1,q2,q3,q4,q5,q6⟩:=hin'
 have hI2:Zc6 PA W (Gr (S 6) w W) g' (L.set k ({ V.ac[k] with fr:=N },a',c')) (upd c k (l,u)):=by
  refine⟨fun i hi=>?_,fun i hi=>?_,fun i j hi hj hne=>?_,fun i hi=>?_⟩
  . rw [List.length_set] at hi
    by_cases e:i=k
    . subst e;rw [ZaA];exact⟨q1,q3,q4⟩
    . rw [Zbc _ _ e];exact⟨(hI.seg i hi).1,fun t a b=>Or.inl ((hI.seg i hi).2.1 t a b),(hI.seg i hi).2.2⟩
  . rw [List.length_set] at hi
    by_cases e:i=k
    . subst e;rw [ZaA];exact q2
    . rw [Zbc _ _ e];exact hI.one i hi
  . rw [List.length_set] at hi hj
    by_cases e:i=k
    . subst e
      rw [ZaA,Zbc _ _ (Ne.symm hne)];exact (q5 j hj (Ne.symm hne)).symm
    . rw [Zbc _ _ e]
      by_cases e':j=k
      . subst e';rw [ZaA];exact q5 i hi hne
      . rw [Zbc _ _ e'];exact hI.ap i j hi hj hne
  . have hi':=hi
    rw [List.length_set] at hi'
    by_cases e:i=k
    . subst e
      rw [ZaA,List.getElem_set_self];exact q6
    . rw [Zbc _ _ e,List.getElem_set_ne (fun h=>e h.symm)]
      exact hIo i hi' e
 refine⟨_,h.turn6 htS (by rw [List.length_set]) ⟨L.set k ({ V.ac[k] with fr:=N },a',c'),Or.inr ⟨g',_,Or.inl hg,⟨g',cp,?_,hfr⟩,hI2⟩,by rw [List.map_set,hmap]⟩⟩;rw [List.length_set,List.length_set,hll,e1,<- e4]
end Go.Proofs.YtkiefplmnoapfaaGreat
