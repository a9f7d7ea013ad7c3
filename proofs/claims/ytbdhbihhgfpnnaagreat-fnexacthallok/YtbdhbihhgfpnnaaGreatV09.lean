import Derived.Test.YtbdhbihhgfpnnaaGreatV06
import Derived.Test.YtbdhbihhgfpnnaaGreatV08
set_option maxHeartbeats 16000000
set_option maxRecDepth 100000
open Go.Proofs.Tryz
namespace Go.Proofs.YtbdhbihhgfpnnaaGreat
open Go.RowKit Go.Deep
section
variable {lo B k:Nat} {w wr:World} {v:Value} {L:List Int}
structure Ru where
 vb:List Int
 kd:Zy_
 tm:Zy_
 pf:Zy_
def Zax (lo:Nat) (w:World) (v:Value) (L:List Int):Prop:=
 (∃ (a:Option Addr) (cap:Nat),v=.slice a 0 cap/\L=[])\/
 ∃ (b off cap:Nat),v=.slice (some ⟨b,off,none⟩) L.length cap/\L≠[]/\L.length<=maxLen/\b < w.heap.size/\lo<=b/\
  ∀ i (h:i < L.length),w.cell? ⟨b,off+i,none⟩=some (.int .i64 L[i])
theorem Zax.below {w':World} (h:Zax lo w v L) (hb:Zw_ w w'):Zax lo w' v L:=by
 rcases h with h | ⟨b,off,cap,h1,h2,h3,h4,h5,h6⟩
 . exact Or.inl h
 . exact Or.inr ⟨b,off,cap,h1,h2,h3,Zk_ h4 hb.size,h5,fun i hi=>by rw [hb.cell (p:=⟨b,_,none⟩) h4];exact h6 i hi⟩
theorem Zax.mono {lo':Nat} (h:Zax lo w v L) (hl:lo'<=lo):Zax lo' w v L:=by
 rcases h with h | ⟨b,off,cap,h1,h2,h3,h4,h5,h6⟩
 . exact Or.inl h
 . exact Or.inr ⟨b,off,cap,h1,h2,h3,h4,Nat.le_trans hl h5,h6⟩
theorem Zax.form (h:Zax lo w v L):∃ a cap,v=.slice a L.length cap:=by
 rcases h with ⟨a,cap,h,rfl⟩ | ⟨b,off,cap,h,_⟩
 . exact⟨a,cap,h⟩
 . exact⟨_,cap,h⟩
theorem Zax.max (h:Zax lo w v L):L.length<=maxLen:=by
 rcases h with ⟨a,cap,h,rfl⟩ | ⟨b,off,cap,h,_,h3,_⟩
 . exact Nat.zero_le _
 . exact h3
theorem Zax.full (h:Zax lo w v L) (hne:L≠[]):∃ (b off cap:Nat),v=.slice (some ⟨b,off,none⟩) L.length cap/\L.length<=maxLen/\b < w.heap.size/\
 ∀ i (h:i < L.length),w.cell? ⟨b,off+i,none⟩=some (.int .i64 L[i]):=by
 rcases h with ⟨_,_,_,h⟩ | ⟨b,off,cap,h1,_,h3,h4,_,h6⟩
 . exact absurd h hne
 . exact⟨b,off,cap,h1,h3,h4,h6⟩
theorem Zax.full' {a:Option Addr}{n cap:Nat} (h:Zax lo w (.slice a n cap) L) (hL:0 < L.length) :
 ∃ b off,a=some ⟨b,off,none⟩/\b < w.heap.size/\∀ i (h:i < L.length),w.cell? ⟨b,off+i,none⟩=some (.int .i64 L[i]):=by
 rcases h with ⟨a',cap',h,rfl⟩ | ⟨b',off',cap',h1,h2,h3,h4,h5,h6⟩
 . simp at hL
 . injection h1 with e1 e2 e3
   exact⟨b',off',e1,h4,h6⟩
theorem Zax.setCell (h:Zax lo w v L) {p:Addr} (hp:p.block < lo) (u:Value):Zax lo (w.setCell p u) v L:=by
 rcases h with h | ⟨b,off,cap,h1,h2,h3,h4,h5,h6⟩
 . exact Or.inl h
 . refine Or.inr ⟨b,off,cap,h1,h2,h3,by simpa [World.setCell] using h4,h5,fun i hi=>?_⟩
   rw [ZaA _ _ _ _ (by show b≠p.block;omega)];exact h6 i hi
theorem ZmC (lo:Nat) (v:Value) (L:List Int) (left:Int) (w:World) (h0:0<=left) (h1:left<=1048576) (hv:Zax lo w v L) :
 Calls prog 146 #[v,.int .i64 left] w fun e w'=>∃ r:Int,e=.returned (.int .i64 r)/\w'=w/\Zss L.length left r:=by
 have hm:=hv.max;unfold maxLen at hm;obtain⟨a,cap,rfl⟩:=hv.form
 by_cases hle:(L.length:Int)<=left
 . go_enter func146,ntmps146
   go_wp2;go_ret;exact⟨_,rfl,rfl,by omega,by omega,fun _=>hle⟩
 . go_enter func146,ntmps146
   go_wp2;go_ret;exact⟨-1,rfl,rfl,by omega,by omega,fun h=>by omega⟩
theorem Zki (lo lo':Nat) (v v':Value) (L:List Int) (w:World) (hv:Zax lo w v L) (hv':Zax lo' w v' L) :
 Calls prog 190 #[v,v'] w fun e w'=>e=.returned (.bool true)/\Zw_ w w':=by
 by_cases hL:L=[]
 . subst hL
   obtain⟨a,cap,rfl⟩:=hv.form;obtain⟨a',cap',rfl⟩:=hv'.form;clear hv hv';go_enter func190,ntmps190;go_wp2
   go_loop [5] (fun i=>i=.int .i64 0) (fun _=>0)
   case atStart=>rfl
   case round=>
    subst hrel;go_wp2;go_ret;exact⟨rfl,Below.refl _ _⟩
 . obtain⟨b,off,cap,rfl,hm,hbw,hc⟩:=hv.full hL
   obtain⟨b',off',cap',rfl,_,hbw',hc'⟩:=hv'.full hL;clear hv hv';unfold maxLen at hm;go_enter func190,ntmps190;go_wp2
   go_loopw [5] (fun i wr=>∃ k:Nat,i=.int .i64 k/\k<=L.length/\Zw_ w wr) (fun i _=>L.length - (intOf i).toNat)
   case atStart=>exact⟨0,rfl,by omega,Below.refl _ _⟩
   case round=>
    obtain⟨k,rfl,hk,hb⟩:=hrel
    by_cases hlt:k < L.length
    . have c0:wr.cell? ⟨b,off+k,none⟩=some (.int .i64 L[k]):=by rw [hb.cell (p:=⟨b,_,none⟩) hbw];exact hc k hlt
      have d0:wr.cell? ⟨b',off'+k,none⟩=some (.int .i64 L[k]):=by rw [hb.cell (p:=⟨b',_,none⟩) hbw'];exact hc' k hlt
      have HB:=Zab hb;clear hb;go_wp2
      try go_quiet (fail)
      try go_wp2
      go_roundw
      . exact⟨k+1,by go_num,by omega,by first | exact HB.o | exact below_drewN HB.o _⟩
      . simp [intOf];omega
    . go_wp2
      go_ret;exact⟨rfl,hb⟩
theorem Tryz.info3:(prog.info? 3).map (fun i=>(i.zero,i.size,i.bytes))=some (some (.int .i64 0),1,8):=by kernel_rfl
def Zqq (L:List Int) (k i:Nat):Value:=if i < k then .int .i64 (L.getD i 0) else .int .i64 0
def ZeG (wr:World) (B:Nat) (L:List Int) (k:Nat):Prop:=wr.rowIs B 3 L.length (Zqq L k)
theorem ZeG.step (h:ZeG wr B L k) (hk:k < L.length):ZeG (wr.setCell ⟨B,k,none⟩ (.int .i64 L[k])) B L (k+1):=by
 unfold ZeG at*;refine (h.set k (.int .i64 L[k])).congr fun i hi=>?_
 unfold Zqq
 by_cases e:i=k
 . subst e;simp [hk]
 . by_cases e2:i < k
   . simp [e,e2,Nat.lt_succ_of_lt e2]
   . have:¬ i < k+1:=by omega
     simp [e,e2,this]
theorem ZeG.done (h:ZeG wr B L k) (hk:L.length<=k) (hne:L≠[]) (hm:L.length<=maxLen):Zax B wr (.slice (some ⟨B,0,none⟩) L.length L.length) L:=by
 refine Or.inr ⟨B,0,L.length,rfl,hne,hm,World.rowIs.lt h,Nat.le_refl _,fun i hi=>?_⟩;rw [Nat.zero_add,World.rowIs.cell h hi];unfold Zqq;rw [if_pos (by omega),List.getD_eq_getElem?_getD,List.getElem?_eq_getElem hi];rfl
theorem ZmI (lo:Nat) (v:Value) (L:List Int) (w:World) (hv:Zax lo w v L) (hn:L.length<=1048576) :
 Calls prog 160 #[v] w fun e w'=>∃ v',e=.returned v'/\Zw_ w w'/\Zax w.heap.size w' v' L:=by
 by_cases hL:L=[]
 . subst hL
   obtain⟨a,cap,rfl⟩:=hv.form;clear hv
   have hmk:∀ u:World,(Instr.makeSlice 87 (.int .i64 0) (.int .i64 0)).run prog u=.ok (.slice (some ⟨u.heap.size,0,none⟩) 0 0) (u.alloc (.cells (madeCells #[.int .i64 0] 0) 3)):=
    fun u=>run_make_row' 87 3 (.int .i64 0) 8 underlying87 Tryz.info3 rfl .i64 .i64 0 (by omega) (by omega) u
   go_enter func160,ntmps160;go_wp2
   go_loop [4] (fun i=>i=.int .i64 0) (fun _=>0)
   case atStart=>rfl
   case round=>
    subst hrel;go_wp2;go_ret;exact⟨_,rfl,Zb_.alloc Zl_ _,Or.inl ⟨_,_,rfl,rfl⟩⟩
 . obtain⟨b,off,cap,rfl,hm,hbw,hc⟩:=hv.full hL
   clear hv;have HM:Hd (L.length<=maxLen):=hm;unfold maxLen at hm
   have hmk:∀ u:World,(Instr.makeSlice 87 (.int .i64 (L.length:Int)) (.int .i64 (L.length:Int))).run prog u=.ok (.slice (some ⟨u.heap.size,0,none⟩) L.length L.length) (u.alloc (.cells (madeCells #[.int .i64 0] L.length) 3)):=
    fun u=>run_make_row' 87 3 (.int .i64 0) 8 underlying87 Tryz.info3 rfl .i64 .i64 L.length (by omega) (by omega) u
   go_enter func160,ntmps160;go_wp2;clear hmk
   go_loopw [4] (fun i wr=>∃ k:Nat,i=.int .i64 k/\k<=L.length/\Zw_ w wr/\ZeG wr w.heap.size L k) (fun i _=>L.length - (intOf i).toNat)
   case atStart=>exact⟨0,rfl,by omega,Zb_.alloc Zl_ _,World.rowIs_made w (.int .i64 0) L.length 3⟩
   case round=>
    obtain⟨k,rfl,hk,hb,hf⟩:=hrel
    by_cases hlt:k < L.length
    . have hck:wr.cell? ⟨b,off+k,none⟩=some (.int .i64 L[k]):=by rw [hb.cell (p:=⟨b,off+k,none⟩) hbw];exact hc k hlt
      have hold:wr.cell? ⟨w.heap.size,k,none⟩=some _:=World.rowIs.cell hf hlt;have hfz:wr.frozen? ⟨w.heap.size,k,none⟩=false:=World.rowIs.frozen hf k;go_wp2;go_roundw
      . exact⟨k+1,by go_num,by omega,hb.setCell Zl_ _,hf.step hlt⟩
      . simp [intOf];omega
    . go_wp2
      go_ret;exact⟨_,rfl,hb,hf.done (by omega) hL HM.o⟩
structure ZeX (r:Ru):Prop where
 s1:r.kd.size<=maxLen
 s2:r.tm.size<=maxLen
 s3:r.pf.size<=maxLen
theorem ZmD (lo:Nat) (r:Ru) (vv:Value) (left:Int) (w:World) (h0:0<=left) (h1:left<=1048576) (hv:Zax lo w vv r.vb) (hz:ZeX r) :
 Calls prog 88 #[.agg #[vv,.string r.kd,.string r.tm,.string r.pf],.int .i64 left] w
  fun e w'=>∃ q:Int,e=.returned (.int .i64 q)/\Zw_ w w'/\Zss r.vb.length left q:=by
 obtain⟨s1,s2,s3⟩:=hz;unfold maxLen at s1 s2 s3;have HV:=Zab hv;obtain⟨a,cap,rfl⟩:=hv.form;clear hv;have HW:∀ o,Hd (Zw_ w (w.alloc o)):=fun o=>Zac _ _
 go_enter func88,ntmps88;go_wp2_with fail;refine (ZmC lo _ r.vb _ _ (by omega) (by omega) (HV.o.below (HW _).o)).mono ?_;rintro e w1 ⟨q,rfl,rfl,hr0,hr1,hr2⟩;have HR:=Zab hr2;clear hr2;go_wp2
 all_goals go_ret
 all_goals refine⟨_,rfl,(HW _).o,by omega,by omega,fun _=>?_⟩
 all_goals have:=HR.o (by omega)
 all_goals omega
theorem ZmJ (lo:Nat) (r:Ru) (vv:Value) (w:World) (hv:Zax lo w vv r.vb) (hn:r.vb.length<=1048576) :
 Calls prog 111 #[.agg #[vv,.string r.kd,.string r.tm,.string r.pf]] w
  fun e w'=>∃ v',e=.returned (.agg #[v',.string r.kd,.string r.tm,.string r.pf])/\Zw_ w w'/\Zax w.heap.size w' v' r.vb:=by
 have HV:=Zab hv;obtain⟨a,cap,rfl⟩:=hv.form;clear hv;go_enter func111,ntmps111;go_wp2_with fail;refine (ZmI lo _ r.vb _ (HV.o.below ?_) hn).mono ?_
 . exact ((Zb_.alloc Zl_ _).alloc (by simp) _).alloc (by simp;omega) _
 rintro e w1 ⟨v',rfl,hb,hs⟩;obtain⟨a',cap',rfl⟩:=hs.form;have HS:Hd (Zax (w.heap.size+3) w1 (.slice a' r.vb.length cap') r.vb):=hs.mono (by simp);clear hs;have hz:w.heap.size+2 < w1.heap.size:=by have:=hb.size;simp at this;omega
 have hc:∀ b o,b < w.heap.size+3->w1.cell? ⟨b,o,none⟩=_:=fun b o h=>hb.cell (p:=⟨b,o,none⟩) (by simpa using h)
 have hf:∀ b o,b < w.heap.size+3->w1.frozen? ⟨b,o,none⟩=_:=fun b o h=>hb.frozen (p:=⟨b,o,none⟩) (by simpa using h)
 have HB:Hd (Zw_ w w1):=(((Zb_.alloc Zl_ _).alloc (by simp) _).alloc (by simp;omega) _).trans (hb.mono (by simp;omega));clear hb;go_wp2;refine bodyPost_ret (v:=.agg #[.slice a' r.vb.length cap',.string r.kd,.string r.tm,.string r.pf]) (by simp [results,results111,go_sem,hc]) rfl ⟨_,rfl,?_,?_⟩
 . repeat (refine Below.setCell ?_ (by simp only [];omega) _)
   exact HB.o
 . refine Zax.mono (lo:=w.heap.size+3) ?_ (by omega)
   repeat (refine Zax.setCell ?_ (by simp only [];omega) _)
   exact HS.o
theorem Zkj (lo lo':Nat) (r:Ru) (vv vv':Value) (w:World) (hv:Zax lo w vv r.vb) (hv':Zax lo' w vv' r.vb) :
 Calls prog 139 #[.agg #[vv,.string r.kd,.string r.tm,.string r.pf],.agg #[vv',.string r.kd,.string r.tm,.string r.pf]] w
  fun e w'=>e=.returned (.bool true)/\Zw_ w w':=by
 have HV:=Zab hv;have HV':=Zab hv';obtain⟨a,cap,rfl⟩:=hv.form;obtain⟨a',cap',rfl⟩:=hv'.form;clear hv hv';go_enter func139,ntmps139;go_wp2_with fail;generalize hWa:(World.alloc (w.alloc _) _)=Wa;have HBa:Hd (Zw_ w Wa):=by rw [<- hWa];exact (Zac w _).alloc (by simp) _
 have FA:Hd (Box Wa w.heap.size #[.slice a r.vb.length cap,.string r.kd,.string r.tm,.string r.pf]):=by rw [<- hWa];exact (Box.new _ _ _ _ rfl).on (Zac _ _)
 have FB:Hd (Box Wa (w.heap.size+1) #[.slice a' r.vb.length cap',.string r.kd,.string r.tm,.string r.pf]):=by rw [<- hWa];exact Box.new _ _ _ _ (by simp)
 clear hWa;refine (Zki lo lo' _ _ r.vb _ (HV.o.below HBa.o) (HV'.o.below HBa.o)).mono ?_;rintro e w1 ⟨rfl,hb1⟩;have HB1:Hd (Zw_ w w1):=HBa.o.trans (hb1.mono HBa.o.size);have g:=(FA.o.on hb1).cell;have g':=(FB.o.on hb1).cell;have a1:w1.cell? ⟨w.heap.size,1,none⟩=some (.string r.kd):=g 1;have a2:w1.cell? ⟨w.heap.size,2,none⟩=some (.string r.tm):=g 2;have a3:w1.cell? ⟨w.heap.size,3,none⟩=some (.string r.pf):=g 3;have b1:w1.cell? ⟨w.heap.size+1,1,none⟩=some (.string r.kd):=g' 1;have b2:w1.cell? ⟨w.heap.size+1,2,none⟩=some (.string r.tm):=g' 2;have b3:w1.cell? ⟨w.heap.size+1,3,none⟩=some (.string r.pf):=g' 3;clear g g' hb1;go_wp2;go_ret;exact⟨rfl,HB1.o⟩
end
structure ZdQ (lo:Nat) (w:World) (sv mv tv:Value) (Ss:List Sh) (Ms:List Md) (Ts:List Tm):Prop where
 shs:Zba lo w sv Ss
 mds:ZbY lo w mv Ms
 tms:ZaZ lo w tv Ts
theorem ZdQ.below {lo:Nat}{w w':World}{sv mv tv:Value}{Ss:List Sh}{Ms:List Md}{Ts:List Tm} (h:ZdQ lo w sv mv tv Ss Ms Ts) (hb:Zw_ w w'):ZdQ lo w' sv mv tv Ss Ms Ts:=
 ⟨h.shs.below hb,h.mds.below hb,h.tms.below hb⟩
section
theorem Zae.spread {w:World}{a:Option Addr}{n cap:Nat}{L:List Zy_} (h:Zae w (.slice a n cap) L) (hL:0 < L.length) :
 ∃ b off,a=some ⟨b,off,none⟩/\b < w.heap.size/\(∀ i (h:i < L.length),w.cell? ⟨b,off+i,none⟩=some (.string L[i]))/\∀ s ∈ L,s.size<=maxLen:=by
 rcases h with ⟨_,_,_,rfl⟩ | ⟨b,off,_,h1,_,_,h4,h5,h6⟩
 . simp at hL
 . cases h1
   exact⟨b,off,rfl,h4,h5,h6⟩
theorem Zfm (s:Zy_):0<=Zaq s/\Zaq s<=9999999:=by
 unfold Zaq
 split
 . rename_i h
   have h7:s.size<=7/\Zey ZcA s=true:=by
    unfold ZdS inB at h;simp only [Bool.and_eq_true,decide_eq_true_eq] at h;exact⟨by omega,h.2⟩
   have:=ZbM s s.size Zl_ h7.1 (by
    rw [List.take_of_length_le (by simp)];exact h7.2)
   rw [ZcT Zl_] at this
   omega
 . omega
theorem Zk4 (s:Zy_):Zaq s=if 0 < ZiP s then ZiP s else 0:=by
 have:=Zfm s;unfold Zaq ZiP at*
 split
 . rename_i h
   rw [if_pos h] at this
   split <;> omega
 . simp
def Zp7 (r:Zy_) (f:Fd) (s:Zy_):Int:=if (f.kd == 1&&f.we.toList == r.toList)=true then Zaq s else 0
def Zeq (r:Zy_) (Fs:List Fd) (V:List Zy_):Nat->Int
 | 0=>0
 | k+1=>Zeq r Fs V k+(match Fs[k]?,V[k]? with | some f,some s=>Zp7 r f s | _,_=>0)
theorem ZrE (r:Zy_) (f:Fd) (s:Zy_):0<=Zp7 r f s/\Zp7 r f s<=9999999:=by
 have:=Zfm s;unfold Zp7
 split <;> omega
theorem Zj3 {r:Zy_}{Fs:List Fd}{V:List Zy_}{k:Nat} (hf:k < Fs.length) (hv:k < V.length):Zeq r Fs V (k+1)=Zeq r Fs V k+Zp7 r Fs[k] V[k]:=by
 rw [Zeq];simp [hf,hv]
theorem ZrF (r:Zy_) (Fs:List Fd) (V:List Zy_) (k:Nat):0<=Zeq r Fs V k/\Zeq r Fs V k<=9999999*k:=by
 induction k with
 | zero=>simp [Zeq]
 | succ k ih=>
  rw [Zeq]
  split
  . rename_i f s _ _
    have:=ZrE r f s
    push_cast
    omega
  . push_cast
    omega
def Zdu (Ss:List Sh) (kind:Zy_) (V:List Zy_) (r:Zy_):Int:=
 if r.toList.isEmpty=true then 0 else
 match Zci Ss kind with
 | some x=>if x.fields.length=V.length then (if (r.toList == kind.toList)=true then 1 else 0)+Zeq r x.fields V V.length else 0
 | none=>0
theorem Zlt {Ss:List Sh}{kind:Zy_}{V:List Zy_}{r:Zy_} (h:∀ x,Zci Ss kind=some x->x.fields.length≠V.length):Zdu Ss kind V r=0:=by
 unfold Zdu
 split
 . rfl
 . cases hs:Zci Ss kind with
   | none=>rfl
   | some x=>simp [h x hs]
theorem Zj0 {Ss:List Sh}{kind:Zy_}{V:List Zy_}{r:Zy_} (h:r.toList.isEmpty=true):Zdu Ss kind V r=0:=by
 unfold Zdu;rw [if_pos h]
theorem Zj1 {Ss:List Sh}{kind:Zy_}{V:List Zy_}{r:Zy_}{x:Sh} (h:Zci Ss kind=some x) (hl:x.fields.length=V.length) (hr:r.toList.isEmpty=false) :
 Zdu Ss kind V r=(if (r.toList == kind.toList)=true then 1 else 0)+Zeq r x.fields V V.length:=by
 unfold Zdu;rw [h];simp [hr,hl]
section
variable (lo:Nat) (sv mv tv:Value) (Ss:List Sh) (Ms:List Md) (Ts:List Tm) (kind nm team:Zy_) (vv hv:Value) (en:Bool) (ver:Int) (V Ho:List Zy_) (r:Zy_) (w:World)
theorem Zhn (h:ZdQ lo w sv mv tv Ss Ms Ts) (hV:Zae w vv V) (hH:Zae w hv Ho) (n1:V.length<=1048576) :
 Calls prog 158 #[.agg #[sv,mv,tv],.agg #[.string kind,.string nm,.string team,vv,.bool en,hv,.int .i64 ver],.string r] w
  fun e w'=>e=.returned (.int .i64 (Zdu Ss kind V r))/\Zw_ w w':=by
 have HL:=Zab h;have HV:=Zab hV;have HH:=Zab hH;obtain⟨a,cap,rfl⟩:=h.shs.form;obtain⟨a1,cap1,rfl⟩:=h.mds.form;obtain⟨a2,cap2,rfl⟩:=h.tms.form;obtain⟨va,vcap,rfl⟩:=hV.form';obtain⟨ha,hcap,rfl⟩:=hH.form';clear h hV hH;go_enter func158,ntmps158;go_wp2_with fail
 obtain⟨wz,hwz,HO,HB⟩:∃ wz,wz=(w.alloc (.cells #[.slice a Ss.length cap,.slice a1 Ms.length cap1,.slice a2 Ts.length cap2] 71)).alloc (.cells #[.string kind,.string nm,.string team,.slice va V.length vcap,.bool en,.slice ha Ho.length hcap,.int .i64 ver] 126)/\
  Hd (Box wz (w.heap.size+1) #[.string kind,.string nm,.string team,.slice va V.length vcap,.bool en,.slice ha Ho.length hcap,.int .i64 ver])/\Hd (Zw_ w wz):=
  ⟨_,rfl,Box.new _ _ _ _ (by simp),(Zac _ _).trans ((Zac _ _).mono (by simp))⟩
 rw [<- hwz];clear hwz;refine (Zcw kind nm team _ _ _ en ver V Ho Ss wz lo wz (HL.o.below HB.o).shs Zb_ (HV.o.below HB.o) (HH.o.below HB.o)).mono ?_;rintro e w1 ⟨hb1,hq⟩;have HO1:=Zab (HO.o.on hb1);have HB1:=Zab (HB.o.trans (hb1.mono HB.o.size))
 rcases hq with ⟨x,fv,hsh,hlen,rfl,hF⟩ | ⟨hno,fa,fcap,rfl⟩
 . have HF:=Zab (hF.below hb1)
   obtain⟨fa,fcap,rfl⟩:=hF.form;have HS:=Zab hsh;have HN:=Zab hlen;clear hb1 hF hsh HO HB hlen
   cases hr:r.toList.isEmpty with
   | true=>
    have HQ:=Zab (Zj0 (Ss:=Ss) (kind:=kind) (V:=V) hr);go_wp2;go_ret;exact⟨ZaB HQ.o.symm,HB1.o⟩
   | false=>
    have HQ:=Zab (Zj1 HS.o HN.o hr);have hbd:=ZrF r x.fields V;have HBD:=Zab hbd;have o0:=HO1.o.cell 0;have o3:=HO1.o.cell 3;simp at o0 o3;have hvl:x.fields.length<=1048576:=by have:=HN.o;omega
    have HV1:=Zab (HV.o.below HB1.o);clear hbd
    cases hk:(r.toList == kind.toList) with
    | true=>
     have HE:Hd (Zdu Ss kind V r=1+Zeq r x.fields V V.length):=by unfold Hd;rw [HQ.o,hk];rfl
     go_wp2
     go_loop [9,10] (fun n i=>∃ k:Nat,n=.int .i64 (1+Zeq r x.fields V k)/\i=.int .i64 k/\k<=x.fields.length) (fun _ i=>x.fields.length - (intOf i).toNat)
     case atStart=>exact⟨0,by simp [Zeq],rfl,by omega⟩
     case round=>
      obtain⟨k,rfl,rfl,hkl⟩:=hrel
      by_cases hlt:k < x.fields.length
      . have hlv:k < V.length:=by have:=HN.o;omega
        obtain⟨fb,foff,rfl,hfb,hfc⟩:=HF.o.full' (by omega);obtain⟨hsz,wv,hcell,-⟩:=hfc k hlt;obtain⟨c0,c1,c2,c3,c4,c5,c6,c7,c8,c9,c10⟩:=hcell;obtain⟨vb,voff,rfl,hvb,hvc,hvs⟩:=HV1.o.spread (by omega);have hvk:=hvc k hlv;have hvz:V[k].size<=maxLen:=hvs _ (List.getElem_mem hlv);have HST:=Zab (Zj3 (r:=r) hlt hlv);have HDN:=Zab (Zk4 V[k]);have hbd:=HBD.o k;have hbn:=Zfm V[k];have hW:Zp7 r x.fields[k] V[k]=if (x.fields[k].kd == 1&&x.fields[k].we.toList == r.toList)=true then Zaq V[k] else 0:=rfl
        have HW:=Zab hW;clear hfc hvc hvs c0 c2 c3 c4 c5 c6 c7 c8 c9 hsz hW
        cases hk1:(x.fields[k].kd == 1) with
        | false=>
         have HE2:Hd (Zeq r x.fields V (k+1)=Zeq r x.fields V k):=by unfold Hd;rw [HST.o,HW.o,hk1];simp
         go_wp2_with (go_at_call 159;refine (Za4 _ _ hvz).mono ?_;rintro e w2 ⟨rfl,rfl⟩)
         go_round
         . exact⟨k+1,by rw [HE2.o],by go_num,by omega⟩
         . simp [intOf];omega
        | true=>
         cases hk2:(x.fields[k].we.toList == r.toList) with
         | false=>
          have HE2:Hd (Zeq r x.fields V (k+1)=Zeq r x.fields V k):=by unfold Hd;rw [HST.o,HW.o,hk1,hk2];simp
          go_wp2_with (go_at_call 159;refine (Za4 _ _ hvz).mono ?_;rintro e w2 ⟨rfl,rfl⟩)
          go_round
          . exact⟨k+1,by rw [HE2.o],by go_num,by omega⟩
          . simp [intOf];omega
         | true=>
          by_cases hn:0 < ZiP V[k]
          . have HE2:Hd (Zeq r x.fields V (k+1)=Zeq r x.fields V k+ZiP V[k]):=by unfold Hd;rw [HST.o,HW.o,hk1,hk2,HDN.o,if_pos hn];simp
            have hb2:=HBD.o (k+1);rw [HE2.o] at hb2
            push_cast at hb2
            go_wp2_with (go_at_call 159;refine (Za4 _ _ hvz).mono ?_;rintro e w2 ⟨rfl,rfl⟩)
            go_round
            . exact⟨k+1,by rw [HE2.o];congr 1;omega,by go_num,by omega⟩
            . simp [intOf];omega
          . have HE2:Hd (Zeq r x.fields V (k+1)=Zeq r x.fields V k):=by unfold Hd;rw [HST.o,HW.o,hk1,hk2,HDN.o,if_neg hn];simp
            go_wp2_with (go_at_call 159;refine (Za4 _ _ hvz).mono ?_;rintro e w2 ⟨rfl,rfl⟩)
            go_round
            . exact⟨k+1,by rw [HE2.o],by go_num,by omega⟩
            . simp [intOf];omega
      . have he:k=V.length:=by have:=HN.o;omega
        subst he;go_wp2;go_ret;exact⟨ZaB (by have:=HE.o;omega),HB1.o⟩
    | false=>
     have HE:Hd (Zdu Ss kind V r=0+Zeq r x.fields V V.length):=by unfold Hd;rw [HQ.o,hk];rfl
     go_wp2
     go_loop [9,10] (fun n i=>∃ k:Nat,n=.int .i64 (0+Zeq r x.fields V k)/\i=.int .i64 k/\k<=x.fields.length) (fun _ i=>x.fields.length - (intOf i).toNat)
     case atStart=>exact⟨0,by simp [Zeq],rfl,by omega⟩
     case round=>
      obtain⟨k,rfl,rfl,hkl⟩:=hrel
      by_cases hlt:k < x.fields.length
      . have hlv:k < V.length:=by have:=HN.o;omega
        obtain⟨fb,foff,rfl,hfb,hfc⟩:=HF.o.full' (by omega);obtain⟨hsz,wv,hcell,-⟩:=hfc k hlt;obtain⟨c0,c1,c2,c3,c4,c5,c6,c7,c8,c9,c10⟩:=hcell;obtain⟨vb,voff,rfl,hvb,hvc,hvs⟩:=HV1.o.spread (by omega);have hvk:=hvc k hlv;have hvz:V[k].size<=maxLen:=hvs _ (List.getElem_mem hlv);have HST:=Zab (Zj3 (r:=r) hlt hlv);have HDN:=Zab (Zk4 V[k]);have hbd:=HBD.o k;have hbn:=Zfm V[k];have hW:Zp7 r x.fields[k] V[k]=if (x.fields[k].kd == 1&&x.fields[k].we.toList == r.toList)=true then Zaq V[k] else 0:=rfl
        have HW:=Zab hW;clear hfc hvc hvs c0 c2 c3 c4 c5 c6 c7 c8 c9 hsz hW
        cases hk1:(x.fields[k].kd == 1) with
        | false=>
         have HE2:Hd (Zeq r x.fields V (k+1)=Zeq r x.fields V k):=by unfold Hd;rw [HST.o,HW.o,hk1];simp
         go_wp2_with (go_at_call 159;refine (Za4 _ _ hvz).mono ?_;rintro e w2 ⟨rfl,rfl⟩)
         go_round
         . exact⟨k+1,by rw [HE2.o];congr 1;omega,by go_num,by omega⟩
         . simp [intOf];omega
        | true=>
         cases hk2:(x.fields[k].we.toList == r.toList) with
         | false=>
          have HE2:Hd (Zeq r x.fields V (k+1)=Zeq r x.fields V k):=by unfold Hd;rw [HST.o,HW.o,hk1,hk2];simp
          go_wp2_with (go_at_call 159;refine (Za4 _ _ hvz).mono ?_;rintro e w2 ⟨rfl,rfl⟩)
          go_round
          . exact⟨k+1,by rw [HE2.o];congr 1;omega,by go_num,by omega⟩
          . simp [intOf];omega
         | true=>
          by_cases hn:0 < ZiP V[k]
          . have HE2:Hd (Zeq r x.fields V (k+1)=Zeq r x.fields V k+ZiP V[k]):=by unfold Hd;rw [HST.o,HW.o,hk1,hk2,HDN.o,if_pos hn];simp
            have hb2:=HBD.o (k+1);rw [HE2.o] at hb2
            push_cast at hb2
            go_wp2_with (go_at_call 159;refine (Za4 _ _ hvz).mono ?_;rintro e w2 ⟨rfl,rfl⟩)
            go_round
            . exact⟨k+1,by rw [HE2.o];congr 1;omega,by go_num,by omega⟩
            . simp [intOf];omega
          . have HE2:Hd (Zeq r x.fields V (k+1)=Zeq r x.fields V k):=by unfold Hd;rw [HST.o,HW.o,hk1,hk2,HDN.o,if_neg hn];simp
            go_wp2_with (go_at_call 159;refine (Za4 _ _ hvz).mono ?_;rintro e w2 ⟨rfl,rfl⟩)
            go_round
            . exact⟨k+1,by rw [HE2.o];congr 1;omega,by go_num,by omega⟩
            . simp [intOf];omega
      . have he:k=V.length:=by have:=HN.o;omega
        subst he;go_wp2;go_ret;exact⟨ZaB (by have:=HE.o;omega),HB1.o⟩
 . have HQ:=Zab (Zlt (r:=r) hno)
   clear hb1 HO HB hno;go_wp2;go_ret;exact⟨ZaB HQ.o.symm,HB1.o⟩
end
end
theorem ZsU (X:World) (o:Obj):Below X.heap.size X (X.alloc o):=Zb_.alloc Zl_ _
theorem btz {a b c:World} (h:Below a.heap.size a b) (k:Below b.heap.size b c):Below a.heap.size a c:=h.trans (k.mono h.size)
theorem Zae.formz {w:World}{v:Value}{L:List Zy_} (h:Zae w v L):∃ a cap,v=.slice a L.length cap:=by
 rcases h with ⟨a,cap,h,rfl⟩ | ⟨b,off,cap,h,_⟩
 . exact⟨_,_,h⟩
 . exact⟨_,_,h⟩
end Go.Proofs.YtbdhbihhgfpnnaaGreat
