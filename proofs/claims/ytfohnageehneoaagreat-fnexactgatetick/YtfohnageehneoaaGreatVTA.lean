import Derived.Test.YtfohnageehneoaaGreatVDA
set_option maxHeartbeats 16000000
set_option maxRecDepth 100000
open Go.Proofs.Tryz
namespace Go.Proofs.YtfohnageehneoaaGreat
open Go.RowKit Go.Deep
theorem ZiS {a b:Zy_} (h:a=b):Ending.returned (.string a)=.returned (.string b):=by rw [h]
theorem ZqI {n k:Nat} {p:Nat→Bool} (hk:k < n) (h:(List.range n).all p=true):p k=true:=by
 rw [List.all_eq_true] at h;exact h k (List.mem_range.2 hk)
structure Tm where
 nm:Zy_
 ov:Zy_
def plT (Ts:List Tm) (s:Zy_):Nat:=Ts.findIdx fun t=>t.nm.toList == s.toList
theorem Zq6 {Ts:List Tm} {s:Zy_} {k:Nat} (hk:k < Ts.length) (h:(Ts[k].nm.toList == s.toList)=true) (hall:∀ i (h:i < Ts.length),i < k→(Ts[i].nm.toList == s.toList)=false):plT Ts s=k:=by
 unfold plT;rw [List.findIdx_eq hk];exact⟨h,fun j hj=>hall j (by omega) hj⟩
theorem Zq0 {Ts:List Tm} {s:Zy_} (hall:∀ i (h:i < Ts.length),(Ts[i].nm.toList == s.toList)=false):plT Ts s=Ts.length:=by
 unfold plT;rw [List.findIdx_eq_length];intro x hx;obtain⟨i,hi,rfl⟩:=List.getElem_of_mem hx;exact hall i hi
theorem Zrq {Ts:List Tm} {s:Zy_} (h:plT Ts s < Ts.length):(Ts[plT Ts s].nm.toList == s.toList)=true:=by
 unfold plT at h ⊢;exact List.findIdx_getElem (w:=h)
def Zdv (Ts:List Tm) (s:Zy_):Int:=if plT Ts s < Ts.length then (plT Ts s:Int) else -1
theorem Zna {Ts:List Tm} {s:Zy_} {k:Nat} (hk:k < Ts.length) (h:(Ts[k].nm.toList == s.toList)=true) (hall:∀ i (h:i < Ts.length),i < k→(Ts[i].nm.toList == s.toList)=false):Zdv Ts s=k:=by
 unfold Zdv;rw [Zq6 hk h hall,if_pos hk]
theorem Zof {Ts:List Tm} {s:Zy_} (hall:∀ i (h:i < Ts.length),(Ts[i].nm.toList == s.toList)=false):Zdv Ts s= -1:=by
 unfold Zdv;rw [Zq0 hall,if_neg (Nat.lt_irrefl _)]
theorem Zg6 {Ts:List Tm} {s:Zy_} (h:plT Ts s < Ts.length):Zdv Ts s=plT Ts s:=if_pos h
theorem ZgU {Ts:List Tm} {s:Zy_} (h:¬ plT Ts s < Ts.length):Zdv Ts s= -1:=if_neg h
def ovB (Ts:List Tm) (s:Zy_):Zy_:=match Ts[plT Ts s]? with
 | some t=>t.ov
 | none=>⟨#[]⟩
theorem ZsT {Ts:List Tm} {s:Zy_} (h:plT Ts s < Ts.length):ovB Ts s=Ts[plT Ts s].ov:=by
 unfold ovB;rw [List.getElem?_eq_getElem h]
theorem ZqW {Ts:List Tm} {s:Zy_} (h:¬ plT Ts s < Ts.length):ovB Ts s=⟨#[]⟩:=by
 unfold ovB;rw [List.getElem?_eq_none (by omega)]
theorem ZsU {Ts:List Tm} {s:Zy_} {k:Nat} (hk:k < Ts.length) (h:(Ts[k].nm.toList == s.toList)=true) (hall:∀ i (h:i < Ts.length),i < k→(Ts[i].nm.toList == s.toList)=false):ovB Ts s=Ts[k].ov:=by
 have e:=Zq6 hk h hall;unfold ovB;rw [e,List.getElem?_eq_getElem hk]
theorem ZsG {Ts:List Tm} {s:Zy_} (hall:∀ i (h:i < Ts.length),(Ts[i].nm.toList == s.toList)=false):ovB Ts s=⟨#[]⟩:=ZqW (by rw [Zq0 hall];omega)
def ZeT (Ts:List Tm) (b:Zy_):Nat→Zy_→Bool
 | 0,_=>false
 | n+1,a=>if (ovB Ts a).toList.isEmpty then false else if (ovB Ts a).toList == b.toList then true else ZeT Ts b n (ovB Ts a)
def Zbe (Ts:List Tm) (a b:Zy_):Bool:=(a.toList == b.toList) || ZeT Ts b 4 a
def ZaX (Ts:List Tm):Nat→Zy_→Bool
 | 0,_=>true
 | n+1,a=>if (ovB Ts a).toList.isEmpty then false else ZaX Ts n (ovB Ts a)
def ZfV (Ts:List Tm) (s:Zy_):Bool:=Ts.any fun t=>t.nm.toList == s.toList
theorem Zjk {Ts:List Tm} {s:Zy_} {k:Nat} (h:k < Ts.length) (hp:(Ts[k].nm.toList == s.toList)=true):ZfV Ts s=true:=by
 unfold ZfV;rw [List.any_eq_true];exact⟨Ts[k],List.getElem_mem h,hp⟩
theorem Zn0 {Ts:List Tm} {s:Zy_} (hall:∀ i (h:i < Ts.length),(Ts[i].nm.toList == s.toList)=false):ZfV Ts s=false:=by
 unfold ZfV;rw [List.any_eq_false];intro x hx;obtain⟨i,hi,rfl⟩:=List.getElem_of_mem hx;simp [hall i hi]
theorem Zhn (Ts:List Tm) (s:Zy_):ZfV Ts s=decide (plT Ts s < Ts.length):=by
 by_cases h:plT Ts s < Ts.length
 · rw [decide_eq_true h]
   exact Zjk h (Zrq h)
 · rw [decide_eq_false h]
   refine Zn0 fun i hi=>?_
   have:=List.not_of_lt_findIdx (p:=fun t:Tm=>t.nm.toList == s.toList) (xs:=Ts) (i:=i) (by show i < plT Ts s;omega)
   simpa using this
def Zdc (Ts:List Tm) (i:Nat):Bool:=match Ts[i]? with
 | none=>false
 | some t=>Zas t.nm&&(i == 0 || Op.bytesLess ((Ts[i - 1]?.map Tm.nm).getD ⟨#[]⟩).toList t.nm.toList)&&(t.ov.toList.isEmpty || ZfV Ts t.ov)&&!ZaX Ts 5 t.nm
def Zbq (Ts:List Tm):Bool:=decide (Ts.length≤12)&&(List.range Ts.length).all (Zdc Ts)
theorem ZaB {Ts:List Tm} {i:Nat} (h:i < Ts.length):Zdc Ts i=(Zas Ts[i].nm&&(i == 0 || Op.bytesLess ((Ts[i - 1]?.map Tm.nm).getD ⟨#[]⟩).toList Ts[i].nm.toList)&&(Ts[i].ov.toList.isEmpty || ZfV Ts Ts[i].ov)&&!ZaX Ts 5 Ts[i].nm):=by
 unfold Zdc;rw [List.getElem?_eq_getElem h]
theorem Zkt {Ts:List Tm} {j:Nat} (h:j+1 < Ts.length):((Ts[j+1 - 1]?.map Tm.nm).getD ⟨#[]⟩)=Ts[j].nm:=by
 rw [Nat.add_sub_cancel,List.getElem?_eq_getElem (by omega)];rfl
theorem Zj5 {Ts:List Tm} (h:¬ Ts.length≤12):Zbq Ts=false:=by unfold Zbq;simp [h]
theorem Zbp {Ts:List Tm} {k:Nat} (hk:k < Ts.length) (h:Zdc Ts k=false):Zbq Ts=false:=by
 unfold Zbq;rw [Za1 hk h];simp
theorem Zju {Ts:List Tm} {k:Nat} (h:Ts.length≤12) (hk:Ts.length≤k) (hall:∀ i,i < k→Zdc Ts i=true):Zbq Ts=true:=by
 unfold Zbq;rw [Za6 (fun i hi=>hall i (by omega))];simp [h]
structure Zd0 (w:World) (b o:Nat) (t:Tm):Prop where
 c0:w.cell? ⟨b,o,none⟩=some (.string t.nm)
 c1:w.cell? ⟨b,o+1,none⟩=some (.string t.ov)
structure ZeS (t:Tm):Prop where
 s0:t.nm.size≤maxLen
 s1:t.ov.size≤maxLen
theorem Zd0.below {w w':World} {b o:Nat} {t:Tm} (h:Zd0 w b o t) (hb:Zw_ w w') (hlt:b < w.heap.size):Zd0 w' b o t:=by
 have e:∀ o,w'.cell? ⟨b,o,none⟩=w.cell? ⟨b,o,none⟩:=fun o=>hb.cell (p:=⟨b,o,none⟩) hlt
 exact⟨by rw [e];exact h.c0,by rw [e];exact h.c1⟩
def Zbo (lo:Nat) (w:World) (v:Value) (Ts:List Tm):Prop:=
 (∃ (a:Option Addr) (cap:Nat),v=.slice a 0 cap∧Ts=[])∨
 ∃ (b off cap:Nat),v=.slice (some ⟨b,off,none⟩) Ts.length cap∧Ts≠[]∧Ts.length≤maxLen∧b < w.heap.size∧lo≤b∧Ts.length≤cap∧
  ∀ i (h:i < Ts.length),ZeS Ts[i]∧Zd0 w b (off+i*2) Ts[i]
theorem Zbo.below {lo:Nat} {w w':World} {v:Value} {Ts:List Tm} (h:Zbo lo w v Ts) (hb:Zw_ w w'):Zbo lo w' v Ts:=by
 rcases h with h | ⟨b,off,cap,h1,h2,h3,h4,h5,h6,h7⟩
 · exact Or.inl h
 · refine Or.inr ⟨b,off,cap,h1,h2,h3,Zk_ h4 hb.size,h5,h6,fun i hi=>?_⟩
   obtain⟨hs,hc⟩:=h7 i hi;exact⟨hs,hc.below hb h4⟩
theorem Zbo.mono {lo lo':Nat} {w:World} {v:Value} {Ts:List Tm} (h:Zbo lo w v Ts) (hl:lo'≤lo):Zbo lo' w v Ts:=by
 rcases h with h | ⟨b,off,cap,h1,h2,h3,h4,h5,h6,h7⟩
 · exact Or.inl h
 · exact Or.inr ⟨b,off,cap,h1,h2,h3,h4,Nat.le_trans hl h5,h6,h7⟩
theorem Zbo.form {lo:Nat} {w:World} {v:Value} {Ts:List Tm} (h:Zbo lo w v Ts):∃ a cap,v=.slice a Ts.length cap:=by
 rcases h with ⟨a,cap,h,rfl⟩ | ⟨b,off,cap,h,_⟩
 · exact⟨a,cap,h⟩
 · exact⟨_,cap,h⟩
theorem Zbo.max {lo:Nat} {w:World} {v:Value} {Ts:List Tm} (h:Zbo lo w v Ts):Ts.length≤maxLen:=by
 rcases h with ⟨a,cap,h,rfl⟩ | ⟨b,off,cap,h,_,h3,_⟩
 · exact Nat.zero_le _
 · exact h3
theorem Zbo.full {lo:Nat} {w:World} {v:Value} {Ts:List Tm} (h:Zbo lo w v Ts) (hne:Ts≠[]):∃ (b off cap:Nat),v=.slice (some ⟨b,off,none⟩) Ts.length cap∧Ts.length≤maxLen∧b < w.heap.size∧Ts.length≤cap∧
 ∀ i (h:i < Ts.length),ZeS Ts[i]∧Zd0 w b (off+i*2) Ts[i]:=by
 rcases h with ⟨_,_,_,h⟩ | ⟨b,off,cap,h1,_,h3,h4,_,h6,h7⟩
 · exact absurd h hne
 · exact⟨b,off,cap,h1,h3,h4,h6,h7⟩
theorem Zbo.full' {lo:Nat} {w:World} {a:Option Addr} {n cap:Nat} {Ts:List Tm} (h:Zbo lo w (.slice a n cap) Ts) (hL:0 < Ts.length) :
 ∃ b off,a=some ⟨b,off,none⟩∧b < w.heap.size∧∀ i (h:i < Ts.length),ZeS Ts[i]∧Zd0 w b (off+i*2) Ts[i]:=by
 rcases h with ⟨a',cap',h,rfl⟩ | ⟨b',off',cap',h1,h2,h3,h4,h5,h6,h7⟩
 · simp at hL
 · injection h1 with e1 e2 e3
   exact⟨b',off',e1,h4,h7⟩
theorem Zbo.setCell {lo:Nat} {w:World} {v:Value} {Ts:List Tm} (h:Zbo lo w v Ts) {p:Addr} (hp:p.block < lo) (u:Value):Zbo lo (w.setCell p u) v Ts:=by
 rcases h with h | ⟨b,off,cap,h1,h2,h3,h4,h5,h6,h7⟩
 · exact Or.inl h
 · refine Or.inr ⟨b,off,cap,h1,h2,h3,by simpa [World.setCell] using h4,h5,h6,fun i hi=>?_⟩
   obtain⟨hs,hc⟩:=h7 i hi;have e:∀ o,(w.setCell p u).cell? ⟨b,o,none⟩=w.cell? ⟨b,o,none⟩:=fun o=>Zaq _ _ _ _ (by show b≠p.block;omega)
   exact⟨hs,by rw [e];exact hc.c0,by rw [e];exact hc.c1⟩
theorem Zmo (k f:Zy_) (left:Int) (w:World) (h0:0≤left) (h1:left≤1048576)
 (s0:k.size≤maxLen) (s1:f.size≤maxLen) :
 Calls prog 88 #[.agg #[.string k,.string f],.int .i64 left] w
  fun e w'=>∃ r:Int,e=.returned (.int .i64 r)∧Zw_ w w'∧-1≤r∧r≤left:=by
 unfold maxLen at s0 s1;have HW:∀ o,Hid (Zw_ w (w.alloc o)):=fun o=>Zb_.alloc Zl_ _
 go_enter func88,ntmps88;go_wp2
 all_goals go_ret
 all_goals exact⟨_,rfl,(HW _).out,by omega,by omega⟩
theorem Zo5 (lo:Nat) (v:Value) (Ts:List Tm) (left:Int) (w:World) (h0:0≤left) (h1:left≤1048576) (hv:Zbo lo w v Ts) :
 Calls prog 29 #[v,.int .i64 left] w fun e w'=>∃ r:Int,e=.returned (.int .i64 r)∧Zw_ w w'∧Zsj Ts.length left r:=by
 rcases hv with ⟨a,cap,rfl,rfl⟩ | ⟨b,off,cap,rfl,hne,hm,hbw,_,_,hc⟩
 · go_enter func29,ntmps29
   go_wp2
   go_loop [1,5] (fun l i=>∃ r:Int,l=.int .i64 r∧0≤r∧r≤left∧i=.int .i64 0) (fun _ _=>0)
   case atStart=>exact⟨_,rfl,by omega,by omega,rfl⟩
   case round=>
    obtain⟨r,rfl,hr0,hr1,rfl⟩:=hrel;go_wp2;go_ret;exact⟨r,rfl,Below.refl _ _,by omega,by omega,fun _=>by simp;omega⟩
 · unfold maxLen at hm
   by_cases hle:(Ts.length:Int)≤left
   · go_enter func29,ntmps29
     go_wp2
     go_loopw [1,5] (fun l i wr=>∃ (r:Int) (k:Nat),l=.int .i64 r∧0≤r∧r≤left∧i=.int .i64 k∧k≤Ts.length∧Zw_ w wr) (fun _ i _=>Ts.length - (intOf i).toNat)
     case atStart=>exact⟨_,0,rfl,by omega,by omega,rfl,by omega,Below.refl _ _⟩
     case round=>
      obtain⟨r,k,rfl,hr0,hr1,rfl,hk,hb⟩:=hrel
      by_cases hlt:k < Ts.length
      · obtain⟨hsz,hcell⟩:=hc k hlt
        obtain⟨c0,c1⟩:=hcell.below hb hbw;go_wp2_with fail;refine (Zmo _ _ _ _ hr0 (by omega) hsz.s0 hsz.s1).mono ?_;rintro e w1 ⟨r1,rfl,hb1,q0,q1⟩;have hB:Hid (Zw_ w w1):=hb.trans (hb1.mono hb.size);clear hb1 c0 c1 hb;go_wp2
        all_goals first
         | (go_roundw
            case rel=>exact⟨_,k+1,rfl,by omega,by omega,by go_num,by omega,hB.out⟩
            case measure=>simp [intOf];omega)
         | (go_ret
            exact⟨-1,rfl,hB.out,by omega,by omega,fun h=>by omega⟩)
      · go_wp2
        go_ret;exact⟨r,rfl,hb,by omega,by omega,fun _=>hle⟩
   · go_enter func29,ntmps29
     go_wp2;go_ret;exact⟨-1,rfl,Below.refl _ _,by omega,by omega,fun h=>by omega⟩
theorem Zib (k f:Zy_) (w:World) :
 Calls prog 102 #[.agg #[.string k,.string f]] w
  fun e w'=>e=.returned (.agg #[.string k,.string f])∧Zw_ w w':=by
 go_enter func102,ntmps102;go_wp2;refine bodyPost_ret (v:=.agg #[.string k,.string f]) (by simp [results,results102,go_sem]) rfl ⟨rfl,?_⟩
 repeat (refine Below.setCell ?_ (by simp only [];omega) _)
 exact ((Zb_.alloc Zl_ _).alloc (by simp) _).alloc (by simp;omega) _
theorem ZkV (k f:Zy_) (w:World) :
 Calls prog 120 #[.agg #[.string k,.string f],.agg #[.string k,.string f]] w
  fun e w'=>e=.returned (.bool true)∧Zw_ w w':=by
 go_enter func120,ntmps120;go_wp2;go_ret;exact⟨rfl,(Zb_.alloc Zl_ _).alloc (by simp) _⟩
theorem Zmm (lo lo':Nat) (v v':Value) (Ts:List Tm) (w:World) (hv:Zbo lo w v Ts) (hv':Zbo lo' w v' Ts) :
 Calls prog 57 #[v,v'] w fun e w'=>e=.returned (.bool true)∧Zw_ w w':=by
 by_cases hL:Ts=[]
 · subst hL
   obtain⟨a,cap,rfl⟩:=hv.form;obtain⟨a',cap',rfl⟩:=hv'.form;clear hv hv';go_enter func57,ntmps57;go_wp2
   go_loop [5] (fun i=>i=.int .i64 0) (fun _=>0)
   case atStart=>rfl
   case round=>
    subst hrel;go_wp2;go_ret;exact⟨rfl,Below.refl _ _⟩
 · obtain⟨b,off,cap,rfl,hm,hbw,_,hc⟩:=hv.full hL
   obtain⟨b',off',cap',rfl,_,hbw',_,hc'⟩:=hv'.full hL;clear hv hv';unfold maxLen at hm;go_enter func57,ntmps57;go_wp2
   go_loopw [5] (fun i wr=>∃ k:Nat,i=.int .i64 k∧k≤Ts.length∧Zw_ w wr) (fun i _=>Ts.length - (intOf i).toNat)
   case atStart=>exact⟨0,rfl,by omega,Below.refl _ _⟩
   case round=>
    obtain⟨k,rfl,hk,hb⟩:=hrel
    by_cases hlt:k < Ts.length
    · obtain⟨_,hcell⟩:=hc k hlt
      obtain⟨_,hcell'⟩:=hc' k hlt;obtain⟨c0,c1⟩:=hcell.below hb hbw;obtain⟨d0,d1⟩:=hcell'.below hb hbw';clear hcell hcell';have HB:=Zab hb;clear hb;go_wp2
      go_region_with (go_at_call 120;refine (ZkV _ _ _).mono ?_;rintro e w1 ⟨rfl,hb1⟩;have hB:Hid (Zw_ w w1):=(HB.out.drew).trans (hb1.mono HB.out.size);clear hb1)
      all_goals go_wp2
      all_goals go_roundw
      all_goals first
       | (case rel=>exact⟨k+1,by go_num,by omega,hB.out⟩)
       | (case measure=>simp [intOf];omega)
    · go_wp2
      go_ret;exact⟨rfl,hb⟩
theorem Tryz.info168:(prog.info? 168).map (fun i=>(i.zero,i.size,i.bytes))=some (some (.agg #[.string ⟨#[]⟩,.string ⟨#[]⟩]),2,32):=by kernel_rfl
def Zb5 (wr:World) (B:Nat) (Ts:List Tm) (k:Nat):Prop:=
 ∃ f,wr.rowIs B 168 (Ts.length*2) f∧∀ i (h:i < Ts.length),i < k→ZeS Ts[i]∧f (i*2)=.string Ts[i].nm∧f (i*2+1)=.string Ts[i].ov
theorem Zb5.below {wr w1:World} {B:Nat} {Ts:List Tm} {k:Nat} (h:Zb5 wr B Ts k) (hb:Below wr.heap.size wr w1):Zb5 w1 B Ts k:=by
 obtain⟨f,hr,hall⟩:=h;exact⟨f,hr.of_block (hb.block B hr.lt),hall⟩
theorem Zb5.free {wr:World} {B:Nat} {Ts:List Tm} {k:Nat} (h:Zb5 wr B Ts k) (i:Nat):wr.frozen? ⟨B,i,none⟩=false:=by
 obtain⟨f,hr,_⟩:=h;exact hr.frozen i
theorem Zb5.there {wr:World} {B:Nat} {Ts:List Tm} {k:Nat} (h:Zb5 wr B Ts k) (i:Nat) (hi:i < Ts.length*2):∃ v,wr.cell? ⟨B,i,none⟩=some v:=by
 obtain⟨f,hr,_⟩:=h;exact⟨_,hr.cell hi⟩
theorem Zb5.step {w1:World} {B:Nat} {Ts:List Tm} {k:Nat} (h:Zb5 w1 B Ts k) (hk:k < Ts.length) (hz:ZeS Ts[k]) :
 Zb5 ((w1.setCell ⟨B,k*2,none⟩ (.string Ts[k].nm)).setCell ⟨B,k*2+1,none⟩ (.string Ts[k].ov)) B Ts (k+1):=by
 obtain⟨f,hr,hall⟩:=h;refine⟨_,((hr.set _ _).set _ _),fun i hi hik=>?_⟩
 by_cases e:i=k
 · subst e
   exact⟨hz,by simp,by simp⟩
 · obtain⟨hz',h0,h1⟩:=hall i hi (by omega)
   refine⟨hz',?_,?_⟩
   · rw [if_neg (by omega),if_neg (by omega)];exact h0
   · rw [if_neg (by omega),if_neg (by omega)];exact h1
theorem Zb5.done {wr:World} {B:Nat} {Ts:List Tm} {k:Nat} (h:Zb5 wr B Ts k) (hk:Ts.length≤k) (hne:Ts≠[]) (hm:Ts.length≤maxLen):Zbo B wr (.slice (some ⟨B,0,none⟩) Ts.length Ts.length) Ts:=by
 obtain⟨f,hr,hall⟩:=h;refine Or.inr ⟨B,0,Ts.length,rfl,hne,hm,hr.lt,Nat.le_refl _,Nat.le_refl _,fun i hi=>?_⟩;obtain⟨hz,h0,h1⟩:=hall i hi (by omega);rw [Nat.zero_add];exact⟨hz,by rw [hr.cell (by omega),h0],by rw [hr.cell (by omega),h1]⟩
theorem Zb5.new (w:World) (Ts:List Tm) (z:Array Value):Zb5 (w.alloc (.cells (madeCells z (Ts.length*2)) 168)) w.heap.size Ts 0:=by
 refine⟨fun i=>(madeCells z (Ts.length*2)).getD i default,?_,fun i _ h=>by omega⟩;have:=World.rowIs_alloc w (madeCells z (Ts.length*2)) 168 (fun i=>(madeCells z (Ts.length*2)).getD i default) (fun i hi=>by simp [Array.getD,hi])
 rwa [size_madeCells] at this
theorem Zob (lo:Nat) (v:Value) (Ts:List Tm) (w:World) (hv:Zbo lo w v Ts) (hn:Ts.length≤1048576) :
 Calls prog 43 #[v] w fun e w'=>∃ v',e=.returned v'∧Zw_ w w'∧Zbo w.heap.size w' v' Ts:=by
 obtain⟨i0,hi,hz0,hz1,hz2⟩:=info_parts Tryz.info168
 by_cases hL:Ts=[]
 · subst hL
   obtain⟨a,cap,rfl⟩:=hv.form;clear hv
   have hmk:∀ u:World,(Instr.makeSlice 45 (.int .i64 0) (.int .i64 0)).run prog u=.ok (.slice (some ⟨u.heap.size,0,none⟩) 0 0) (u.alloc (.cells (madeCells (Value.cells (.agg #[.string ⟨#[]⟩,.string ⟨#[]⟩])) 0) 168)):=fun u=>by
    have h:=run_make (P:=prog) u 45 168 i0 _ underlying45 hi hz0 .i64 .i64 0 0 (by omega) (by omega) (by omega) (by omega)
    simpa [hz1] using h
   go_enter func43,ntmps43;go_wp2
   go_loop [4] (fun i=>i=.int .i64 0) (fun _=>0)
   case atStart=>rfl
   case round=>
    subst hrel;go_wp2;go_ret;exact⟨_,rfl,Zb_.alloc Zl_ _,Or.inl ⟨_,_,rfl,rfl⟩⟩
 · obtain⟨b,off,cap,rfl,hm,hbw,_,hc⟩:=hv.full hL
   clear hv;have HM:Hid (Ts.length≤maxLen):=hm;unfold maxLen at hm
   have hmk:∀ u:World,(Instr.makeSlice 45 (.int .i64 (Ts.length:Int)) (.int .i64 (Ts.length:Int))).run prog u=.ok (.slice (some ⟨u.heap.size,0,none⟩) Ts.length Ts.length) (u.alloc (.cells (madeCells (Value.cells (.agg #[.string ⟨#[]⟩,.string ⟨#[]⟩])) (Ts.length*2)) 168)):=fun u=>by
    have h:=run_make (P:=prog) u 45 168 i0 _ underlying45 hi hz0 .i64 .i64 Ts.length Ts.length (by omega) (by omega) (by rw [hz2];omega) (by omega);rw [hz1] at h
    simpa using h
   clear hi hz0 hz1 hz2;go_enter func43,ntmps43;go_wp2;clear hmk
   go_loopw [4] (fun i wr=>∃ k:Nat,i=.int .i64 k∧k≤Ts.length∧Zw_ w wr∧Zb5 wr w.heap.size Ts k) (fun i _=>Ts.length - (intOf i).toNat)
   case atStart=>exact⟨0,rfl,by omega,Zb_.alloc Zl_ _,Zb5.new w Ts _⟩
   case round=>
    obtain⟨k,rfl,hk,hb,hf⟩:=hrel
    by_cases hlt:k < Ts.length
    · obtain⟨hsz,hcell⟩:=hc k hlt
      obtain⟨c0,c1⟩:=hcell.below hb hbw;clear hcell;go_wp2_with fail;refine (Zib _ _ _).mono ?_;rintro e w1 ⟨rfl,hb1⟩;have hf1:=hf.below hb1;have HST:=Zab (hf1.step hlt hsz);have hB:Hid (Zw_ w w1):=hb.trans (hb1.mono hb.size);have hfr:=hf1.free;obtain⟨o0,ho0⟩:=hf1.there (k*2) (by omega);obtain⟨o1,ho1⟩:=hf1.there (k*2+1) (by omega);clear hf hf1 hb1 hb c0 c1;go_wp2;go_roundw
      case rel=>
       exact⟨k+1,by go_num,by omega,(hB.out.setCell Zl_ _).setCell Zl_ _,HST.out⟩
      case measure=>simp [intOf];omega
    · go_wp2
      go_ret;exact⟨_,rfl,hb,hf.done (by omega) hL HM.out⟩
structure Ru where
 vb:List Int
 kd:Zy_
 tm:Zy_
 pf:Zy_
def Zau (lo:Nat) (w:World) (v:Value) (L:List Int):Prop:=
 (∃ (a:Option Addr) (cap:Nat),v=.slice a 0 cap∧L=[])∨
 ∃ (b off cap:Nat),v=.slice (some ⟨b,off,none⟩) L.length cap∧L≠[]∧L.length≤maxLen∧b < w.heap.size∧lo≤b∧
  ∀ i (h:i < L.length),w.cell? ⟨b,off+i,none⟩=some (.int .i64 L[i])
theorem Zau.below {lo:Nat} {w w':World} {v:Value} {L:List Int} (h:Zau lo w v L) (hb:Zw_ w w'):Zau lo w' v L:=by
 rcases h with h | ⟨b,off,cap,h1,h2,h3,h4,h5,h6⟩
 · exact Or.inl h
 · exact Or.inr ⟨b,off,cap,h1,h2,h3,Zk_ h4 hb.size,h5,fun i hi=>by rw [hb.cell (p:=⟨b,_,none⟩) h4];exact h6 i hi⟩
theorem Zau.mono {lo lo':Nat} {w:World} {v:Value} {L:List Int} (h:Zau lo w v L) (hl:lo'≤lo):Zau lo' w v L:=by
 rcases h with h | ⟨b,off,cap,h1,h2,h3,h4,h5,h6⟩
 · exact Or.inl h
 · exact Or.inr ⟨b,off,cap,h1,h2,h3,h4,Nat.le_trans hl h5,h6⟩
theorem Zau.form {lo:Nat} {w:World} {v:Value} {L:List Int} (h:Zau lo w v L):∃ a cap,v=.slice a L.length cap:=by
 rcases h with ⟨a,cap,h,rfl⟩ | ⟨b,off,cap,h,_⟩
 · exact⟨a,cap,h⟩
 · exact⟨_,cap,h⟩
theorem Zau.max {lo:Nat} {w:World} {v:Value} {L:List Int} (h:Zau lo w v L):L.length≤maxLen:=by
 rcases h with ⟨a,cap,h,rfl⟩ | ⟨b,off,cap,h,_,h3,_⟩
 · exact Nat.zero_le _
 · exact h3
theorem Zau.full {lo:Nat} {w:World} {v:Value} {L:List Int} (h:Zau lo w v L) (hne:L≠[]):∃ (b off cap:Nat),v=.slice (some ⟨b,off,none⟩) L.length cap∧L.length≤maxLen∧b < w.heap.size∧
 ∀ i (h:i < L.length),w.cell? ⟨b,off+i,none⟩=some (.int .i64 L[i]):=by
 rcases h with ⟨_,_,_,h⟩ | ⟨b,off,cap,h1,_,h3,h4,_,h6⟩
 · exact absurd h hne
 · exact⟨b,off,cap,h1,h3,h4,h6⟩
theorem Zau.full' {lo:Nat} {w:World} {a:Option Addr} {n cap:Nat} {L:List Int} (h:Zau lo w (.slice a n cap) L) (hL:0 < L.length) :
 ∃ b off,a=some ⟨b,off,none⟩∧b < w.heap.size∧∀ i (h:i < L.length),w.cell? ⟨b,off+i,none⟩=some (.int .i64 L[i]):=by
 rcases h with ⟨a',cap',h,rfl⟩ | ⟨b',off',cap',h1,h2,h3,h4,h5,h6⟩
 · simp at hL
 · injection h1 with e1 e2 e3
   exact⟨b',off',e1,h4,h6⟩
theorem Zau.setCell {lo:Nat} {w:World} {v:Value} {L:List Int} (h:Zau lo w v L) {p:Addr} (hp:p.block < lo) (u:Value):Zau lo (w.setCell p u) v L:=by
 rcases h with h | ⟨b,off,cap,h1,h2,h3,h4,h5,h6⟩
 · exact Or.inl h
 · refine Or.inr ⟨b,off,cap,h1,h2,h3,by simpa [World.setCell] using h4,h5,fun i hi=>?_⟩
   rw [Zaq _ _ _ _ (by show b≠p.block;omega)];exact h6 i hi
theorem Zm0 (lo:Nat) (v:Value) (L:List Int) (left:Int) (w:World) (h0:0≤left) (h1:left≤1048576) (hv:Zau lo w v L) :
 Calls prog 183 #[v,.int .i64 left] w fun e w'=>∃ r:Int,e=.returned (.int .i64 r)∧w'=w∧Zsj L.length left r:=by
 have hm:=hv.max;unfold maxLen at hm;obtain⟨a,cap,rfl⟩:=hv.form
 by_cases hle:(L.length:Int)≤left
 · go_enter func183,ntmps183
   go_wp2;go_ret;exact⟨_,rfl,rfl,by omega,by omega,fun _=>hle⟩
 · go_enter func183,ntmps183
   go_wp2;go_ret;exact⟨-1,rfl,rfl,by omega,by omega,fun h=>by omega⟩
theorem ZkB (lo lo':Nat) (v v':Value) (L:List Int) (w:World) (hv:Zau lo w v L) (hv':Zau lo' w v' L) :
 Calls prog 197 #[v,v'] w fun e w'=>e=.returned (.bool true)∧Zw_ w w':=by
 by_cases hL:L=[]
 · subst hL
   obtain⟨a,cap,rfl⟩:=hv.form;obtain⟨a',cap',rfl⟩:=hv'.form;clear hv hv';go_enter func197,ntmps197;go_wp2
   go_loop [5] (fun i=>i=.int .i64 0) (fun _=>0)
   case atStart=>rfl
   case round=>
    subst hrel;go_wp2;go_ret;exact⟨rfl,Below.refl _ _⟩
 · obtain⟨b,off,cap,rfl,hm,hbw,hc⟩:=hv.full hL
   obtain⟨b',off',cap',rfl,_,hbw',hc'⟩:=hv'.full hL;clear hv hv';unfold maxLen at hm;go_enter func197,ntmps197;go_wp2
   go_loopw [5] (fun i wr=>∃ k:Nat,i=.int .i64 k∧k≤L.length∧Zw_ w wr) (fun i _=>L.length - (intOf i).toNat)
   case atStart=>exact⟨0,rfl,by omega,Below.refl _ _⟩
   case round=>
    obtain⟨k,rfl,hk,hb⟩:=hrel
    by_cases hlt:k < L.length
    · have c0:wr.cell? ⟨b,off+k,none⟩=some (.int .i64 L[k]):=by rw [hb.cell (p:=⟨b,_,none⟩) hbw];exact hc k hlt
      have d0:wr.cell? ⟨b',off'+k,none⟩=some (.int .i64 L[k]):=by rw [hb.cell (p:=⟨b',_,none⟩) hbw'];exact hc' k hlt
      have HB:=Zab hb;clear hb;go_wp2
      try go_quiet (fail)
      try go_wp2
      go_roundw
      case rel=>exact⟨k+1,by go_num,by omega,by first | exact HB.out | exact below_drewN HB.out _⟩
      case measure=>simp [intOf];omega
    · go_wp2
      go_ret;exact⟨rfl,hb⟩
theorem Tryz.info3:(prog.info? 3).map (fun i=>(i.zero,i.size,i.bytes))=some (some (.int .i64 0),1,8):=by kernel_rfl
def Zqz (L:List Int) (k i:Nat):Value:=if i < k then .int .i64 (L.getD i 0) else .int .i64 0
def Zdf (wr:World) (B:Nat) (L:List Int) (k:Nat):Prop:=wr.rowIs B 3 L.length (Zqz L k)
theorem Zdf.step {wr:World} {B:Nat} {L:List Int} {k:Nat} (h:Zdf wr B L k) (hk:k < L.length):Zdf (wr.setCell ⟨B,k,none⟩ (.int .i64 L[k])) B L (k+1):=by
 unfold Zdf at*;refine (h.set k (.int .i64 L[k])).congr fun i hi=>?_
 unfold Zqz
 by_cases e:i=k
 · subst e;simp [hk]
 · by_cases e2:i < k
   · simp [e,e2,Nat.lt_succ_of_lt e2]
   · have:¬ i < k+1:=by omega
     simp [e,e2,this]
theorem Zdf.done {wr:World} {B:Nat} {L:List Int} {k:Nat} (h:Zdf wr B L k) (hk:L.length≤k) (hne:L≠[]) (hm:L.length≤maxLen):Zau B wr (.slice (some ⟨B,0,none⟩) L.length L.length) L:=by
 refine Or.inr ⟨B,0,L.length,rfl,hne,hm,World.rowIs.lt h,Nat.le_refl _,fun i hi=>?_⟩;rw [Nat.zero_add,World.rowIs.cell h hi];unfold Zqz;rw [if_pos (by omega),List.getD_eq_getElem?_getD,List.getElem?_eq_getElem hi];rfl
theorem ZmS (lo:Nat) (v:Value) (L:List Int) (w:World) (hv:Zau lo w v L) (hn:L.length≤1048576) :
 Calls prog 191 #[v] w fun e w'=>∃ v',e=.returned v'∧Zw_ w w'∧Zau w.heap.size w' v' L:=by
 by_cases hL:L=[]
 · subst hL
   obtain⟨a,cap,rfl⟩:=hv.form;clear hv
   have hmk:∀ u:World,(Instr.makeSlice 60 (.int .i64 0) (.int .i64 0)).run prog u=.ok (.slice (some ⟨u.heap.size,0,none⟩) 0 0) (u.alloc (.cells (madeCells #[.int .i64 0] 0) 3)):=
    fun u=>run_make_row' 60 3 (.int .i64 0) 8 underlying60 Tryz.info3 rfl .i64 .i64 0 (by omega) (by omega) u
   go_enter func191,ntmps191;go_wp2
   go_loop [4] (fun i=>i=.int .i64 0) (fun _=>0)
   case atStart=>rfl
   case round=>
    subst hrel;go_wp2;go_ret;exact⟨_,rfl,Zb_.alloc Zl_ _,Or.inl ⟨_,_,rfl,rfl⟩⟩
 · obtain⟨b,off,cap,rfl,hm,hbw,hc⟩:=hv.full hL
   clear hv;have HM:Hid (L.length≤maxLen):=hm;unfold maxLen at hm
   have hmk:∀ u:World,(Instr.makeSlice 60 (.int .i64 (L.length:Int)) (.int .i64 (L.length:Int))).run prog u=.ok (.slice (some ⟨u.heap.size,0,none⟩) L.length L.length) (u.alloc (.cells (madeCells #[.int .i64 0] L.length) 3)):=
    fun u=>run_make_row' 60 3 (.int .i64 0) 8 underlying60 Tryz.info3 rfl .i64 .i64 L.length (by omega) (by omega) u
   go_enter func191,ntmps191;go_wp2;clear hmk
   go_loopw [4] (fun i wr=>∃ k:Nat,i=.int .i64 k∧k≤L.length∧Zw_ w wr∧Zdf wr w.heap.size L k) (fun i _=>L.length - (intOf i).toNat)
   case atStart=>exact⟨0,rfl,by omega,Zb_.alloc Zl_ _,World.rowIs_made w (.int .i64 0) L.length 3⟩
   case round=>
    obtain⟨k,rfl,hk,hb,hf⟩:=hrel
    by_cases hlt:k < L.length
    · have hck:wr.cell? ⟨b,off+k,none⟩=some (.int .i64 L[k]):=by rw [hb.cell (p:=⟨b,off+k,none⟩) hbw];exact hc k hlt
      have hold:wr.cell? ⟨w.heap.size,k,none⟩=some _:=World.rowIs.cell hf hlt;have hfz:wr.frozen? ⟨w.heap.size,k,none⟩=false:=World.rowIs.frozen hf k;go_wp2;go_roundw
      case rel=>exact⟨k+1,by go_num,by omega,hb.setCell Zl_ _,hf.step hlt⟩
      case measure=>simp [intOf];omega
    · go_wp2
      go_ret;exact⟨_,rfl,hb,hf.done (by omega) hL HM.out⟩
structure ZgO (r:Ru):Prop where
 s1:r.kd.size≤maxLen
 s2:r.tm.size≤maxLen
 s3:r.pf.size≤maxLen
theorem Znp (lo:Nat) (r:Ru) (vv:Value) (left:Int) (w:World) (h0:0≤left) (h1:left≤1048576) (hv:Zau lo w vv r.vb) (hz:ZgO r) :
 Calls prog 137 #[.agg #[vv,.string r.kd,.string r.tm,.string r.pf],.int .i64 left] w
  fun e w'=>∃ q:Int,e=.returned (.int .i64 q)∧Zw_ w w'∧Zsj r.vb.length left q:=by
 obtain⟨s1,s2,s3⟩:=hz;unfold maxLen at s1 s2 s3;have HV:=Zab hv;obtain⟨a,cap,rfl⟩:=hv.form;clear hv;have HW:∀ o,Hid (Zw_ w (w.alloc o)):=fun o=>Zac _ _
 go_enter func137,ntmps137;go_wp2_with fail;refine (Zm0 lo _ r.vb _ _ (by omega) (by omega) (HV.out.below (HW _).out)).mono ?_;rintro e w1 ⟨q,rfl,rfl,hr0,hr1,hr2⟩;have HR:=Zab hr2;clear hr2;go_wp2
 all_goals go_ret
 all_goals refine⟨_,rfl,(HW _).out,by omega,by omega,fun _=>?_⟩
 all_goals have:=HR.out (by omega)
 all_goals omega
theorem Zm1 (lo:Nat) (r:Ru) (vv:Value) (w:World) (hv:Zau lo w vv r.vb) (hn:r.vb.length≤1048576) :
 Calls prog 143 #[.agg #[vv,.string r.kd,.string r.tm,.string r.pf]] w
  fun e w'=>∃ v',e=.returned (.agg #[v',.string r.kd,.string r.tm,.string r.pf])∧Zw_ w w'∧Zau w.heap.size w' v' r.vb:=by
 have HV:=Zab hv;obtain⟨a,cap,rfl⟩:=hv.form;clear hv;go_enter func143,ntmps143;go_wp2_with fail;refine (ZmS lo _ r.vb _ (HV.out.below ?_) hn).mono ?_
 · exact ((Zb_.alloc Zl_ _).alloc (by simp) _).alloc (by simp;omega) _
 rintro e w1 ⟨v',rfl,hb,hs⟩;obtain⟨a',cap',rfl⟩:=hs.form;have HS:Hid (Zau (w.heap.size+3) w1 (.slice a' r.vb.length cap') r.vb):=hs.mono (by simp);clear hs;have hz:w.heap.size+2 < w1.heap.size:=by have:=hb.size;simp at this;omega
 have hc:∀ b o,b < w.heap.size+3→w1.cell? ⟨b,o,none⟩=_:=fun b o h=>hb.cell (p:=⟨b,o,none⟩) (by simpa using h)
 have hf:∀ b o,b < w.heap.size+3→w1.frozen? ⟨b,o,none⟩=_:=fun b o h=>hb.frozen (p:=⟨b,o,none⟩) (by simpa using h)
 have HB:Hid (Zw_ w w1):=(((Zb_.alloc Zl_ _).alloc (by simp) _).alloc (by simp;omega) _).trans (hb.mono (by simp;omega));clear hb;go_wp2;refine bodyPost_ret (v:=.agg #[.slice a' r.vb.length cap',.string r.kd,.string r.tm,.string r.pf]) (by simp [results,results143,go_sem,hc]) rfl ⟨_,rfl,?_,?_⟩
 · repeat (refine Below.setCell ?_ (by simp only [];omega) _)
   exact HB.out
 · refine Zau.mono (lo:=w.heap.size+3) ?_ (by omega)
   repeat (refine Zau.setCell ?_ (by simp only [];omega) _)
   exact HS.out
theorem ZkZ (lo lo':Nat) (r:Ru) (vv vv':Value) (w:World) (hv:Zau lo w vv r.vb) (hv':Zau lo' w vv' r.vb) :
 Calls prog 150 #[.agg #[vv,.string r.kd,.string r.tm,.string r.pf],.agg #[vv',.string r.kd,.string r.tm,.string r.pf]] w
  fun e w'=>e=.returned (.bool true)∧Zw_ w w':=by
 have HV:=Zab hv;have HV':=Zab hv';obtain⟨a,cap,rfl⟩:=hv.form;obtain⟨a',cap',rfl⟩:=hv'.form;clear hv hv';go_enter func150,ntmps150;go_wp2_with fail;generalize hWa:(World.alloc (w.alloc _) _)=Wa;have HBa:Hid (Zw_ w Wa):=by rw [← hWa];exact (Zac w _).alloc (by simp) _
 have FA:Hid (Box Wa w.heap.size #[.slice a r.vb.length cap,.string r.kd,.string r.tm,.string r.pf]):=by rw [← hWa];exact (Box.new _ _ _ _ rfl).on (Zac _ _)
 have FB:Hid (Box Wa (w.heap.size+1) #[.slice a' r.vb.length cap',.string r.kd,.string r.tm,.string r.pf]):=by rw [← hWa];exact Box.new _ _ _ _ (by simp)
 clear hWa;refine (ZkB lo lo' _ _ r.vb _ (HV.out.below HBa.out) (HV'.out.below HBa.out)).mono ?_;rintro e w1 ⟨rfl,hb1⟩;have HB1:Hid (Zw_ w w1):=HBa.out.trans (hb1.mono HBa.out.size);have g:=(FA.out.on hb1).cell;have g':=(FB.out.on hb1).cell;have a1:w1.cell? ⟨w.heap.size,1,none⟩=some (.string r.kd):=g 1;have a2:w1.cell? ⟨w.heap.size,2,none⟩=some (.string r.tm):=g 2;have a3:w1.cell? ⟨w.heap.size,3,none⟩=some (.string r.pf):=g 3;have b1:w1.cell? ⟨w.heap.size+1,1,none⟩=some (.string r.kd):=g' 1;have b2:w1.cell? ⟨w.heap.size+1,2,none⟩=some (.string r.tm):=g' 2;have b3:w1.cell? ⟨w.heap.size+1,3,none⟩=some (.string r.pf):=g' 3;clear g g' hb1;go_wp2;go_ret;exact⟨rfl,HB1.out⟩
end Go.Proofs.YtfohnageehneoaaGreat
