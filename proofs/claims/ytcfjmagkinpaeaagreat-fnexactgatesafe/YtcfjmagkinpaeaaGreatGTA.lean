import Derived.Test.YtcfjmagkinpaeaaGreatGDA
set_option maxHeartbeats 16000000
set_option maxRecDepth 100000
open Go.Proofs.Tryz
namespace Go.Proofs.YtcfjmagkinpaeaaGreat
open Go.RowKit Go.Deep
theorem ZiF {a b:Zy_} (h:a=b):Ending.returned (.string a)=.returned (.string b):=by rw [h]
theorem Znj:((⟨#[]⟩:Zy_).toList.isEmpty)=true:=Zdx rfl
theorem ZiD {n k:Nat} {p:Nat→Bool} (hk:k < n) (h:(List.range n).all p=true):p k=true:=by
 rw [List.all_eq_true] at h;exact h k (List.mem_range.2 hk)
structure Tm where
 nm:Zy_
 ov:Zy_
def plT (Ts:List Tm) (s:Zy_):Nat:=Ts.findIdx fun t=>t.nm.toList == s.toList
theorem ZqS {Ts:List Tm} {s:Zy_} {k:Nat} (hk:k < Ts.length) (h:(Ts[k].nm.toList == s.toList)=true) (hall:∀ i (h:i < Ts.length),i < k→(Ts[i].nm.toList == s.toList)=false):plT Ts s=k:=by
 unfold plT;rw [List.findIdx_eq hk];exact⟨h,fun j hj=>hall j (by omega) hj⟩
theorem ZqT {Ts:List Tm} {s:Zy_} (hall:∀ i (h:i < Ts.length),(Ts[i].nm.toList == s.toList)=false):plT Ts s=Ts.length:=by
 unfold plT;rw [List.findIdx_eq_length];intro x hx;obtain⟨i,hi,rfl⟩:=List.getElem_of_mem hx;exact hall i hi
theorem ZrQ {Ts:List Tm} {s:Zy_} (h:plT Ts s < Ts.length):(Ts[plT Ts s].nm.toList == s.toList)=true:=by
 unfold plT at h ⊢;exact List.findIdx_getElem (w:=h)
def Zc9 (Ts:List Tm) (s:Zy_):Int:=if plT Ts s < Ts.length then (plT Ts s:Int) else -1
theorem Zmh {Ts:List Tm} {s:Zy_} {k:Nat} (hk:k < Ts.length) (h:(Ts[k].nm.toList == s.toList)=true) (hall:∀ i (h:i < Ts.length),i < k→(Ts[i].nm.toList == s.toList)=false):Zc9 Ts s=k:=by
 unfold Zc9;rw [ZqS hk h hall,if_pos hk]
theorem ZnU {Ts:List Tm} {s:Zy_} (hall:∀ i (h:i < Ts.length),(Ts[i].nm.toList == s.toList)=false):Zc9 Ts s= -1:=by
 unfold Zc9;rw [ZqT hall,if_neg (Nat.lt_irrefl _)]
theorem ZgQ {Ts:List Tm} {s:Zy_} (h:plT Ts s < Ts.length):Zc9 Ts s=plT Ts s:=if_pos h
theorem ZgP {Ts:List Tm} {s:Zy_} (h:¬ plT Ts s < Ts.length):Zc9 Ts s= -1:=if_neg h
def ovB (Ts:List Tm) (s:Zy_):Zy_:=match Ts[plT Ts s]? with
 | some t=>t.ov
 | none=>⟨#[]⟩
theorem ZsL {Ts:List Tm} {s:Zy_} (h:plT Ts s < Ts.length):ovB Ts s=Ts[plT Ts s].ov:=by
 unfold ovB;rw [List.getElem?_eq_getElem h]
theorem ZqQ {Ts:List Tm} {s:Zy_} (h:¬ plT Ts s < Ts.length):ovB Ts s=⟨#[]⟩:=by
 unfold ovB;rw [List.getElem?_eq_none (by omega)]
theorem ZsK {Ts:List Tm} {s:Zy_} {k:Nat} (hk:k < Ts.length) (h:(Ts[k].nm.toList == s.toList)=true) (hall:∀ i (h:i < Ts.length),i < k→(Ts[i].nm.toList == s.toList)=false):ovB Ts s=Ts[k].ov:=by
 have e:=ZqS hk h hall;unfold ovB;rw [e,List.getElem?_eq_getElem hk]
theorem ZqR {Ts:List Tm} {s:Zy_} (hall:∀ i (h:i < Ts.length),(Ts[i].nm.toList == s.toList)=false):ovB Ts s=⟨#[]⟩:=ZqQ (by rw [ZqT hall];omega)
def ZcM (Ts:List Tm) (b:Zy_):Nat→Zy_→Bool
 | 0,_=>false
 | n+1,a=>if (ovB Ts a).toList.isEmpty then false else if (ovB Ts a).toList == b.toList then true else ZcM Ts b n (ovB Ts a)
def ZaA (Ts:List Tm) (a b:Zy_):Bool:=(a.toList == b.toList) || ZcM Ts b 4 a
def ZaZ (Ts:List Tm):Nat→Zy_→Bool
 | 0,_=>true
 | n+1,a=>if (ovB Ts a).toList.isEmpty then false else ZaZ Ts n (ovB Ts a)
def ZeL (Ts:List Tm) (s:Zy_):Bool:=Ts.any fun t=>t.nm.toList == s.toList
theorem Zjd {Ts:List Tm} {s:Zy_} {k:Nat} (h:k < Ts.length) (hp:(Ts[k].nm.toList == s.toList)=true):ZeL Ts s=true:=by
 unfold ZeL;rw [List.any_eq_true];exact⟨Ts[k],List.getElem_mem h,hp⟩
theorem Znw {Ts:List Tm} {s:Zy_} (hall:∀ i (h:i < Ts.length),(Ts[i].nm.toList == s.toList)=false):ZeL Ts s=false:=by
 unfold ZeL;rw [List.any_eq_false];intro x hx;obtain⟨i,hi,rfl⟩:=List.getElem_of_mem hx;simp [hall i hi]
theorem Zgx (Ts:List Tm) (s:Zy_):ZeL Ts s=decide (plT Ts s < Ts.length):=by
 by_cases h:plT Ts s < Ts.length
 · rw [decide_eq_true h]
   exact Zjd h (ZrQ h)
 · rw [decide_eq_false h]
   refine Znw fun i hi=>?_
   have:=List.not_of_lt_findIdx (p:=fun t:Tm=>t.nm.toList == s.toList) (xs:=Ts) (i:=i) (by show i < plT Ts s;omega)
   simpa using this
def Zdd (Ts:List Tm) (i:Nat):Bool:=match Ts[i]? with
 | none=>false
 | some t=>Zaj t.nm&&(i == 0 || Op.bytesLess ((Ts[i - 1]?.map Tm.nm).getD ⟨#[]⟩).toList t.nm.toList)&&(t.ov.toList.isEmpty || ZeL Ts t.ov)&&!ZaZ Ts 5 t.nm
def Za4 (Ts:List Tm):Bool:=decide (Ts.length≤12)&&(List.range Ts.length).all (Zdd Ts)
theorem Zax {Ts:List Tm} {i:Nat} (h:i < Ts.length):Zdd Ts i=(Zaj Ts[i].nm&&(i == 0 || Op.bytesLess ((Ts[i - 1]?.map Tm.nm).getD ⟨#[]⟩).toList Ts[i].nm.toList)&&(Ts[i].ov.toList.isEmpty || ZeL Ts Ts[i].ov)&&!ZaZ Ts 5 Ts[i].nm):=by
 unfold Zdd;rw [List.getElem?_eq_getElem h]
theorem ZiW {Ts:List Tm} {j:Nat} (h:j+1 < Ts.length):((Ts[j+1 - 1]?.map Tm.nm).getD ⟨#[]⟩)=Ts[j].nm:=by
 rw [Nat.add_sub_cancel,List.getElem?_eq_getElem (by omega)];rfl
theorem ZjG {Ts:List Tm} (h:¬ Ts.length≤12):Za4 Ts=false:=by unfold Za4;simp [h]
theorem Zbo {Ts:List Tm} {k:Nat} (hk:k < Ts.length) (h:Zdd Ts k=false):Za4 Ts=false:=by
 unfold Za4;rw [ZaW hk h];simp
theorem ZjH {Ts:List Tm} {k:Nat} (h:Ts.length≤12) (hk:Ts.length≤k) (hall:∀ i,i < k→Zdd Ts i=true):Za4 Ts=true:=by
 unfold Za4;rw [Za0 (fun i hi=>hall i (by omega))];simp [h]
structure ZeT (w:World) (b o:Nat) (t:Tm):Prop where
 c0:w.cell? ⟨b,o,none⟩=some (.string t.nm)
 c1:w.cell? ⟨b,o+1,none⟩=some (.string t.ov)
structure Zgh (t:Tm):Prop where
 s0:t.nm.size≤maxLen
 s1:t.ov.size≤maxLen
theorem ZeT.below {w w':World} {b o:Nat} {t:Tm} (h:ZeT w b o t) (hb:Zw_ w w') (hlt:b < w.heap.size):ZeT w' b o t:=by
 have e:∀ o,w'.cell? ⟨b,o,none⟩=w.cell? ⟨b,o,none⟩:=fun o=>hb.cell (p:=⟨b,o,none⟩) hlt
 exact⟨by rw [e];exact h.c0,by rw [e];exact h.c1⟩
def Zbd (lo:Nat) (w:World) (v:Value) (Ts:List Tm):Prop:=
 (∃ (a:Option Addr) (cap:Nat),v=.slice a 0 cap∧Ts=[])∨
 ∃ (b off cap:Nat),v=.slice (some ⟨b,off,none⟩) Ts.length cap∧Ts≠[]∧Ts.length≤maxLen∧b < w.heap.size∧lo≤b∧Ts.length≤cap∧
  ∀ i (h:i < Ts.length),Zgh Ts[i]∧ZeT w b (off+i*2) Ts[i]
theorem Zbd.below {lo:Nat} {w w':World} {v:Value} {Ts:List Tm} (h:Zbd lo w v Ts) (hb:Zw_ w w'):Zbd lo w' v Ts:=by
 rcases h with h | ⟨b,off,cap,h1,h2,h3,h4,h5,h6,h7⟩
 · exact Or.inl h
 · refine Or.inr ⟨b,off,cap,h1,h2,h3,Zk_ h4 hb.size,h5,h6,fun i hi=>?_⟩
   obtain⟨hs,hc⟩:=h7 i hi;exact⟨hs,hc.below hb h4⟩
theorem Zbd.mono {lo lo':Nat} {w:World} {v:Value} {Ts:List Tm} (h:Zbd lo w v Ts) (hl:lo'≤lo):Zbd lo' w v Ts:=by
 rcases h with h | ⟨b,off,cap,h1,h2,h3,h4,h5,h6,h7⟩
 · exact Or.inl h
 · exact Or.inr ⟨b,off,cap,h1,h2,h3,h4,Nat.le_trans hl h5,h6,h7⟩
theorem Zbd.form {lo:Nat} {w:World} {v:Value} {Ts:List Tm} (h:Zbd lo w v Ts):∃ a cap,v=.slice a Ts.length cap:=by
 rcases h with ⟨a,cap,h,rfl⟩ | ⟨b,off,cap,h,_⟩
 · exact⟨a,cap,h⟩
 · exact⟨_,cap,h⟩
theorem Zbd.max {lo:Nat} {w:World} {v:Value} {Ts:List Tm} (h:Zbd lo w v Ts):Ts.length≤maxLen:=by
 rcases h with ⟨a,cap,h,rfl⟩ | ⟨b,off,cap,h,_,h3,_⟩
 · exact Nat.zero_le _
 · exact h3
theorem Zbd.full {lo:Nat} {w:World} {v:Value} {Ts:List Tm} (h:Zbd lo w v Ts) (hne:Ts≠[]):∃ (b off cap:Nat),v=.slice (some ⟨b,off,none⟩) Ts.length cap∧Ts.length≤maxLen∧b < w.heap.size∧Ts.length≤cap∧
 ∀ i (h:i < Ts.length),Zgh Ts[i]∧ZeT w b (off+i*2) Ts[i]:=by
 rcases h with ⟨_,_,_,h⟩ | ⟨b,off,cap,h1,_,h3,h4,_,h6,h7⟩
 · exact absurd h hne
 · exact⟨b,off,cap,h1,h3,h4,h6,h7⟩
theorem Zbd.full' {lo:Nat} {w:World} {a:Option Addr} {n cap:Nat} {Ts:List Tm} (h:Zbd lo w (.slice a n cap) Ts) (hL:0 < Ts.length) :
 ∃ b off,a=some ⟨b,off,none⟩∧b < w.heap.size∧∀ i (h:i < Ts.length),Zgh Ts[i]∧ZeT w b (off+i*2) Ts[i]:=by
 rcases h with ⟨a',cap',h,rfl⟩ | ⟨b',off',cap',h1,h2,h3,h4,h5,h6,h7⟩
 · simp at hL
 · injection h1 with e1 e2 e3
   exact⟨b',off',e1,h4,h7⟩
theorem Zbd.setCell {lo:Nat} {w:World} {v:Value} {Ts:List Tm} (h:Zbd lo w v Ts) {p:Addr} (hp:p.block < lo) (u:Value):Zbd lo (w.setCell p u) v Ts:=by
 rcases h with h | ⟨b,off,cap,h1,h2,h3,h4,h5,h6,h7⟩
 · exact Or.inl h
 · refine Or.inr ⟨b,off,cap,h1,h2,h3,by simpa [World.setCell] using h4,h5,h6,fun i hi=>?_⟩
   obtain⟨hs,hc⟩:=h7 i hi;have e:∀ o,(w.setCell p u).cell? ⟨b,o,none⟩=w.cell? ⟨b,o,none⟩:=fun o=>Zar _ _ _ _ (by show b≠p.block;omega)
   exact⟨hs,by rw [e];exact hc.c0,by rw [e];exact hc.c1⟩
theorem ZmE (k f:Zy_) (left:Int) (w:World) (h0:0≤left) (h1:left≤1048576)
 (s0:k.size≤maxLen) (s1:f.size≤maxLen) :
 Calls prog 51 #[.agg #[.string k,.string f],.int .i64 left] w
  fun e w'=>∃ r:Int,e=.returned (.int .i64 r)∧Zw_ w w'∧-1≤r∧r≤left:=by
 unfold maxLen at s0 s1;have HW:∀ o,Hid (Zw_ w (w.alloc o)):=fun o=>Zb_.alloc Zl_ _
 go_enter func51,ntmps51;go_wp2
 all_goals go_ret
 all_goals exact⟨_,rfl,(HW _).out,by omega,by omega⟩
theorem Zow (lo:Nat) (v:Value) (Ts:List Tm) (left:Int) (w:World) (h0:0≤left) (h1:left≤1048576) (hv:Zbd lo w v Ts) :
 Calls prog 20 #[v,.int .i64 left] w fun e w'=>∃ r:Int,e=.returned (.int .i64 r)∧Zw_ w w'∧Zsd Ts.length left r:=by
 rcases hv with ⟨a,cap,rfl,rfl⟩ | ⟨b,off,cap,rfl,hne,hm,hbw,_,_,hc⟩
 · go_enter func20,ntmps20
   go_wp2
   go_loop [1,5] (fun l i=>∃ r:Int,l=.int .i64 r∧0≤r∧r≤left∧i=.int .i64 0) (fun _ _=>0)
   case atStart=>exact⟨_,rfl,by omega,by omega,rfl⟩
   case round=>
    obtain⟨r,rfl,hr0,hr1,rfl⟩:=hrel;go_wp2;go_ret;exact⟨r,rfl,Below.refl _ _,by omega,by omega,fun _=>by simp;omega⟩
 · unfold maxLen at hm
   by_cases hle:(Ts.length:Int)≤left
   · go_enter func20,ntmps20
     go_wp2
     go_loopw [1,5] (fun l i wr=>∃ (r:Int) (k:Nat),l=.int .i64 r∧0≤r∧r≤left∧i=.int .i64 k∧k≤Ts.length∧Zw_ w wr) (fun _ i _=>Ts.length - (intOf i).toNat)
     case atStart=>exact⟨_,0,rfl,by omega,by omega,rfl,by omega,Below.refl _ _⟩
     case round=>
      obtain⟨r,k,rfl,hr0,hr1,rfl,hk,hb⟩:=hrel
      by_cases hlt:k < Ts.length
      · obtain⟨hsz,hcell⟩:=hc k hlt
        obtain⟨c0,c1⟩:=hcell.below hb hbw;go_wp2_with fail;refine (ZmE _ _ _ _ hr0 (by omega) hsz.s0 hsz.s1).mono ?_;rintro e w1 ⟨r1,rfl,hb1,q0,q1⟩;have hB:Hid (Zw_ w w1):=hb.trans (hb1.mono hb.size);clear hb1 c0 c1 hb;go_wp2
        all_goals first
         | (go_roundw
            case rel=>exact⟨_,k+1,rfl,by omega,by omega,by go_num,by omega,hB.out⟩
            case measure=>simp [intOf];omega)
         | (go_ret
            exact⟨-1,rfl,hB.out,by omega,by omega,fun h=>by omega⟩)
      · go_wp2
        go_ret;exact⟨r,rfl,hb,by omega,by omega,fun _=>hle⟩
   · go_enter func20,ntmps20
     go_wp2;go_ret;exact⟨-1,rfl,Below.refl _ _,by omega,by omega,fun h=>by omega⟩
theorem ZmK (k f:Zy_) (w:World) :
 Calls prog 62 #[.agg #[.string k,.string f]] w
  fun e w'=>e=.returned (.agg #[.string k,.string f])∧Zw_ w w':=by
 go_enter func62,ntmps62;go_wp2;refine bodyPost_ret (v:=.agg #[.string k,.string f]) (by simp [results,results62,go_sem]) rfl ⟨rfl,?_⟩
 repeat (refine Below.setCell ?_ (by simp only [];omega) _)
 exact ((Zb_.alloc Zl_ _).alloc (by simp) _).alloc (by simp;omega) _
theorem Zj9 (k f:Zy_) (w:World) :
 Calls prog 71 #[.agg #[.string k,.string f],.agg #[.string k,.string f]] w
  fun e w'=>e=.returned (.bool true)∧Zw_ w w':=by
 go_enter func71,ntmps71;go_wp2;go_ret;exact⟨rfl,(Zb_.alloc Zl_ _).alloc (by simp) _⟩
theorem ZlV (lo lo':Nat) (v v':Value) (Ts:List Tm) (w:World) (hv:Zbd lo w v Ts) (hv':Zbd lo' w v' Ts) :
 Calls prog 32 #[v,v'] w fun e w'=>e=.returned (.bool true)∧Zw_ w w':=by
 by_cases hL:Ts=[]
 · subst hL
   obtain⟨a,cap,rfl⟩:=hv.form;obtain⟨a',cap',rfl⟩:=hv'.form;clear hv hv';go_enter func32,ntmps32;go_wp2
   go_loop [5] (fun i=>i=.int .i64 0) (fun _=>0)
   case atStart=>rfl
   case round=>
    subst hrel;go_wp2;go_ret;exact⟨rfl,Below.refl _ _⟩
 · obtain⟨b,off,cap,rfl,hm,hbw,_,hc⟩:=hv.full hL
   obtain⟨b',off',cap',rfl,_,hbw',_,hc'⟩:=hv'.full hL;clear hv hv';unfold maxLen at hm;go_enter func32,ntmps32;go_wp2
   go_loopw [5] (fun i wr=>∃ k:Nat,i=.int .i64 k∧k≤Ts.length∧Zw_ w wr) (fun i _=>Ts.length - (intOf i).toNat)
   case atStart=>exact⟨0,rfl,by omega,Below.refl _ _⟩
   case round=>
    obtain⟨k,rfl,hk,hb⟩:=hrel
    by_cases hlt:k < Ts.length
    · obtain⟨_,hcell⟩:=hc k hlt
      obtain⟨_,hcell'⟩:=hc' k hlt;obtain⟨c0,c1⟩:=hcell.below hb hbw;obtain⟨d0,d1⟩:=hcell'.below hb hbw';clear hcell hcell';have HB:=Zab hb;clear hb;go_wp2
      go_region_with (go_at_call 71;refine (Zj9 _ _ _).mono ?_;rintro e w1 ⟨rfl,hb1⟩;have hB:Hid (Zw_ w w1):=(HB.out.drew).trans (hb1.mono HB.out.size);clear hb1)
      all_goals go_wp2
      all_goals go_roundw
      all_goals first
       | (case rel=>exact⟨k+1,by go_num,by omega,hB.out⟩)
       | (case measure=>simp [intOf];omega)
    · go_wp2
      go_ret;exact⟨rfl,hb⟩
theorem Tryz.info132:(prog.info? 132).map (fun i=>(i.zero,i.size,i.bytes))=some (some (.agg #[.string ⟨#[]⟩,.string ⟨#[]⟩]),2,32):=by kernel_rfl
def ZbY (wr:World) (B:Nat) (Ts:List Tm) (k:Nat):Prop:=
 ∃ f,wr.rowIs B 132 (Ts.length*2) f∧∀ i (h:i < Ts.length),i < k→Zgh Ts[i]∧f (i*2)=.string Ts[i].nm∧f (i*2+1)=.string Ts[i].ov
theorem ZbY.below {wr w1:World} {B:Nat} {Ts:List Tm} {k:Nat} (h:ZbY wr B Ts k) (hb:Below wr.heap.size wr w1):ZbY w1 B Ts k:=by
 obtain⟨f,hr,hall⟩:=h;exact⟨f,hr.of_block (hb.block B hr.lt),hall⟩
theorem ZbY.free {wr:World} {B:Nat} {Ts:List Tm} {k:Nat} (h:ZbY wr B Ts k) (i:Nat):wr.frozen? ⟨B,i,none⟩=false:=by
 obtain⟨f,hr,_⟩:=h;exact hr.frozen i
theorem ZbY.there {wr:World} {B:Nat} {Ts:List Tm} {k:Nat} (h:ZbY wr B Ts k) (i:Nat) (hi:i < Ts.length*2):∃ v,wr.cell? ⟨B,i,none⟩=some v:=by
 obtain⟨f,hr,_⟩:=h;exact⟨_,hr.cell hi⟩
theorem ZbY.step {w1:World} {B:Nat} {Ts:List Tm} {k:Nat} (h:ZbY w1 B Ts k) (hk:k < Ts.length) (hz:Zgh Ts[k]) :
 ZbY ((w1.setCell ⟨B,k*2,none⟩ (.string Ts[k].nm)).setCell ⟨B,k*2+1,none⟩ (.string Ts[k].ov)) B Ts (k+1):=by
 obtain⟨f,hr,hall⟩:=h;refine⟨_,((hr.set _ _).set _ _),fun i hi hik=>?_⟩
 by_cases e:i=k
 · subst e
   exact⟨hz,by simp,by simp⟩
 · obtain⟨hz',h0,h1⟩:=hall i hi (by omega)
   refine⟨hz',?_,?_⟩
   · rw [if_neg (by omega),if_neg (by omega)];exact h0
   · rw [if_neg (by omega),if_neg (by omega)];exact h1
theorem ZbY.done {wr:World} {B:Nat} {Ts:List Tm} {k:Nat} (h:ZbY wr B Ts k) (hk:Ts.length≤k) (hne:Ts≠[]) (hm:Ts.length≤maxLen):Zbd B wr (.slice (some ⟨B,0,none⟩) Ts.length Ts.length) Ts:=by
 obtain⟨f,hr,hall⟩:=h;refine Or.inr ⟨B,0,Ts.length,rfl,hne,hm,hr.lt,Nat.le_refl _,Nat.le_refl _,fun i hi=>?_⟩;obtain⟨hz,h0,h1⟩:=hall i hi (by omega);rw [Nat.zero_add];exact⟨hz,by rw [hr.cell (by omega),h0],by rw [hr.cell (by omega),h1]⟩
theorem ZbY.new (w:World) (Ts:List Tm) (z:Array Value):ZbY (w.alloc (.cells (madeCells z (Ts.length*2)) 132)) w.heap.size Ts 0:=by
 refine⟨fun i=>(madeCells z (Ts.length*2)).getD i default,?_,fun i _ h=>by omega⟩;have:=World.rowIs_alloc w (madeCells z (Ts.length*2)) 132 (fun i=>(madeCells z (Ts.length*2)).getD i default) (fun i hi=>by simp [Array.getD,hi])
 rwa [size_madeCells] at this
theorem ZoO (lo:Nat) (v:Value) (Ts:List Tm) (w:World) (hv:Zbd lo w v Ts) (hn:Ts.length≤1048576) :
 Calls prog 26 #[v] w fun e w'=>∃ v',e=.returned v'∧Zw_ w w'∧Zbd w.heap.size w' v' Ts:=by
 obtain⟨i0,hi,hz0,hz1,hz2⟩:=info_parts Tryz.info132
 by_cases hL:Ts=[]
 · subst hL
   obtain⟨a,cap,rfl⟩:=hv.form;clear hv
   have hmk:∀ u:World,(Instr.makeSlice 41 (.int .i64 0) (.int .i64 0)).run prog u=.ok (.slice (some ⟨u.heap.size,0,none⟩) 0 0) (u.alloc (.cells (madeCells (Value.cells (.agg #[.string ⟨#[]⟩,.string ⟨#[]⟩])) 0) 132)):=fun u=>by
    have h:=run_make (P:=prog) u 41 132 i0 _ underlying41 hi hz0 .i64 .i64 0 0 (by omega) (by omega) (by omega) (by omega)
    simpa [hz1] using h
   go_enter func26,ntmps26;go_wp2
   go_loop [4] (fun i=>i=.int .i64 0) (fun _=>0)
   case atStart=>rfl
   case round=>
    subst hrel;go_wp2;go_ret;exact⟨_,rfl,Zb_.alloc Zl_ _,Or.inl ⟨_,_,rfl,rfl⟩⟩
 · obtain⟨b,off,cap,rfl,hm,hbw,_,hc⟩:=hv.full hL
   clear hv;have HM:Hid (Ts.length≤maxLen):=hm;unfold maxLen at hm
   have hmk:∀ u:World,(Instr.makeSlice 41 (.int .i64 (Ts.length:Int)) (.int .i64 (Ts.length:Int))).run prog u=.ok (.slice (some ⟨u.heap.size,0,none⟩) Ts.length Ts.length) (u.alloc (.cells (madeCells (Value.cells (.agg #[.string ⟨#[]⟩,.string ⟨#[]⟩])) (Ts.length*2)) 132)):=fun u=>by
    have h:=run_make (P:=prog) u 41 132 i0 _ underlying41 hi hz0 .i64 .i64 Ts.length Ts.length (by omega) (by omega) (by rw [hz2];omega) (by omega);rw [hz1] at h
    simpa using h
   clear hi hz0 hz1 hz2;go_enter func26,ntmps26;go_wp2;clear hmk
   go_loopw [4] (fun i wr=>∃ k:Nat,i=.int .i64 k∧k≤Ts.length∧Zw_ w wr∧ZbY wr w.heap.size Ts k) (fun i _=>Ts.length - (intOf i).toNat)
   case atStart=>exact⟨0,rfl,by omega,Zb_.alloc Zl_ _,ZbY.new w Ts _⟩
   case round=>
    obtain⟨k,rfl,hk,hb,hf⟩:=hrel
    by_cases hlt:k < Ts.length
    · obtain⟨hsz,hcell⟩:=hc k hlt
      obtain⟨c0,c1⟩:=hcell.below hb hbw;clear hcell;go_wp2_with fail;refine (ZmK _ _ _).mono ?_;rintro e w1 ⟨rfl,hb1⟩;have hf1:=hf.below hb1;have HST:=Zab (hf1.step hlt hsz);have hB:Hid (Zw_ w w1):=hb.trans (hb1.mono hb.size);have hfr:=hf1.free;obtain⟨o0,ho0⟩:=hf1.there (k*2) (by omega);obtain⟨o1,ho1⟩:=hf1.there (k*2+1) (by omega);clear hf hf1 hb1 hb c0 c1;go_wp2;go_roundw
      case rel=>
       exact⟨k+1,by go_num,by omega,(hB.out.setCell Zl_ _).setCell Zl_ _,HST.out⟩
      case measure=>simp [intOf];omega
    · go_wp2
      go_ret;exact⟨_,rfl,hb,hf.done (by omega) hL HM.out⟩
structure Ru where
 vb:List Int
 kd:Zy_
 tm:Zy_
 pf:Zy_
def Zap (lo:Nat) (w:World) (v:Value) (L:List Int):Prop:=
 (∃ (a:Option Addr) (cap:Nat),v=.slice a 0 cap∧L=[])∨
 ∃ (b off cap:Nat),v=.slice (some ⟨b,off,none⟩) L.length cap∧L≠[]∧L.length≤maxLen∧b < w.heap.size∧lo≤b∧
  ∀ i (h:i < L.length),w.cell? ⟨b,off+i,none⟩=some (.int .i64 L[i])
theorem Zap.below {lo:Nat} {w w':World} {v:Value} {L:List Int} (h:Zap lo w v L) (hb:Zw_ w w'):Zap lo w' v L:=by
 rcases h with h | ⟨b,off,cap,h1,h2,h3,h4,h5,h6⟩
 · exact Or.inl h
 · exact Or.inr ⟨b,off,cap,h1,h2,h3,Zk_ h4 hb.size,h5,fun i hi=>by rw [hb.cell (p:=⟨b,_,none⟩) h4];exact h6 i hi⟩
theorem Zap.mono {lo lo':Nat} {w:World} {v:Value} {L:List Int} (h:Zap lo w v L) (hl:lo'≤lo):Zap lo' w v L:=by
 rcases h with h | ⟨b,off,cap,h1,h2,h3,h4,h5,h6⟩
 · exact Or.inl h
 · exact Or.inr ⟨b,off,cap,h1,h2,h3,h4,Nat.le_trans hl h5,h6⟩
theorem Zap.form {lo:Nat} {w:World} {v:Value} {L:List Int} (h:Zap lo w v L):∃ a cap,v=.slice a L.length cap:=by
 rcases h with ⟨a,cap,h,rfl⟩ | ⟨b,off,cap,h,_⟩
 · exact⟨a,cap,h⟩
 · exact⟨_,cap,h⟩
theorem Zap.max {lo:Nat} {w:World} {v:Value} {L:List Int} (h:Zap lo w v L):L.length≤maxLen:=by
 rcases h with ⟨a,cap,h,rfl⟩ | ⟨b,off,cap,h,_,h3,_⟩
 · exact Nat.zero_le _
 · exact h3
theorem Zap.full {lo:Nat} {w:World} {v:Value} {L:List Int} (h:Zap lo w v L) (hne:L≠[]):∃ (b off cap:Nat),v=.slice (some ⟨b,off,none⟩) L.length cap∧L.length≤maxLen∧b < w.heap.size∧
 ∀ i (h:i < L.length),w.cell? ⟨b,off+i,none⟩=some (.int .i64 L[i]):=by
 rcases h with ⟨_,_,_,h⟩ | ⟨b,off,cap,h1,_,h3,h4,_,h6⟩
 · exact absurd h hne
 · exact⟨b,off,cap,h1,h3,h4,h6⟩
theorem Zap.full' {lo:Nat} {w:World} {a:Option Addr} {n cap:Nat} {L:List Int} (h:Zap lo w (.slice a n cap) L) (hL:0 < L.length) :
 ∃ b off,a=some ⟨b,off,none⟩∧b < w.heap.size∧∀ i (h:i < L.length),w.cell? ⟨b,off+i,none⟩=some (.int .i64 L[i]):=by
 rcases h with ⟨a',cap',h,rfl⟩ | ⟨b',off',cap',h1,h2,h3,h4,h5,h6⟩
 · simp at hL
 · injection h1 with e1 e2 e3
   exact⟨b',off',e1,h4,h6⟩
theorem Zap.setCell {lo:Nat} {w:World} {v:Value} {L:List Int} (h:Zap lo w v L) {p:Addr} (hp:p.block < lo) (u:Value):Zap lo (w.setCell p u) v L:=by
 rcases h with h | ⟨b,off,cap,h1,h2,h3,h4,h5,h6⟩
 · exact Or.inl h
 · refine Or.inr ⟨b,off,cap,h1,h2,h3,by simpa [World.setCell] using h4,h5,fun i hi=>?_⟩
   rw [Zar _ _ _ _ (by show b≠p.block;omega)];exact h6 i hi
theorem ZmB (lo:Nat) (v:Value) (L:List Int) (left:Int) (w:World) (h0:0≤left) (h1:left≤1048576) (hv:Zap lo w v L) :
 Calls prog 181 #[v,.int .i64 left] w fun e w'=>∃ r:Int,e=.returned (.int .i64 r)∧w'=w∧Zsd L.length left r:=by
 have hm:=hv.max;unfold maxLen at hm;obtain⟨a,cap,rfl⟩:=hv.form
 by_cases hle:(L.length:Int)≤left
 · go_enter func181,ntmps181
   go_wp2;go_ret;exact⟨_,rfl,rfl,by omega,by omega,fun _=>hle⟩
 · go_enter func181,ntmps181
   go_wp2;go_ret;exact⟨-1,rfl,rfl,by omega,by omega,fun h=>by omega⟩
theorem Zj6 (lo lo':Nat) (v v':Value) (L:List Int) (w:World) (hv:Zap lo w v L) (hv':Zap lo' w v' L) :
 Calls prog 195 #[v,v'] w fun e w'=>e=.returned (.bool true)∧Zw_ w w':=by
 by_cases hL:L=[]
 · subst hL
   obtain⟨a,cap,rfl⟩:=hv.form;obtain⟨a',cap',rfl⟩:=hv'.form;clear hv hv';go_enter func195,ntmps195;go_wp2
   go_loop [5] (fun i=>i=.int .i64 0) (fun _=>0)
   case atStart=>rfl
   case round=>
    subst hrel;go_wp2;go_ret;exact⟨rfl,Below.refl _ _⟩
 · obtain⟨b,off,cap,rfl,hm,hbw,hc⟩:=hv.full hL
   obtain⟨b',off',cap',rfl,_,hbw',hc'⟩:=hv'.full hL;clear hv hv';unfold maxLen at hm;go_enter func195,ntmps195;go_wp2
   go_loopw [5] (fun i wr=>∃ k:Nat,i=.int .i64 k∧k≤L.length∧Zw_ w wr) (fun i _=>L.length - (intOf i).toNat)
   case atStart=>exact⟨0,rfl,by omega,Below.refl _ _⟩
   case round=>
    obtain⟨k,rfl,hk,hb⟩:=hrel
    by_cases hlt:k < L.length
    · have c0:wr.cell? ⟨b,off+k,none⟩=some (.int .i64 L[k]):=by rw [hb.cell (p:=⟨b,_,none⟩) hbw];exact hc k hlt
      have d0:wr.cell? ⟨b',off'+k,none⟩=some (.int .i64 L[k]):=by rw [hb.cell (p:=⟨b',_,none⟩) hbw'];exact hc' k hlt
      have HB:=Zab hb;clear hb;go_wp2
      try go_quiet (fail)
      try go_wp2
      go_roundw
      case rel=>exact⟨k+1,by go_num,by omega,by first | exact HB.out | exact below_drewN HB.out _⟩
      case measure=>simp [intOf];omega
    · go_wp2
      go_ret;exact⟨rfl,hb⟩
theorem Tryz.info3:(prog.info? 3).map (fun i=>(i.zero,i.size,i.bytes))=some (some (.int .i64 0),1,8):=by kernel_rfl
def Zra (L:List Int) (k i:Nat):Value:=if i < k then .int .i64 (L.getD i 0) else .int .i64 0
def ZeQ (wr:World) (B:Nat) (L:List Int) (k:Nat):Prop:=wr.rowIs B 3 L.length (Zra L k)
theorem ZeQ.step {wr:World} {B:Nat} {L:List Int} {k:Nat} (h:ZeQ wr B L k) (hk:k < L.length):ZeQ (wr.setCell ⟨B,k,none⟩ (.int .i64 L[k])) B L (k+1):=by
 unfold ZeQ at*;refine (h.set k (.int .i64 L[k])).congr fun i hi=>?_
 unfold Zra
 by_cases e:i=k
 · subst e;simp [hk]
 · by_cases e2:i < k
   · simp [e,e2,Nat.lt_succ_of_lt e2]
   · have:¬ i < k+1:=by omega
     simp [e,e2,this]
theorem ZeQ.done {wr:World} {B:Nat} {L:List Int} {k:Nat} (h:ZeQ wr B L k) (hk:L.length≤k) (hne:L≠[]) (hm:L.length≤maxLen):Zap B wr (.slice (some ⟨B,0,none⟩) L.length L.length) L:=by
 refine Or.inr ⟨B,0,L.length,rfl,hne,hm,World.rowIs.lt h,Nat.le_refl _,fun i hi=>?_⟩;rw [Nat.zero_add,World.rowIs.cell h hi];unfold Zra;rw [if_pos (by omega),List.getD_eq_getElem?_getD,List.getElem?_eq_getElem hi];rfl
theorem ZmG (lo:Nat) (v:Value) (L:List Int) (w:World) (hv:Zap lo w v L) (hn:L.length≤1048576) :
 Calls prog 182 #[v] w fun e w'=>∃ v',e=.returned v'∧Zw_ w w'∧Zap w.heap.size w' v' L:=by
 by_cases hL:L=[]
 · subst hL
   obtain⟨a,cap,rfl⟩:=hv.form;clear hv
   have hmk:∀ u:World,(Instr.makeSlice 86 (.int .i64 0) (.int .i64 0)).run prog u=.ok (.slice (some ⟨u.heap.size,0,none⟩) 0 0) (u.alloc (.cells (madeCells #[.int .i64 0] 0) 3)):=
    fun u=>run_make_row' 86 3 (.int .i64 0) 8 underlying86 Tryz.info3 rfl .i64 .i64 0 (by omega) (by omega) u
   go_enter func182,ntmps182;go_wp2
   go_loop [4] (fun i=>i=.int .i64 0) (fun _=>0)
   case atStart=>rfl
   case round=>
    subst hrel;go_wp2;go_ret;exact⟨_,rfl,Zb_.alloc Zl_ _,Or.inl ⟨_,_,rfl,rfl⟩⟩
 · obtain⟨b,off,cap,rfl,hm,hbw,hc⟩:=hv.full hL
   clear hv;have HM:Hid (L.length≤maxLen):=hm;unfold maxLen at hm
   have hmk:∀ u:World,(Instr.makeSlice 86 (.int .i64 (L.length:Int)) (.int .i64 (L.length:Int))).run prog u=.ok (.slice (some ⟨u.heap.size,0,none⟩) L.length L.length) (u.alloc (.cells (madeCells #[.int .i64 0] L.length) 3)):=
    fun u=>run_make_row' 86 3 (.int .i64 0) 8 underlying86 Tryz.info3 rfl .i64 .i64 L.length (by omega) (by omega) u
   go_enter func182,ntmps182;go_wp2;clear hmk
   go_loopw [4] (fun i wr=>∃ k:Nat,i=.int .i64 k∧k≤L.length∧Zw_ w wr∧ZeQ wr w.heap.size L k) (fun i _=>L.length - (intOf i).toNat)
   case atStart=>exact⟨0,rfl,by omega,Zb_.alloc Zl_ _,World.rowIs_made w (.int .i64 0) L.length 3⟩
   case round=>
    obtain⟨k,rfl,hk,hb,hf⟩:=hrel
    by_cases hlt:k < L.length
    · have hck:wr.cell? ⟨b,off+k,none⟩=some (.int .i64 L[k]):=by rw [hb.cell (p:=⟨b,off+k,none⟩) hbw];exact hc k hlt
      have hold:wr.cell? ⟨w.heap.size,k,none⟩=some _:=World.rowIs.cell hf hlt;have hfz:wr.frozen? ⟨w.heap.size,k,none⟩=false:=World.rowIs.frozen hf k;go_wp2;go_roundw
      case rel=>exact⟨k+1,by go_num,by omega,hb.setCell Zl_ _,hf.step hlt⟩
      case measure=>simp [intOf];omega
    · go_wp2
      go_ret;exact⟨_,rfl,hb,hf.done (by omega) hL HM.out⟩
structure Zdk (r:Ru):Prop where
 s1:r.kd.size≤maxLen
 s2:r.tm.size≤maxLen
 s3:r.pf.size≤maxLen
theorem ZhR (lo:Nat) (r:Ru) (vv:Value) (left:Int) (w:World) (h0:0≤left) (h1:left≤1048576) (hv:Zap lo w vv r.vb) (hz:Zdk r) :
 Calls prog 126 #[.agg #[vv,.string r.kd,.string r.tm,.string r.pf],.int .i64 left] w
  fun e w'=>∃ q:Int,e=.returned (.int .i64 q)∧Zw_ w w'∧Zsd r.vb.length left q:=by
 obtain⟨s1,s2,s3⟩:=hz;unfold maxLen at s1 s2 s3;have HV:=Zab hv;obtain⟨a,cap,rfl⟩:=hv.form;clear hv;have HW:∀ o,Hid (Zw_ w (w.alloc o)):=fun o=>Zac _ _
 go_enter func126,ntmps126;go_wp2_with fail;refine (ZmB lo _ r.vb _ _ (by omega) (by omega) (HV.out.below (HW _).out)).mono ?_;rintro e w1 ⟨q,rfl,rfl,hr0,hr1,hr2⟩;have HR:=Zab hr2;clear hr2;go_wp2
 all_goals go_ret
 all_goals refine⟨_,rfl,(HW _).out,by omega,by omega,fun _=>?_⟩
 all_goals have:=HR.out (by omega)
 all_goals omega
theorem ZhT (lo:Nat) (r:Ru) (vv:Value) (w:World) (hv:Zap lo w vv r.vb) (hn:r.vb.length≤1048576) :
 Calls prog 129 #[.agg #[vv,.string r.kd,.string r.tm,.string r.pf]] w
  fun e w'=>∃ v',e=.returned (.agg #[v',.string r.kd,.string r.tm,.string r.pf])∧Zw_ w w'∧Zap w.heap.size w' v' r.vb:=by
 have HV:=Zab hv;obtain⟨a,cap,rfl⟩:=hv.form;clear hv;go_enter func129,ntmps129;go_wp2_with fail;refine (ZmG lo _ r.vb _ (HV.out.below ?_) hn).mono ?_
 · exact ((Zb_.alloc Zl_ _).alloc (by simp) _).alloc (by simp;omega) _
 rintro e w1 ⟨v',rfl,hb,hs⟩;obtain⟨a',cap',rfl⟩:=hs.form;have HS:Hid (Zap (w.heap.size+3) w1 (.slice a' r.vb.length cap') r.vb):=hs.mono (by simp);clear hs;have hz:w.heap.size+2 < w1.heap.size:=by have:=hb.size;simp at this;omega
 have hc:∀ b o,b < w.heap.size+3→w1.cell? ⟨b,o,none⟩=_:=fun b o h=>hb.cell (p:=⟨b,o,none⟩) (by simpa using h)
 have hf:∀ b o,b < w.heap.size+3→w1.frozen? ⟨b,o,none⟩=_:=fun b o h=>hb.frozen (p:=⟨b,o,none⟩) (by simpa using h)
 have HB:Hid (Zw_ w w1):=(((Zb_.alloc Zl_ _).alloc (by simp) _).alloc (by simp;omega) _).trans (hb.mono (by simp;omega));clear hb;go_wp2;refine bodyPost_ret (v:=.agg #[.slice a' r.vb.length cap',.string r.kd,.string r.tm,.string r.pf]) (by simp [results,results129,go_sem,hc]) rfl ⟨_,rfl,?_,?_⟩
 · repeat (refine Below.setCell ?_ (by simp only [];omega) _)
   exact HB.out
 · refine Zap.mono (lo:=w.heap.size+3) ?_ (by omega)
   repeat (refine Zap.setCell ?_ (by simp only [];omega) _)
   exact HS.out
theorem Zgt (lo lo':Nat) (r:Ru) (vv vv':Value) (w:World) (hv:Zap lo w vv r.vb) (hv':Zap lo' w vv' r.vb) :
 Calls prog 152 #[.agg #[vv,.string r.kd,.string r.tm,.string r.pf],.agg #[vv',.string r.kd,.string r.tm,.string r.pf]] w
  fun e w'=>e=.returned (.bool true)∧Zw_ w w':=by
 have HV:=Zab hv;have HV':=Zab hv';obtain⟨a,cap,rfl⟩:=hv.form;obtain⟨a',cap',rfl⟩:=hv'.form;clear hv hv';go_enter func152,ntmps152;go_wp2_with fail;generalize hWa:(World.alloc (w.alloc _) _)=Wa;have HBa:Hid (Zw_ w Wa):=by rw [← hWa];exact (Zac w _).alloc (by simp) _
 have FA:Hid (Box Wa w.heap.size #[.slice a r.vb.length cap,.string r.kd,.string r.tm,.string r.pf]):=by rw [← hWa];exact (Box.new _ _ _ _ rfl).on (Zac _ _)
 have FB:Hid (Box Wa (w.heap.size+1) #[.slice a' r.vb.length cap',.string r.kd,.string r.tm,.string r.pf]):=by rw [← hWa];exact Box.new _ _ _ _ (by simp)
 clear hWa;refine (Zj6 lo lo' _ _ r.vb _ (HV.out.below HBa.out) (HV'.out.below HBa.out)).mono ?_;rintro e w1 ⟨rfl,hb1⟩;have HB1:Hid (Zw_ w w1):=HBa.out.trans (hb1.mono HBa.out.size);have g:=(FA.out.on hb1).cell;have g':=(FB.out.on hb1).cell;have a1:w1.cell? ⟨w.heap.size,1,none⟩=some (.string r.kd):=g 1;have a2:w1.cell? ⟨w.heap.size,2,none⟩=some (.string r.tm):=g 2;have a3:w1.cell? ⟨w.heap.size,3,none⟩=some (.string r.pf):=g 3;have b1:w1.cell? ⟨w.heap.size+1,1,none⟩=some (.string r.kd):=g' 1;have b2:w1.cell? ⟨w.heap.size+1,2,none⟩=some (.string r.tm):=g' 2;have b3:w1.cell? ⟨w.heap.size+1,3,none⟩=some (.string r.pf):=g' 3;clear g g' hb1;go_wp2;go_ret;exact⟨rfl,HB1.out⟩
end Go.Proofs.YtcfjmagkinpaeaaGreat
