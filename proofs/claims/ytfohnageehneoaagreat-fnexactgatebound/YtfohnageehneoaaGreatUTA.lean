import Derived.Test.YtfohnageehneoaaGreatUNN
set_option maxHeartbeats 16000000
set_option maxRecDepth 100000
open Go.Proofs.Tryz
namespace Go.Proofs.YtfohnageehneoaaGreat
open Go.RowKit Go.Deep
variable {a:Option Addr} {n k j lo lo' cap B fuel:Nat} {w' wr w1:World} {v:Value} {L:List Int}
theorem ZiX {a b:Zy_} (h:a=b):Ending.returned (.string a)=.returned (.string b):=by rw [h]
theorem Zqn {p:Nat->Bool} (hk:k < n) (h:(List.range n).all p=true):p k=true:=by
 rw [List.all_eq_true] at h;exact h k (List.mem_range.2 hk)
structure Tm where
 nm:Zy_
 ov:Zy_
variable {Ts:List Tm}
def plT (Ts:List Tm) (s:Zy_):Nat:=Ts.findIdx fun t=>t.nm.toList == s.toList
theorem Zq8 {s:Zy_} (hk:k < Ts.length) (h:(Ts[k].nm.toList == s.toList)=true) (hall:∀ i (h:i < Ts.length),i < k->(Ts[i].nm.toList == s.toList)=false):plT Ts s=k:=by
 unfold plT;rw [List.findIdx_eq hk];exact⟨h,fun j hj=>hall j (by omega) hj⟩
theorem Zq6 {s:Zy_} (hall:∀ i (h:i < Ts.length),(Ts[i].nm.toList == s.toList)=false):plT Ts s=Ts.length:=by
 unfold plT;rw [List.findIdx_eq_length];intro x hx;obtain⟨i,hi,rfl⟩:=List.getElem_of_mem hx;exact hall i hi
theorem ZrT {s:Zy_} (h:plT Ts s < Ts.length):(Ts[plT Ts s].nm.toList == s.toList)=true:=by
 unfold plT at h |-;exact List.findIdx_getElem (w:=h)
def ZcB (Ts:List Tm) (s:Zy_):Int:=if plT Ts s < Ts.length then (plT Ts s:Int) else -1
theorem ZmU {s:Zy_} (hk:k < Ts.length) (h:(Ts[k].nm.toList == s.toList)=true) (hall:∀ i (h:i < Ts.length),i < k->(Ts[i].nm.toList == s.toList)=false):ZcB Ts s=k:=by
 unfold ZcB;rw [Zq8 hk h hall,if_pos hk]
theorem Zoo {s:Zy_} (hall:∀ i (h:i < Ts.length),(Ts[i].nm.toList == s.toList)=false):ZcB Ts s= -1:=by
 unfold ZcB;rw [Zq6 hall,if_neg (Nat.lt_irrefl _)]
theorem ZfA {s:Zy_} (h:plT Ts s < Ts.length):ZcB Ts s=plT Ts s:=if_pos h
theorem Zfu {s:Zy_} (h:¬ plT Ts s < Ts.length):ZcB Ts s= -1:=if_neg h
def ovB (Ts:List Tm) (s:Zy_):Zy_:=match Ts[plT Ts s]? with
 | some t=>t.ov
 | none=>⟨#[]⟩
theorem Zsz {s:Zy_} (h:plT Ts s < Ts.length):ovB Ts s=Ts[plT Ts s].ov:=by
 unfold ovB;rw [List.getElem?_eq_getElem h]
theorem Zra {s:Zy_} (h:¬ plT Ts s < Ts.length):ovB Ts s=⟨#[]⟩:=by
 unfold ovB;rw [List.getElem?_eq_none (by omega)]
theorem ZsF {s:Zy_} (hk:k < Ts.length) (h:(Ts[k].nm.toList == s.toList)=true) (hall:∀ i (h:i < Ts.length),i < k->(Ts[i].nm.toList == s.toList)=false):ovB Ts s=Ts[k].ov:=by
 have e:=Zq8 hk h hall;unfold ovB;rw [e,List.getElem?_eq_getElem hk]
theorem ZsC {s:Zy_} (hall:∀ i (h:i < Ts.length),(Ts[i].nm.toList == s.toList)=false):ovB Ts s=⟨#[]⟩:=Zra (by rw [Zq6 hall];omega)
def ZeU (Ts:List Tm) (b:Zy_):Nat->Zy_->Bool
 | 0,_=>false
 | n+1,a=>if (ovB Ts a).toList.isEmpty then false else if (ovB Ts a).toList == b.toList then true else ZeU Ts b n (ovB Ts a)
def Zbf (Ts:List Tm) (a b:Zy_):Bool:=(a.toList == b.toList) || ZeU Ts b 4 a
def ZaX (Ts:List Tm):Nat->Zy_->Bool
 | 0,_=>true
 | n+1,a=>if (ovB Ts a).toList.isEmpty then false else ZaX Ts n (ovB Ts a)
def Zec (Ts:List Tm) (s:Zy_):Bool:=Ts.any fun t=>t.nm.toList == s.toList
theorem Zjw {s:Zy_} (h:k < Ts.length) (hp:(Ts[k].nm.toList == s.toList)=true):Zec Ts s=true:=by
 unfold Zec;rw [List.any_eq_true];exact⟨Ts[k],List.getElem_mem h,hp⟩
theorem Zo7 {s:Zy_} (hall:∀ i (h:i < Ts.length),(Ts[i].nm.toList == s.toList)=false):Zec Ts s=false:=by
 unfold Zec;rw [List.any_eq_false];intro x hx;obtain⟨i,hi,rfl⟩:=List.getElem_of_mem hx;simp [hall i hi]
theorem Zhq (Ts:List Tm) (s:Zy_):Zec Ts s=decide (plT Ts s < Ts.length):=by
 by_cases h:plT Ts s < Ts.length
 . rw [decide_eq_true h]
   exact Zjw h (ZrT h)
 . rw [decide_eq_false h]
   refine Zo7 fun i hi=>?_
   have:=List.not_of_lt_findIdx (p:=fun t:Tm=>t.nm.toList == s.toList) (xs:=Ts) (i:=i) (by show i < plT Ts s;omega)
   simpa using this
def Zdo (Ts:List Tm) (i:Nat):Bool:=match Ts[i]? with
 | none=>false
 | some t=>Zan t.nm&&(i == 0 || Op.bytesLess ((Ts[i - 1]?.map Tm.nm).getD ⟨#[]⟩).toList t.nm.toList)&&(t.ov.toList.isEmpty || Zec Ts t.ov)&&!ZaX Ts 5 t.nm
def Zbr (Ts:List Tm):Bool:=decide (Ts.length<=12)&&(List.range Ts.length).all (Zdo Ts)
theorem ZaA {i:Nat} (h:i < Ts.length):Zdo Ts i=(Zan Ts[i].nm&&(i == 0 || Op.bytesLess ((Ts[i - 1]?.map Tm.nm).getD ⟨#[]⟩).toList Ts[i].nm.toList)&&(Ts[i].ov.toList.isEmpty || Zec Ts Ts[i].ov)&&!ZaX Ts 5 Ts[i].nm):=by
 unfold Zdo;rw [List.getElem?_eq_getElem h]
theorem Zkw (h:j+1 < Ts.length):((Ts[j+1 - 1]?.map Tm.nm).getD ⟨#[]⟩)=Ts[j].nm:=by
 rw [Nat.add_sub_cancel,List.getElem?_eq_getElem (by omega)];rfl
theorem Zkd (h:¬ Ts.length<=12):Zbr Ts=false:=by unfold Zbr;simp [h]
theorem Zbq (hk:k < Ts.length) (h:Zdo Ts k=false):Zbr Ts=false:=by
 unfold Zbr;rw [Za3 hk h];simp
theorem Zjo (h:Ts.length<=12) (hk:Ts.length<=k) (hall:∀ i,i < k->Zdo Ts i=true):Zbr Ts=true:=by
 unfold Zbr;rw [Za7 (fun i hi=>hall i (by omega))];simp [h]
structure Zd6 (w:World) (b o:Nat) (t:Tm):Prop where
 c0:w.cell? ⟨b,o,none⟩=some (.string t.nm)
 c1:w.cell? ⟨b,o+1,none⟩=some (.string t.ov)
structure ZeZ (t:Tm):Prop where
 s0:t.nm.size<=maxLen
 s1:t.ov.size<=maxLen
theorem Zd6.below {w:World}{b o:Nat}{t:Tm} (h:Zd6 w b o t) (hb:Zw_ w w') (hlt:b < w.heap.size):Zd6 w' b o t:=by
 have e:∀ o,w'.cell? ⟨b,o,none⟩=w.cell? ⟨b,o,none⟩:=fun o=>hb.cell (p:=⟨b,o,none⟩) hlt
 exact⟨by rw [e];exact h.c0,by rw [e];exact h.c1⟩
def Zbn (lo:Nat) (w:World) (v:Value) (Ts:List Tm):Prop:=
 (∃ (a:Option Addr) (cap:Nat),v=.slice a 0 cap/\Ts=[])\/
 ∃ (b off cap:Nat),v=.slice (some ⟨b,off,none⟩) Ts.length cap/\Ts≠[]/\Ts.length<=maxLen/\b < w.heap.size/\lo<=b/\Ts.length<=cap/\
  ∀ i (h:i < Ts.length),ZeZ Ts[i]/\Zd6 w b (off+i*2) Ts[i]
theorem Zbn.below {w:World} (h:Zbn lo w v Ts) (hb:Zw_ w w'):Zbn lo w' v Ts:=by
 rcases h with h | ⟨b,off,cap,h1,h2,h3,h4,h5,h6,h7⟩
 . exact Or.inl h
 . refine Or.inr ⟨b,off,cap,h1,h2,h3,Zk_ h4 hb.size,h5,h6,fun i hi=>?_⟩
   obtain⟨hs,hc⟩:=h7 i hi;exact⟨hs,hc.below hb h4⟩
theorem Zbn.mono {w:World} (h:Zbn lo w v Ts) (hl:lo'<=lo):Zbn lo' w v Ts:=by
 rcases h with h | ⟨b,off,cap,h1,h2,h3,h4,h5,h6,h7⟩
 . exact Or.inl h
 . exact Or.inr ⟨b,off,cap,h1,h2,h3,h4,Nat.le_trans hl h5,h6,h7⟩
theorem Zbn.form {w:World} (h:Zbn lo w v Ts):∃ a cap,v=.slice a Ts.length cap:=by
 rcases h with ⟨a,cap,h,rfl⟩ | ⟨b,off,cap,h,_⟩
 . exact⟨a,cap,h⟩
 . exact⟨_,cap,h⟩
theorem Zbn.max {w:World} (h:Zbn lo w v Ts):Ts.length<=maxLen:=by
 rcases h with ⟨a,cap,h,rfl⟩ | ⟨b,off,cap,h,_,h3,_⟩
 . exact Nat.zero_le _
 . exact h3
theorem Zbn.full {w:World} (h:Zbn lo w v Ts) (hne:Ts≠[]):∃ (b off cap:Nat),v=.slice (some ⟨b,off,none⟩) Ts.length cap/\Ts.length<=maxLen/\b < w.heap.size/\Ts.length<=cap/\
 ∀ i (h:i < Ts.length),ZeZ Ts[i]/\Zd6 w b (off+i*2) Ts[i]:=by
 rcases h with ⟨_,_,_,h⟩ | ⟨b,off,cap,h1,_,h3,h4,_,h6,h7⟩
 . exact absurd h hne
 . exact⟨b,off,cap,h1,h3,h4,h6,h7⟩
theorem Zbn.full' {w:World} (h:Zbn lo w (.slice a n cap) Ts) (hL:0 < Ts.length) :
 ∃ b off,a=some ⟨b,off,none⟩/\b < w.heap.size/\∀ i (h:i < Ts.length),ZeZ Ts[i]/\Zd6 w b (off+i*2) Ts[i]:=by
 rcases h with ⟨a',cap',h,rfl⟩ | ⟨b',off',cap',h1,h2,h3,h4,h5,h6,h7⟩
 . simp at hL
 . injection h1 with e1 e2 e3
   exact⟨b',off',e1,h4,h7⟩
theorem Zbn.setCell {w:World} (h:Zbn lo w v Ts) {p:Addr} (hp:p.block < lo) (u:Value):Zbn lo (w.setCell p u) v Ts:=by
 rcases h with h | ⟨b,off,cap,h1,h2,h3,h4,h5,h6,h7⟩
 . exact Or.inl h
 . refine Or.inr ⟨b,off,cap,h1,h2,h3,by simpa [World.setCell] using h4,h5,h6,fun i hi=>?_⟩
   obtain⟨hs,hc⟩:=h7 i hi;have e:∀ o,(w.setCell p u).cell? ⟨b,o,none⟩=w.cell? ⟨b,o,none⟩:=fun o=>Zas _ _ _ _ (by show b≠p.block;omega)
   exact⟨hs,by rw [e];exact hc.c0,by rw [e];exact hc.c1⟩
theorem Zmq (k f:Zy_) (left:Int) (w:World) (h0:0<=left) (h1:left<=1048576)
 (s0:k.size<=maxLen) (s1:f.size<=maxLen) :
 Calls prog 88 #[.agg #[.string k,.string f],.int .i64 left] w
  fun e w'=>∃ r:Int,e=.returned (.int .i64 r)/\Zw_ w w'/\-1<=r/\r<=left:=by
 unfold maxLen at s0 s1;have HW:∀ o,Hd (Zw_ w (w.alloc o)):=fun o=>Zb_.alloc Zl_ _
 go_enter func88,ntmps88;go_wp2
 all_goals go_ret
 all_goals exact⟨_,rfl,(HW _).o,by omega,by omega⟩
theorem Zpi (lo:Nat) (v:Value) (Ts:List Tm) (left:Int) (w:World) (h0:0<=left) (h1:left<=1048576) (hv:Zbn lo w v Ts) :
 Calls prog 29 #[v,.int .i64 left] w fun e w'=>∃ r:Int,e=.returned (.int .i64 r)/\Zw_ w w'/\Zsb Ts.length left r:=by
 rcases hv with ⟨a,cap,rfl,rfl⟩ | ⟨b,off,cap,rfl,hne,hm,hbw,_,_,hc⟩
 . go_enter func29,ntmps29
   go_wp2
   go_loop [1,5] (fun l i=>∃ r:Int,l=.int .i64 r/\0<=r/\r<=left/\i=.int .i64 0) (fun _ _=>0)
   case atStart=>exact⟨_,rfl,by omega,by omega,rfl⟩
   case round=>
    obtain⟨r,rfl,hr0,hr1,rfl⟩:=hrel;go_wp2;go_ret;exact⟨r,rfl,Below.refl _ _,by omega,by omega,fun _=>by simp;omega⟩
 . unfold maxLen at hm
   by_cases hle:(Ts.length:Int)<=left
   . go_enter func29,ntmps29
     go_wp2
     go_loopw [1,5] (fun l i wr=>∃ (r:Int) (k:Nat),l=.int .i64 r/\0<=r/\r<=left/\i=.int .i64 k/\k<=Ts.length/\Zw_ w wr) (fun _ i _=>Ts.length - (intOf i).toNat)
     case atStart=>exact⟨_,0,rfl,by omega,by omega,rfl,by omega,Below.refl _ _⟩
     case round=>
      obtain⟨r,k,rfl,hr0,hr1,rfl,hk,hb⟩:=hrel
      by_cases hlt:k < Ts.length
      . obtain⟨hsz,hcell⟩:=hc k hlt
        obtain⟨c0,c1⟩:=hcell.below hb hbw;go_wp2_with fail;refine (Zmq _ _ _ _ hr0 (by omega) hsz.s0 hsz.s1).mono ?_;rintro e w1 ⟨r1,rfl,hb1,q0,q1⟩;have hB:Hd (Zw_ w w1):=hb.trans (hb1.mono hb.size);clear hb1 c0 c1 hb;go_wp2
        all_goals first
         | (go_roundw
            . exact⟨_,k+1,rfl,by omega,by omega,by go_num,by omega,hB.o⟩
            . simp [intOf];omega)
         | (go_ret
            exact⟨-1,rfl,hB.o,by omega,by omega,fun h=>by omega⟩)
      . go_wp2
        go_ret;exact⟨r,rfl,hb,by omega,by omega,fun _=>hle⟩
   . go_enter func29,ntmps29
     go_wp2;go_ret;exact⟨-1,rfl,Below.refl _ _,by omega,by omega,fun h=>by omega⟩
theorem Zig (k f:Zy_) (w:World) :
 Calls prog 102 #[.agg #[.string k,.string f]] w
  fun e w'=>e=.returned (.agg #[.string k,.string f])/\Zw_ w w':=by
 go_enter func102,ntmps102;go_wp2;refine bodyPost_ret (v:=.agg #[.string k,.string f]) (by simp [results,results102,go_sem]) rfl ⟨rfl,?_⟩
 repeat (refine Below.setCell ?_ (by dsimp;omega) _)
 exact ((Zb_.alloc Zl_ _).alloc (by simp) _).alloc (by simp;omega) _
theorem ZkI (k f:Zy_) (w:World) :
 Calls prog 120 #[.agg #[.string k,.string f],.agg #[.string k,.string f]] w
  fun e w'=>e=.returned (.bool true)/\Zw_ w w':=by
 go_enter func120,ntmps120;go_wp2;go_ret;exact⟨rfl,(Zb_.alloc Zl_ _).alloc (by simp) _⟩
theorem ZmK (lo lo':Nat) (v v':Value) (Ts:List Tm) (w:World) (hv:Zbn lo w v Ts) (hv':Zbn lo' w v' Ts) :
 Calls prog 57 #[v,v'] w fun e w'=>e=.returned (.bool true)/\Zw_ w w':=by
 by_cases hL:Ts=[]
 . subst hL
   obtain⟨a,cap,rfl⟩:=hv.form;obtain⟨a',cap',rfl⟩:=hv'.form;clear hv hv';go_enter func57,ntmps57;go_wp2
   go_loop [5] (fun i=>i=.int .i64 0) (fun _=>0)
   case atStart=>rfl
   case round=>
    subst hrel;go_wp2;go_ret;exact⟨rfl,Below.refl _ _⟩
 . obtain⟨b,off,cap,rfl,hm,hbw,_,hc⟩:=hv.full hL
   obtain⟨b',off',cap',rfl,_,hbw',_,hc'⟩:=hv'.full hL;clear hv hv';unfold maxLen at hm;go_enter func57,ntmps57;go_wp2
   go_loopw [5] (fun i wr=>∃ k:Nat,i=.int .i64 k/\k<=Ts.length/\Zw_ w wr) (fun i _=>Ts.length - (intOf i).toNat)
   case atStart=>exact⟨0,rfl,by omega,Below.refl _ _⟩
   case round=>
    obtain⟨k,rfl,hk,hb⟩:=hrel
    by_cases hlt:k < Ts.length
    . obtain⟨_,hcell⟩:=hc k hlt
      obtain⟨_,hcell'⟩:=hc' k hlt;obtain⟨c0,c1⟩:=hcell.below hb hbw;obtain⟨d0,d1⟩:=hcell'.below hb hbw';clear hcell hcell';have HB:=Zab hb;clear hb;go_wp2
      go_region_with (go_at_call 120;refine (ZkI _ _ _).mono ?_;rintro e w1 ⟨rfl,hb1⟩;have hB:Hd (Zw_ w w1):=(HB.o.drew).trans (hb1.mono HB.o.size);clear hb1)
      all_goals go_wp2
      all_goals go_roundw
      all_goals first
       | (case rel=>exact⟨k+1,by go_num,by omega,hB.o⟩)
       | (case measure=>simp [intOf];omega)
    . go_wp2
      go_ret;exact⟨rfl,hb⟩
theorem Tryz.info168:(prog.info? 168).map (fun i=>(i.zero,i.size,i.bytes))=some (some (.agg #[.string ⟨#[]⟩,.string ⟨#[]⟩]),2,32):=by kernel_rfl
def Zb8 (wr:World) (B:Nat) (Ts:List Tm) (k:Nat):Prop:=
 ∃ f,wr.rowIs B 168 (Ts.length*2) f/\∀ i (h:i < Ts.length),i < k->ZeZ Ts[i]/\f (i*2)=.string Ts[i].nm/\f (i*2+1)=.string Ts[i].ov
theorem Zb8.below (h:Zb8 wr B Ts k) (hb:Below wr.heap.size wr w1):Zb8 w1 B Ts k:=by
 obtain⟨f,hr,hall⟩:=h;exact⟨f,hr.of_block (hb.block B hr.lt),hall⟩
theorem Zb8.free (h:Zb8 wr B Ts k) (i:Nat):wr.frozen? ⟨B,i,none⟩=false:=by
 obtain⟨f,hr,_⟩:=h;exact hr.frozen i
theorem Zb8.there (h:Zb8 wr B Ts k) (i:Nat) (hi:i < Ts.length*2):∃ v,wr.cell? ⟨B,i,none⟩=some v:=by
 obtain⟨f,hr,_⟩:=h;exact⟨_,hr.cell hi⟩
theorem Zb8.step (h:Zb8 w1 B Ts k) (hk:k < Ts.length) (hz:ZeZ Ts[k]) :
 Zb8 ((w1.setCell ⟨B,k*2,none⟩ (.string Ts[k].nm)).setCell ⟨B,k*2+1,none⟩ (.string Ts[k].ov)) B Ts (k+1):=by
 obtain⟨f,hr,hall⟩:=h;refine⟨_,((hr.set _ _).set _ _),fun i hi hik=>?_⟩
 by_cases e:i=k
 . subst e
   exact⟨hz,by simp,by simp⟩
 . obtain⟨hz',h0,h1⟩:=hall i hi (by omega)
   refine⟨hz',?_,?_⟩
   . rw [if_neg (by omega),if_neg (by omega)];exact h0
   . rw [if_neg (by omega),if_neg (by omega)];exact h1
theorem Zb8.done (h:Zb8 wr B Ts k) (hk:Ts.length<=k) (hne:Ts≠[]) (hm:Ts.length<=maxLen):Zbn B wr (.slice (some ⟨B,0,none⟩) Ts.length Ts.length) Ts:=by
 obtain⟨f,hr,hall⟩:=h;refine Or.inr ⟨B,0,Ts.length,rfl,hne,hm,hr.lt,Nat.le_refl _,Nat.le_refl _,fun i hi=>?_⟩;obtain⟨hz,h0,h1⟩:=hall i hi (by omega);rw [Nat.zero_add];exact⟨hz,by rw [hr.cell (by omega),h0],by rw [hr.cell (by omega),h1]⟩
theorem Zb8.new (w:World) (Ts:List Tm) (z:Array Value):Zb8 (w.alloc (.cells (madeCells z (Ts.length*2)) 168)) w.heap.size Ts 0:=by
 refine⟨fun i=>(madeCells z (Ts.length*2)).getD i default,?_,fun i _ h=>by omega⟩;have:=World.rowIs_alloc w (madeCells z (Ts.length*2)) 168 (fun i=>(madeCells z (Ts.length*2)).getD i default) (fun i hi=>by simp [Array.getD,hi])
 rwa [size_madeCells] at this
theorem Zof (lo:Nat) (v:Value) (Ts:List Tm) (w:World) (hv:Zbn lo w v Ts) (hn:Ts.length<=1048576) :
 Calls prog 43 #[v] w fun e w'=>∃ v',e=.returned v'/\Zw_ w w'/\Zbn w.heap.size w' v' Ts:=by
 obtain⟨i0,hi,hz0,hz1,hz2⟩:=info_parts Tryz.info168
 by_cases hL:Ts=[]
 . subst hL
   obtain⟨a,cap,rfl⟩:=hv.form;clear hv
   have hmk:∀ u:World,(Instr.makeSlice 45 (.int .i64 0) (.int .i64 0)).run prog u=.ok (.slice (some ⟨u.heap.size,0,none⟩) 0 0) (u.alloc (.cells (madeCells (Value.cells (.agg #[.string ⟨#[]⟩,.string ⟨#[]⟩])) 0) 168)):=fun u=>by
    have h:=run_make (P:=prog) u 45 168 i0 _ underlying45 hi hz0 .i64 .i64 0 0 (by omega) (by omega) (by omega) (by omega)
    simpa [hz1] using h
   go_enter func43,ntmps43;go_wp2
   go_loop [4] (fun i=>i=.int .i64 0) (fun _=>0)
   case atStart=>rfl
   case round=>
    subst hrel;go_wp2;go_ret;exact⟨_,rfl,Zb_.alloc Zl_ _,Or.inl ⟨_,_,rfl,rfl⟩⟩
 . obtain⟨b,off,cap,rfl,hm,hbw,_,hc⟩:=hv.full hL
   clear hv;have HM:Hd (Ts.length<=maxLen):=hm;unfold maxLen at hm
   have hmk:∀ u:World,(Instr.makeSlice 45 (.int .i64 (Ts.length:Int)) (.int .i64 (Ts.length:Int))).run prog u=.ok (.slice (some ⟨u.heap.size,0,none⟩) Ts.length Ts.length) (u.alloc (.cells (madeCells (Value.cells (.agg #[.string ⟨#[]⟩,.string ⟨#[]⟩])) (Ts.length*2)) 168)):=fun u=>by
    have h:=run_make (P:=prog) u 45 168 i0 _ underlying45 hi hz0 .i64 .i64 Ts.length Ts.length (by omega) (by omega) (by rw [hz2];omega) (by omega);rw [hz1] at h
    simpa using h
   clear hi hz0 hz1 hz2;go_enter func43,ntmps43;go_wp2;clear hmk
   go_loopw [4] (fun i wr=>∃ k:Nat,i=.int .i64 k/\k<=Ts.length/\Zw_ w wr/\Zb8 wr w.heap.size Ts k) (fun i _=>Ts.length - (intOf i).toNat)
   case atStart=>exact⟨0,rfl,by omega,Zb_.alloc Zl_ _,Zb8.new w Ts _⟩
   case round=>
    obtain⟨k,rfl,hk,hb,hf⟩:=hrel
    by_cases hlt:k < Ts.length
    . obtain⟨hsz,hcell⟩:=hc k hlt
      obtain⟨c0,c1⟩:=hcell.below hb hbw;clear hcell;go_wp2_with fail;refine (Zig _ _ _).mono ?_;rintro e w1 ⟨rfl,hb1⟩;have hf1:=hf.below hb1;have HST:=Zab (hf1.step hlt hsz);have hB:Hd (Zw_ w w1):=hb.trans (hb1.mono hb.size);have hfr:=hf1.free;obtain⟨o0,ho0⟩:=hf1.there (k*2) (by omega);obtain⟨o1,ho1⟩:=hf1.there (k*2+1) (by omega);clear hf hf1 hb1 hb c0 c1;go_wp2;go_roundw
      . 
       exact⟨k+1,by go_num,by omega,(hB.o.setCell Zl_ _).setCell Zl_ _,HST.o⟩
      . simp [intOf];omega
    . go_wp2
      go_ret;exact⟨_,rfl,hb,hf.done (by omega) hL HM.o⟩
structure Ru where
 vb:List Int
 kd:Zy_
 tm:Zy_
 pf:Zy_
def Zau (lo:Nat) (w:World) (v:Value) (L:List Int):Prop:=
 (∃ (a:Option Addr) (cap:Nat),v=.slice a 0 cap/\L=[])\/
 ∃ (b off cap:Nat),v=.slice (some ⟨b,off,none⟩) L.length cap/\L≠[]/\L.length<=maxLen/\b < w.heap.size/\lo<=b/\
  ∀ i (h:i < L.length),w.cell? ⟨b,off+i,none⟩=some (.int .i64 L[i])
theorem Zau.below {w:World} (h:Zau lo w v L) (hb:Zw_ w w'):Zau lo w' v L:=by
 rcases h with h | ⟨b,off,cap,h1,h2,h3,h4,h5,h6⟩
 . exact Or.inl h
 . exact Or.inr ⟨b,off,cap,h1,h2,h3,Zk_ h4 hb.size,h5,fun i hi=>by rw [hb.cell (p:=⟨b,_,none⟩) h4];exact h6 i hi⟩
theorem Zau.mono {w:World} (h:Zau lo w v L) (hl:lo'<=lo):Zau lo' w v L:=by
 rcases h with h | ⟨b,off,cap,h1,h2,h3,h4,h5,h6⟩
 . exact Or.inl h
 . exact Or.inr ⟨b,off,cap,h1,h2,h3,h4,Nat.le_trans hl h5,h6⟩
theorem Zau.form {w:World} (h:Zau lo w v L):∃ a cap,v=.slice a L.length cap:=by
 rcases h with ⟨a,cap,h,rfl⟩ | ⟨b,off,cap,h,_⟩
 . exact⟨a,cap,h⟩
 . exact⟨_,cap,h⟩
theorem Zau.max {w:World} (h:Zau lo w v L):L.length<=maxLen:=by
 rcases h with ⟨a,cap,h,rfl⟩ | ⟨b,off,cap,h,_,h3,_⟩
 . exact Nat.zero_le _
 . exact h3
theorem Zau.full {w:World} (h:Zau lo w v L) (hne:L≠[]):∃ (b off cap:Nat),v=.slice (some ⟨b,off,none⟩) L.length cap/\L.length<=maxLen/\b < w.heap.size/\
 ∀ i (h:i < L.length),w.cell? ⟨b,off+i,none⟩=some (.int .i64 L[i]):=by
 rcases h with ⟨_,_,_,h⟩ | ⟨b,off,cap,h1,_,h3,h4,_,h6⟩
 . exact absurd h hne
 . exact⟨b,off,cap,h1,h3,h4,h6⟩
theorem Zau.full' {w:World} (h:Zau lo w (.slice a n cap) L) (hL:0 < L.length) :
 ∃ b off,a=some ⟨b,off,none⟩/\b < w.heap.size/\∀ i (h:i < L.length),w.cell? ⟨b,off+i,none⟩=some (.int .i64 L[i]):=by
 rcases h with ⟨a',cap',h,rfl⟩ | ⟨b',off',cap',h1,h2,h3,h4,h5,h6⟩
 . simp at hL
 . injection h1 with e1 e2 e3
   exact⟨b',off',e1,h4,h6⟩
theorem Zau.setCell {w:World} (h:Zau lo w v L) {p:Addr} (hp:p.block < lo) (u:Value):Zau lo (w.setCell p u) v L:=by
 rcases h with h | ⟨b,off,cap,h1,h2,h3,h4,h5,h6⟩
 . exact Or.inl h
 . refine Or.inr ⟨b,off,cap,h1,h2,h3,by simpa [World.setCell] using h4,h5,fun i hi=>?_⟩
   rw [Zas _ _ _ _ (by show b≠p.block;omega)];exact h6 i hi
theorem Zna (lo:Nat) (v:Value) (L:List Int) (left:Int) (w:World) (h0:0<=left) (h1:left<=1048576) (hv:Zau lo w v L) :
 Calls prog 183 #[v,.int .i64 left] w fun e w'=>∃ r:Int,e=.returned (.int .i64 r)/\w'=w/\Zsb L.length left r:=by
 have hm:=hv.max;unfold maxLen at hm;obtain⟨a,cap,rfl⟩:=hv.form
 by_cases hle:(L.length:Int)<=left
 . go_enter func183,ntmps183
   go_wp2;go_ret;exact⟨_,rfl,rfl,by omega,by omega,fun _=>hle⟩
 . go_enter func183,ntmps183
   go_wp2;go_ret;exact⟨-1,rfl,rfl,by omega,by omega,fun h=>by omega⟩
theorem Zlw (lo lo':Nat) (v v':Value) (L:List Int) (w:World) (hv:Zau lo w v L) (hv':Zau lo' w v' L) :
 Calls prog 197 #[v,v'] w fun e w'=>e=.returned (.bool true)/\Zw_ w w':=by
 by_cases hL:L=[]
 . subst hL
   obtain⟨a,cap,rfl⟩:=hv.form;obtain⟨a',cap',rfl⟩:=hv'.form;clear hv hv';go_enter func197,ntmps197;go_wp2
   go_loop [5] (fun i=>i=.int .i64 0) (fun _=>0)
   case atStart=>rfl
   case round=>
    subst hrel;go_wp2;go_ret;exact⟨rfl,Below.refl _ _⟩
 . obtain⟨b,off,cap,rfl,hm,hbw,hc⟩:=hv.full hL
   obtain⟨b',off',cap',rfl,_,hbw',hc'⟩:=hv'.full hL;clear hv hv';unfold maxLen at hm;go_enter func197,ntmps197;go_wp2
   go_loopw [5] (fun i wr=>∃ k:Nat,i=.int .i64 k/\k<=L.length/\Zw_ w wr) (fun i _=>L.length - (intOf i).toNat)
   case atStart=>exact⟨0,rfl,by omega,Below.refl _ _⟩
   case round=>
    obtain⟨k,rfl,hk,hb⟩:=hrel
    by_cases hlt:k < L.length
    . have c0:wr.cell? ⟨b,off+k,none⟩=some (.int .i64 L[k]):=by rw [hb.cell (p:=⟨b,_,none⟩) hbw];exact hc k hlt
      have d0:wr.cell? ⟨b',off'+k,none⟩=some (.int .i64 L[k]):=by rw [hb.cell (p:=⟨b',_,none⟩) hbw'];exact hc' k hlt
      have HB:=Zab hb;clear hb;go_wp2
      try go_quiet (fail)
      try go_wp2
      go_roundw
      . exact⟨k+1,by go_num,by omega,by first | exact HB.o | exact below_drewN HB.o _⟩
      . simp [intOf];omega
    . go_wp2
      go_ret;exact⟨rfl,hb⟩
theorem Tryz.info3:(prog.info? 3).map (fun i=>(i.zero,i.size,i.bytes))=some (some (.int .i64 0),1,8):=by kernel_rfl
def Zqa (L:List Int) (k i:Nat):Value:=if i < k then .int .i64 (L.getD i 0) else .int .i64 0
def Zdj (wr:World) (B:Nat) (L:List Int) (k:Nat):Prop:=wr.rowIs B 3 L.length (Zqa L k)
theorem Zdj.step (h:Zdj wr B L k) (hk:k < L.length):Zdj (wr.setCell ⟨B,k,none⟩ (.int .i64 L[k])) B L (k+1):=by
 unfold Zdj at*;refine (h.set k (.int .i64 L[k])).congr fun i hi=>?_
 unfold Zqa
 by_cases e:i=k
 . subst e;simp [hk]
 . by_cases e2:i < k
   . simp [e,e2,Nat.lt_succ_of_lt e2]
   . have:¬ i < k+1:=by omega
     simp [e,e2,this]
theorem Zdj.done (h:Zdj wr B L k) (hk:L.length<=k) (hne:L≠[]) (hm:L.length<=maxLen):Zau B wr (.slice (some ⟨B,0,none⟩) L.length L.length) L:=by
 refine Or.inr ⟨B,0,L.length,rfl,hne,hm,World.rowIs.lt h,Nat.le_refl _,fun i hi=>?_⟩;rw [Nat.zero_add,World.rowIs.cell h hi];unfold Zqa;rw [if_pos (by omega),List.getD_eq_getElem?_getD,List.getElem?_eq_getElem hi];rfl
theorem Znx (lo:Nat) (v:Value) (L:List Int) (w:World) (hv:Zau lo w v L) (hn:L.length<=1048576) :
 Calls prog 191 #[v] w fun e w'=>∃ v',e=.returned v'/\Zw_ w w'/\Zau w.heap.size w' v' L:=by
 by_cases hL:L=[]
 . subst hL
   obtain⟨a,cap,rfl⟩:=hv.form;clear hv
   have hmk:∀ u:World,(Instr.makeSlice 60 (.int .i64 0) (.int .i64 0)).run prog u=.ok (.slice (some ⟨u.heap.size,0,none⟩) 0 0) (u.alloc (.cells (madeCells #[.int .i64 0] 0) 3)):=
    fun u=>run_make_row' 60 3 (.int .i64 0) 8 underlying60 Tryz.info3 rfl .i64 .i64 0 (by omega) (by omega) u
   go_enter func191,ntmps191;go_wp2
   go_loop [4] (fun i=>i=.int .i64 0) (fun _=>0)
   case atStart=>rfl
   case round=>
    subst hrel;go_wp2;go_ret;exact⟨_,rfl,Zb_.alloc Zl_ _,Or.inl ⟨_,_,rfl,rfl⟩⟩
 . obtain⟨b,off,cap,rfl,hm,hbw,hc⟩:=hv.full hL
   clear hv;have HM:Hd (L.length<=maxLen):=hm;unfold maxLen at hm
   have hmk:∀ u:World,(Instr.makeSlice 60 (.int .i64 (L.length:Int)) (.int .i64 (L.length:Int))).run prog u=.ok (.slice (some ⟨u.heap.size,0,none⟩) L.length L.length) (u.alloc (.cells (madeCells #[.int .i64 0] L.length) 3)):=
    fun u=>run_make_row' 60 3 (.int .i64 0) 8 underlying60 Tryz.info3 rfl .i64 .i64 L.length (by omega) (by omega) u
   go_enter func191,ntmps191;go_wp2;clear hmk
   go_loopw [4] (fun i wr=>∃ k:Nat,i=.int .i64 k/\k<=L.length/\Zw_ w wr/\Zdj wr w.heap.size L k) (fun i _=>L.length - (intOf i).toNat)
   case atStart=>exact⟨0,rfl,by omega,Zb_.alloc Zl_ _,World.rowIs_made w (.int .i64 0) L.length 3⟩
   case round=>
    obtain⟨k,rfl,hk,hb,hf⟩:=hrel
    by_cases hlt:k < L.length
    . have hck:wr.cell? ⟨b,off+k,none⟩=some (.int .i64 L[k]):=by rw [hb.cell (p:=⟨b,off+k,none⟩) hbw];exact hc k hlt
      have hold:wr.cell? ⟨w.heap.size,k,none⟩=some _:=World.rowIs.cell hf hlt;have hfz:wr.frozen? ⟨w.heap.size,k,none⟩=false:=World.rowIs.frozen hf k;go_wp2;go_roundw
      . exact⟨k+1,by go_num,by omega,hb.setCell Zl_ _,hf.step hlt⟩
      . simp [intOf];omega
    . go_wp2
      go_ret;exact⟨_,rfl,hb,hf.done (by omega) hL HM.o⟩
structure Zhv (r:Ru):Prop where
 s1:r.kd.size<=maxLen
 s2:r.tm.size<=maxLen
 s3:r.pf.size<=maxLen
theorem ZnM (lo:Nat) (r:Ru) (vv:Value) (left:Int) (w:World) (h0:0<=left) (h1:left<=1048576) (hv:Zau lo w vv r.vb) (hz:Zhv r) :
 Calls prog 137 #[.agg #[vv,.string r.kd,.string r.tm,.string r.pf],.int .i64 left] w
  fun e w'=>∃ q:Int,e=.returned (.int .i64 q)/\Zw_ w w'/\Zsb r.vb.length left q:=by
 obtain⟨s1,s2,s3⟩:=hz;unfold maxLen at s1 s2 s3;have HV:=Zab hv;obtain⟨a,cap,rfl⟩:=hv.form;clear hv;have HW:∀ o,Hd (Zw_ w (w.alloc o)):=fun o=>Zac _ _
 go_enter func137,ntmps137;go_wp2_with fail;refine (Zna lo _ r.vb _ _ (by omega) (by omega) (HV.o.below (HW _).o)).mono ?_;rintro e w1 ⟨q,rfl,rfl,hr0,hr1,hr2⟩;have HR:=Zab hr2;clear hr2;go_wp2
 all_goals go_ret
 all_goals refine⟨_,rfl,(HW _).o,by omega,by omega,fun _=>?_⟩
 all_goals have:=HR.o (by omega)
 all_goals omega
theorem ZnK (lo:Nat) (r:Ru) (vv:Value) (w:World) (hv:Zau lo w vv r.vb) (hn:r.vb.length<=1048576) :
 Calls prog 143 #[.agg #[vv,.string r.kd,.string r.tm,.string r.pf]] w
  fun e w'=>∃ v',e=.returned (.agg #[v',.string r.kd,.string r.tm,.string r.pf])/\Zw_ w w'/\Zau w.heap.size w' v' r.vb:=by
 have HV:=Zab hv;obtain⟨a,cap,rfl⟩:=hv.form;clear hv;go_enter func143,ntmps143;go_wp2_with fail;refine (Znx lo _ r.vb _ (HV.o.below ?_) hn).mono ?_
 . exact ((Zb_.alloc Zl_ _).alloc (by simp) _).alloc (by simp;omega) _
 rintro e w1 ⟨v',rfl,hb,hs⟩;obtain⟨a',cap',rfl⟩:=hs.form;have HS:Hd (Zau (w.heap.size+3) w1 (.slice a' r.vb.length cap') r.vb):=hs.mono (by simp);clear hs;have hz:w.heap.size+2 < w1.heap.size:=by have:=hb.size;simp at this;omega
 have hc:∀ b o,b < w.heap.size+3->w1.cell? ⟨b,o,none⟩=_:=fun b o h=>hb.cell (p:=⟨b,o,none⟩) (by simpa using h)
 have hf:∀ b o,b < w.heap.size+3->w1.frozen? ⟨b,o,none⟩=_:=fun b o h=>hb.frozen (p:=⟨b,o,none⟩) (by simpa using h)
 have HB:Hd (Zw_ w w1):=(((Zb_.alloc Zl_ _).alloc (by simp) _).alloc (by simp;omega) _).trans (hb.mono (by simp;omega));clear hb;go_wp2;refine bodyPost_ret (v:=.agg #[.slice a' r.vb.length cap',.string r.kd,.string r.tm,.string r.pf]) (by simp [results,results143,go_sem,hc]) rfl ⟨_,rfl,?_,?_⟩
 . repeat (refine Below.setCell ?_ (by dsimp;omega) _)
   exact HB.o
 . refine Zau.mono (lo:=w.heap.size+3) ?_ (by omega)
   repeat (refine Zau.setCell ?_ (by dsimp;omega) _)
   exact HS.o
theorem Zld (lo lo':Nat) (r:Ru) (vv vv':Value) (w:World) (hv:Zau lo w vv r.vb) (hv':Zau lo' w vv' r.vb) :
 Calls prog 150 #[.agg #[vv,.string r.kd,.string r.tm,.string r.pf],.agg #[vv',.string r.kd,.string r.tm,.string r.pf]] w
  fun e w'=>e=.returned (.bool true)/\Zw_ w w':=by
 have HV:=Zab hv;have HV':=Zab hv';obtain⟨a,cap,rfl⟩:=hv.form;obtain⟨a',cap',rfl⟩:=hv'.form;clear hv hv';go_enter func150,ntmps150;go_wp2_with fail;generalize hWa:(World.alloc (w.alloc _) _)=Wa;have HBa:Hd (Zw_ w Wa):=by rw [<- hWa];exact (Zac w _).alloc (by simp) _
 have FA:Hd (Box Wa w.heap.size #[.slice a r.vb.length cap,.string r.kd,.string r.tm,.string r.pf]):=by rw [<- hWa];exact (Box.new _ _ _ _ rfl).on (Zac _ _)
 have FB:Hd (Box Wa (w.heap.size+1) #[.slice a' r.vb.length cap',.string r.kd,.string r.tm,.string r.pf]):=by rw [<- hWa];exact Box.new _ _ _ _ (by simp)
 clear hWa;refine (Zlw lo lo' _ _ r.vb _ (HV.o.below HBa.o) (HV'.o.below HBa.o)).mono ?_;rintro e w1 ⟨rfl,hb1⟩;have HB1:Hd (Zw_ w w1):=HBa.o.trans (hb1.mono HBa.o.size);have g:=(FA.o.on hb1).cell;have g':=(FB.o.on hb1).cell;have a1:w1.cell? ⟨w.heap.size,1,none⟩=some (.string r.kd):=g 1;have a2:w1.cell? ⟨w.heap.size,2,none⟩=some (.string r.tm):=g 2;have a3:w1.cell? ⟨w.heap.size,3,none⟩=some (.string r.pf):=g 3;have b1:w1.cell? ⟨w.heap.size+1,1,none⟩=some (.string r.kd):=g' 1;have b2:w1.cell? ⟨w.heap.size+1,2,none⟩=some (.string r.tm):=g' 2;have b3:w1.cell? ⟨w.heap.size+1,3,none⟩=some (.string r.pf):=g' 3;clear g g' hb1;go_wp2;go_ret;exact⟨rfl,HB1.o⟩
theorem ZdK (lo:Nat) (v:Value) (Ts:List Tm) (s:Zy_) (w:World) (hv:Zbn lo w v Ts) :
 Calls prog 175 #[v,.string s] w fun e w'=>e=.returned (.string (ovB Ts s))/\w'=w:=by
 by_cases hL:Ts=[]
 . subst hL
   obtain⟨a,cap,rfl⟩:=hv.form;clear hv;go_enter func175,ntmps175;go_wp2
   go_loop [5] (fun i=>i=.int .i64 0) (fun _=>0)
   case atStart=>rfl
   case round=>
    subst hrel;go_wp2;go_ret;exact⟨rfl,rfl⟩
 . obtain⟨b,off,cap,rfl,hm,hbw,_,hc⟩:=hv.full hL
   clear hv;unfold maxLen at hm;go_enter func175,ntmps175;go_wp2
   go_loop [5] (fun i=>∃ k:Nat,i=.int .i64 k/\k<=Ts.length/\∀ j (hj:j < Ts.length),j < k->(Ts[j].nm.toList == s.toList)=false) (fun i=>Ts.length - (intOf i).toNat)
   case atStart=>exact⟨0,rfl,by omega,fun j _ h=>by omega⟩
   case round=>
    obtain⟨k,rfl,hk,hall⟩:=hrel;have HA:=Zab hall;clear hall
    by_cases hlt:k < Ts.length
    . obtain⟨_,hcell⟩:=hc k hlt
      obtain⟨c0,c1⟩:=hcell
      cases he:(Ts[k].nm.toList == s.toList) with
      | true=>
       go_wp2;go_ret;exact⟨ZiX (ZsF hlt he HA.o).symm,rfl⟩
      | false=>
       go_wp2
       go_round
       case rel=>exact⟨k+1,by go_num,by omega,fun j hj h=>by
                  by_cases e:j=k
                  . subst e;exact he
                  . exact HA.o j hj (by omega)⟩
       . simp [intOf];omega
    . go_wp2
      go_ret;exact⟨ZiX (ZsC fun j hj=>HA.o j hj (by omega)).symm,rfl⟩
theorem Za9 (lo:Nat) (v:Value) (Ts:List Tm) (s:Zy_) (w:World) (hv:Zbn lo w v Ts) :
 Calls prog 71 #[v,.string s] w fun e w'=>e=.returned (.bool (Zec Ts s))/\w'=w:=by
 by_cases hL:Ts=[]
 . subst hL
   obtain⟨a,cap,rfl⟩:=hv.form;clear hv;go_enter func71,ntmps71;go_wp2
   go_loop [5] (fun i=>i=.int .i64 0) (fun _=>0)
   case atStart=>rfl
   case round=>
    subst hrel;go_wp2;go_ret;exact⟨rfl,rfl⟩
 . obtain⟨b,off,cap,rfl,hm,hbw,_,hc⟩:=hv.full hL
   clear hv;unfold maxLen at hm;go_enter func71,ntmps71;go_wp2
   go_loop [5] (fun i=>∃ k:Nat,i=.int .i64 k/\k<=Ts.length/\∀ j (hj:j < Ts.length),j < k->(Ts[j].nm.toList == s.toList)=false) (fun i=>Ts.length - (intOf i).toNat)
   case atStart=>exact⟨0,rfl,by omega,fun j _ h=>by omega⟩
   case round=>
    obtain⟨k,rfl,hk,hall⟩:=hrel;have HA:=Zab hall;clear hall
    by_cases hlt:k < Ts.length
    . obtain⟨_,hcell⟩:=hc k hlt
      obtain⟨c0,c1⟩:=hcell
      cases he:(Ts[k].nm.toList == s.toList) with
      | true=>
       go_wp2;go_ret;exact⟨Zaa (Zjw hlt he).symm,rfl⟩
      | false=>
       go_wp2
       go_round
       case rel=>exact⟨k+1,by go_num,by omega,fun j hj h=>by
                  by_cases e:j=k
                  . subst e;exact he
                  . exact HA.o j hj (by omega)⟩
       . simp [intOf];omega
    . go_wp2
      go_ret;exact⟨Zaa (Zo7 fun j hj=>HA.o j hj (by omega)).symm,rfl⟩
section
variable (nm ov:Zy_) (w:World)
theorem Zo0 (s:Zy_) (B:Nat) (hB:B < w.heap.size) (hs:w.cell? ⟨B,0,none⟩=some (.string s)) :
 Calls prog 178 #[.agg #[.string nm,.string ov],.pointer (some ⟨B,0,none⟩)] w
  fun e w'=>e=.returned (.bool (nm.toList == s.toList))/\Zw_ w w':=by
 go_enter func178,ntmps178;go_wp2;go_ret;exact⟨rfl,Zb_.alloc Zl_ _⟩
end
theorem ZhP (lo:Nat) (v:Value) (Ts:List Tm) (s:Zy_) (B:Nat) (w:World) (hv:Zbn lo w v Ts) (hB:B < w.heap.size) (hs:w.cell? ⟨B,0,none⟩=some (.string s)) :
 Calls prog 177 #[v,.func (.func 178) #[] #[.pointer (some ⟨B,0,none⟩)]] w fun e w'=>e=.returned (.int .i64 (ZcB Ts s))/\Zw_ w w':=by
 by_cases hL:Ts=[]
 . subst hL
   obtain⟨a,cap,rfl⟩:=hv.form;clear hv;go_enter func177,ntmps177;go_wp2
   go_loop [8] (fun i=>i=.int .i64 0) (fun _=>0)
   case atStart=>rfl
   case round=>
    subst hrel;go_wp2;go_ret;exact⟨rfl,Below.refl _ _⟩
 . obtain⟨b,off,cap,rfl,hm,hbw,_,hc⟩:=hv.full hL
   clear hv;unfold maxLen at hm;go_enter func177,ntmps177;go_wp2
   go_loopw [8] (fun i wr=>∃ k:Nat,i=.int .i64 k/\k<=Ts.length/\Zw_ w wr/\∀ j (hj:j < Ts.length),j < k->(Ts[j].nm.toList == s.toList)=false) (fun i _=>Ts.length - (intOf i).toNat)
   case atStart=>exact⟨0,rfl,by omega,Below.refl _ _,fun j _ h=>by omega⟩
   case round=>
    obtain⟨k,rfl,hk,hb,hall⟩:=hrel;have HA:=Zab hall;have HB:=Zab hb;clear hall hb
    by_cases hlt:k < Ts.length
    . obtain⟨_,hcell⟩:=hc k hlt
      obtain⟨c0,c1⟩:=hcell.below HB.o hbw;clear hcell;go_wp2_with fail;refine (Zo0 _ _ _ s B (Zk_ hB HB.o.size) (by rw [HB.o.cell (p:=⟨B,0,none⟩) hB];exact hs)).mono ?_;rintro e w1 ⟨rfl,hb1⟩;have HB1:Hd (Zw_ w w1):=HB.o.trans (hb1.mono HB.o.size);clear hb1 c0 c1
      cases he:(Ts[k].nm.toList == s.toList) with
      | true=>
       go_wp2;go_ret;exact⟨by rw [ZmU hlt he HA.o];rfl,HB1.o⟩
      | false=>
       go_wp2;go_roundw
       case rel=>exact⟨k+1,by go_num,by omega,HB1.o,fun j hj h=>by
                  by_cases e:j=k
                  . subst e;exact he
                  . exact HA.o j hj (by omega)⟩
       . simp [intOf];omega
    . go_wp2
      go_ret;exact⟨by rw [Zoo fun j hj=>HA.o j hj (by omega)];rfl,HB.o⟩
theorem Zb3 (lo:Nat) (v:Value) (Ts:List Tm) (s:Zy_) (w:World) (hv:Zbn lo w v Ts) :
 Calls prog 132 #[v,.string s] w fun e w'=>e=.returned (.int .i64 (ZcB Ts s))/\Zw_ w w':=by
 have HV:=Zab hv;obtain⟨a,cap,rfl⟩:=hv.form;clear hv;have HW:∀ o,Hd (Zw_ w (w.alloc o)):=fun o=>Zac _ _
 go_enter func132,ntmps132;go_wp2_with fail;refine (ZhP lo _ Ts s _ _ (HV.o.below (HW _).o) (by simp) (by simp)).mono ?_;rintro e w1 ⟨rfl,hb⟩;have HB:Hd (Zw_ w w1):=(HW _).o.trans (hb.mono (by simp));clear hb;go_wp2;go_ret;exact⟨rfl,HB.o⟩
theorem Zh4 (lo:Nat) (v:Value) (Ts:List Tm) (s:Zy_) (w:World) (hv:Zbn lo w v Ts) :
 Calls prog 229 #[v,.string s] w fun e w'=>e=.returned (.string (ovB Ts s))/\Zw_ w w':=by
 have HV:=Zab hv;obtain⟨a,cap,rfl⟩:=hv.form;clear hv;go_enter func229,ntmps229;go_wp2_with fail;refine (Zb3 lo _ Ts s _ HV.o).mono ?_;rintro e w1 ⟨rfl,hb⟩;have HB:=Zab hb;clear hb
 by_cases hp:plT Ts s < Ts.length
 . rw [ZfA hp]
   have hmx:=HV.o.max;obtain⟨b,off,rfl,hbw,hc⟩:=HV.o.full' (by omega);obtain⟨_,hcell⟩:=hc _ hp;obtain⟨c0,c1⟩:=hcell.below HB.o hbw;have HO:=Zab (Zsz hp);unfold maxLen at hmx;clear hc hcell;generalize plT Ts s=p at*;go_wp2;go_ret;exact⟨ZiX HO.o.symm,HB.o⟩
 . rw [Zfu hp]
   have HO:=Zab (Zra hp);go_wp2;go_ret;exact⟨ZiX HO.o.symm,HB.o⟩
theorem ZiA (lo:Nat) (v:Value) (Ts:List Tm) (a b:Zy_) (w:World) (hv:Zbn lo w v Ts) :
 Calls prog 217 #[v,.string a,.string b] w fun e w'=>e=.returned (.bool (Zbf Ts a b))/\Zw_ w w':=by
 have HV:=Zab hv;obtain⟨ta,tcap,rfl⟩:=hv.form;clear hv
 cases hab:(a.toList == b.toList) with
 | true=>
  go_enter func217,ntmps217;go_wp2;go_ret;exact⟨Zaa (by simp [Zbf,hab]),Below.refl _ _⟩
 | false=>
  have HU:Hd (Zbf Ts a b=ZeU Ts b 4 a):=by unfold Hd Zbf;rw [hab];rfl
  go_enter func217,ntmps217;go_wp2;clear hab
  go_loopw [1,10] (fun x n wr=>∃ (k:Nat) (a':Zy_),x=.string a'/\n=.int .i64 k/\k<=4/\Zbf Ts a b=ZeU Ts b (4 - k) a'/\Zw_ w wr) (fun _ n _=>4 - (intOf n).toNat)
  case atStart=>exact⟨0,a,rfl,rfl,by omega,HU.o,Below.refl _ _⟩
  case round=>
   obtain⟨k,a',rfl,rfl,hk,hu,hb⟩:=hrel;have HU:=Zab hu;have HB:=Zab hb;clear hu hb
   by_cases hlt:k < 4
   . have HS:Hd (Zbf Ts a b=if (ovB Ts a').toList.isEmpty then false else if (ovB Ts a').toList == b.toList then true else ZeU Ts b (4 - (k+1)) (ovB Ts a')):=by
      unfold Hd;rw [HU.o,show 4 - k=(4 - (k+1))+1 from by omega]
      rfl
     clear HU;go_wp2_with fail;refine (Zh4 lo _ Ts a' _ (HV.o.below HB.o)).mono ?_;rintro e w1 ⟨rfl,hb1⟩;have HB1:Hd (Zw_ w w1):=HB.o.trans (hb1.mono HB.o.size);clear hb1;clear HB
     cases he:(ovB Ts a').toList.isEmpty with
     | true=>
      have HR:Hd (Zbf Ts a b=false):=by unfold Hd;rw [HS.o,if_pos he]
      go_wp2;go_ret;exact⟨Zaa HR.o.symm,HB1.o⟩
     | false=>
      cases he2:((ovB Ts a').toList == b.toList) with
      | true=>
       have HR:Hd (Zbf Ts a b=true):=by unfold Hd;rw [HS.o,if_neg (by simp [he]),if_pos he2]
       go_wp2;go_ret;exact⟨Zaa HR.o.symm,HB1.o⟩
      | false=>
       have HR:Hd (Zbf Ts a b=ZeU Ts b (4 - (k+1)) (ovB Ts a')):=by unfold Hd;rw [HS.o,if_neg (by simp [he]),if_neg (by simp [he2])]
       go_wp2;go_roundw
       . exact⟨k+1,_,rfl,by go_num,by omega,HR.o,HB1.o⟩
       . simp [intOf];omega
   . have HR:Hd (Zbf Ts a b=false):=by unfold Hd;rw [HU.o,show 4 - k=0 from by omega];rfl
     go_wp2;go_ret;exact⟨Zaa HR.o.symm,HB.o⟩
theorem ZdW (lo:Nat) (v:Value) (Ts:List Tm) (a:Zy_) (w:World) (hv:Zbn lo w v Ts) :
 Calls prog 194 #[v,.string a] w fun e w'=>e=.returned (.bool (ZaX Ts 5 a))/\Zw_ w w':=by
 have HV:=Zab hv;obtain⟨ta,tcap,rfl⟩:=hv.form;clear hv;go_enter func194,ntmps194;go_wp2
 go_loopw [1,5] (fun x n wr=>∃ (k:Nat) (a':Zy_),x=.string a'/\n=.int .i64 k/\k<=5/\ZaX Ts 5 a=ZaX Ts (5 - k) a'/\Zw_ w wr) (fun _ n _=>5 - (intOf n).toNat)
 case atStart=>exact⟨0,a,rfl,rfl,by omega,rfl,Below.refl _ _⟩
 case round=>
  obtain⟨k,a',rfl,rfl,hk,hu,hb⟩:=hrel;have HU:=Zab hu;have HB:=Zab hb;clear hu hb
  by_cases hlt:k < 5
  . have HS:Hd (ZaX Ts 5 a=if (ovB Ts a').toList.isEmpty then false else ZaX Ts (5 - (k+1)) (ovB Ts a')):=by
     unfold Hd;rw [HU.o,show 5 - k=(5 - (k+1))+1 from by omega]
     rfl
    clear HU;go_wp2_with fail;refine (Zh4 lo _ Ts a' _ (HV.o.below HB.o)).mono ?_;rintro e w1 ⟨rfl,hb1⟩;have HB1:Hd (Zw_ w w1):=HB.o.trans (hb1.mono HB.o.size);clear hb1 HB
    cases he:(ovB Ts a').toList.isEmpty with
    | true=>
     have HR:Hd (ZaX Ts 5 a=false):=by unfold Hd;rw [HS.o,if_pos he]
     go_wp2;go_ret;exact⟨Zaa HR.o.symm,HB1.o⟩
    | false=>
     have HR:Hd (ZaX Ts 5 a=ZaX Ts (5 - (k+1)) (ovB Ts a')):=by unfold Hd;rw [HS.o,if_neg (by simp [he])]
     go_wp2;go_roundw
     . exact⟨k+1,_,rfl,by go_num,by omega,HR.o,HB1.o⟩
     . simp [intOf];omega
  . have HR:Hd (ZaX Ts 5 a=true):=by unfold Hd;rw [HU.o,show 5 - k=0 from by omega];rfl
    go_wp2;go_ret;exact⟨Zaa HR.o.symm,HB.o⟩
theorem Ziq (lo:Nat) (v:Value) (Ts:List Tm) (w:World) (hv:Zbn lo w v Ts) :
 Calls prog 140 #[v] w fun e w'=>e=.returned (.bool (Zbr Ts))/\Zw_ w w':=by
 by_cases h12:¬ Ts.length<=12
 . have HR:=Zab (Zkd h12)
   have hmx:=hv.max;unfold maxLen at hmx;obtain⟨a,cap,rfl⟩:=hv.form;go_enter func140,ntmps140;go_wp2;go_ret;exact⟨Zaa HR.o.symm,Below.refl _ _⟩
 replace h12:Ts.length<=12:=by omega
 by_cases hL:Ts=[]
 . subst hL
   obtain⟨a,cap,rfl⟩:=hv.form;clear hv;go_enter func140,ntmps140;go_wp2
   go_loop [3] (fun i=>i=.int .i64 0) (fun _=>0)
   case atStart=>rfl
   case round=>
    subst hrel;go_wp2;go_ret;exact⟨Zaa (by rfl),Below.refl _ _⟩
 . have HV:=Zab hv
   obtain⟨b,off,cap,rfl,hm,hbw,_,hc⟩:=hv.full hL;clear hv hm;have H12:=Zab h12;have h12i:decide ((12:Int) < (Ts.length:Int))=false:=by simp;omega
   go_enter func140,ntmps140;go_wp2
   go_loopw [3] (fun i wr=>∃ k:Nat,i=.int .i64 k/\k<=Ts.length/\Zw_ w wr/\∀ i,i < k->Zdo Ts i=true) (fun i _=>Ts.length - (intOf i).toNat)
   case atStart=>exact⟨0,rfl,by omega,Below.refl _ _,fun i h=>by omega⟩
   case round=>
    obtain⟨k,rfl,hk,hb,hall⟩:=hrel;have HA:=Zab hall;have HB:=Zab hb;clear hall hb
    by_cases hlt:k < Ts.length
    . obtain⟨hsz,hcell⟩:=hc k hlt
      have HSZ:=Zab hsz;obtain⟨c0,c1⟩:=hcell.below HB.o hbw;clear hcell hsz;have HFr:∀ o n,Hd (Zbn lo ((wr.alloc o).drewN n) (.slice (some ⟨b,off,none⟩) Ts.length cap) Ts):=fun o n=>HV.o.below (below_drewN (HB.o.alloc HB.o.size _) _)
      cases hn:Zan Ts[k].nm with
      | false=>
       go_wp2
       go_quiet (first|(go_at_call 37;exact (Zaf _ _ HSZ.o.s0).mono fun _ _ h=>⟨h.1,_,h.2⟩)|(go_at_call 71;exact (Za9 lo _ Ts _ _ (HFr _ _).o).mono fun _ _ h=>⟨h.1,_,h.2⟩))
       go_wp2;go_ret;exact⟨Zaa (Zbq hlt (by rw [ZaA hlt];simp [hn])).symm,below_drewN (HB.o.alloc HB.o.size _) _⟩
      | true=>
       cases k with
       | zero=>
        have c0:wr.cell? ⟨b,off,none⟩=some (.string Ts[0].nm):=by simpa using c0
        have c1:wr.cell? ⟨b,off+1,none⟩=some (.string Ts[0].ov):=by simpa using c1
        cases hoe:Ts[0].ov.toList.isEmpty with
        | true=>
         have HOK:Hd (ZaX Ts 5 Ts[0].nm=false->∀ i,i < 0+1->Zdo Ts i=true):=fun h i hi=>by
          by_cases e:i=0
          . subst e;rw [ZaA hlt,h];simp [hn,hoe]
          . exact HA.o i (by omega)
         have HNO:Hd (ZaX Ts 5 Ts[0].nm=true->Zbr Ts=false):=fun h=>Zbq hlt (by rw [ZaA hlt,h];simp)
         have HNE:Hd (Ts[0].nm.toList.isEmpty=false):=Zc9 (by
          have:=hn;unfold Zan at this;rw [Bool.and_eq_true,ZdF] at this;have:=this.1;simp at this
          omega)
         go_wp2
         go_quiet (first|(go_at_call 37;exact (Zaf _ _ HSZ.o.s0).mono fun _ _ h=>⟨h.1,_,h.2⟩)|(go_at_call 71;exact (Za9 lo _ Ts _ _ (HFr _ _).o).mono fun _ _ h=>⟨h.1,_,h.2⟩))
         try simp only [hn]
         try simp only [hoe]
         go_wp2
         go_loop [5,6] (fun x n=>∃ (q:Nat) (a':Zy_),x=.string a'/\n=.int .i64 q/\q<=5/\((a'.toList.isEmpty=true/\ZaX Ts 5 Ts[0].nm=false)\/(a'.toList.isEmpty=false/\ZaX Ts 5 Ts[0].nm=ZaX Ts (5 - q) a'))) (fun _ n=>5 - (intOf n).toNat)
         case atStart=>exact⟨0,_,rfl,rfl,by omega,Or.inr ⟨HNE.o,rfl⟩⟩
         case round=>
          obtain⟨q,a',rfl,rfl,hq,hqq⟩:=hrel
          rcases hqq with ⟨hae,hd⟩ | ⟨hae,hd⟩
          . have HD:=Zab hd
            clear hd
            by_cases h5:q<=4
            all_goals
             go_wp2;go_roundw
             . first | exact⟨0+1,by go_num,by omega,below_drewN (HB.o.alloc HB.o.size _) _,HOK.o HD.o⟩|((repeat apply Exists.intro);exact⟨⟨0+1,by go_num,by omega,below_drewN (HB.o.alloc HB.o.size _) _,HOK.o HD.o⟩,rfl⟩)
             . simp [intOf];omega
          . have HD:=Zab hd
            clear hd
            by_cases h5:q<=4
            . have HS:Hd (ZaX Ts 5 Ts[0].nm=if (ovB Ts a').toList.isEmpty then false else ZaX Ts (5 - (q+1)) (ovB Ts a')):=by
               unfold Hd;rw [HD.o,show 5 - q=(5 - (q+1))+1 from by omega]
               rfl
              clear HD;go_wp2_with fail;refine (ZdK lo _ Ts a' _ (HFr _ _).o).mono ?_;rintro e w1 ⟨rfl,rfl⟩;go_wp2
              go_round
              . 
               have hnx:((ovB Ts a').toList.isEmpty=true/\ZaX Ts 5 Ts[0].nm=false)\/((ovB Ts a').toList.isEmpty=false/\ZaX Ts 5 Ts[0].nm=ZaX Ts (5 - (q+1)) (ovB Ts a')):=by
                cases he:(ovB Ts a').toList.isEmpty with
                | true=>exact Or.inl ⟨rfl,by rw [HS.o,if_pos he]⟩
                | false=>exact Or.inr ⟨rfl,by rw [HS.o,if_neg (by simp [he])]⟩
               first
                | exact⟨q+1,_,rfl,by go_num,by omega,hnx⟩
                | (refine⟨trivial,?_⟩
                   (repeat apply Exists.intro)
                   exact⟨⟨q+1,_,rfl,by go_num,by omega,hnx⟩,rfl⟩)
                | ((repeat apply Exists.intro)
                   exact⟨⟨q+1,_,rfl,by go_num,by omega,hnx⟩,rfl⟩)
              . simp [intOf];omega
            . have HR:Hd (Zbr Ts=false):=HNO.o (by rw [HD.o,show 5 - q=0 from by omega];rfl)
              go_wp2;go_ret;exact⟨Zaa HR.o.symm,below_drewN (HB.o.alloc HB.o.size _) _⟩
        | false=>
         cases hht:Zec Ts Ts[0].ov with
         | false=>
          go_wp2
          go_quiet (first|(go_at_call 37;exact (Zaf _ _ HSZ.o.s0).mono fun _ _ h=>⟨h.1,_,h.2⟩)|(go_at_call 71;exact (Za9 lo _ Ts _ _ (HFr _ _).o).mono fun _ _ h=>⟨h.1,_,h.2⟩))
          go_wp2;go_ret;exact⟨Zaa (Zbq hlt (by rw [ZaA hlt];simp [hoe,hht])).symm,below_drewN (HB.o.alloc HB.o.size _) _⟩
         | true=>
          have HOK:Hd (ZaX Ts 5 Ts[0].nm=false->∀ i,i < 0+1->Zdo Ts i=true):=fun h i hi=>by
           by_cases e:i=0
           . subst e;rw [ZaA hlt,h];simp [hn,hoe,hht]
           . exact HA.o i (by omega)
          have HNO:Hd (ZaX Ts 5 Ts[0].nm=true->Zbr Ts=false):=fun h=>Zbq hlt (by rw [ZaA hlt,h];simp)
          have HNE:Hd (Ts[0].nm.toList.isEmpty=false):=Zc9 (by
           have:=hn;unfold Zan at this;rw [Bool.and_eq_true,ZdF] at this;have:=this.1;simp at this
           omega)
          go_wp2
          go_quiet (first|(go_at_call 37;exact (Zaf _ _ HSZ.o.s0).mono fun _ _ h=>⟨h.1,_,h.2⟩)|(go_at_call 71;exact (Za9 lo _ Ts _ _ (HFr _ _).o).mono fun _ _ h=>⟨h.1,_,h.2⟩))
          try simp only [hn]
          try simp only [hoe]
          try simp only [hht]
          go_wp2
          go_loop [5,6] (fun x n=>∃ (q:Nat) (a':Zy_),x=.string a'/\n=.int .i64 q/\q<=5/\((a'.toList.isEmpty=true/\ZaX Ts 5 Ts[0].nm=false)\/(a'.toList.isEmpty=false/\ZaX Ts 5 Ts[0].nm=ZaX Ts (5 - q) a'))) (fun _ n=>5 - (intOf n).toNat)
          case atStart=>exact⟨0,_,rfl,rfl,by omega,Or.inr ⟨HNE.o,rfl⟩⟩
          case round=>
           obtain⟨q,a',rfl,rfl,hq,hqq⟩:=hrel
           rcases hqq with ⟨hae,hd⟩ | ⟨hae,hd⟩
           . have HD:=Zab hd
             clear hd
             by_cases h5:q<=4
             all_goals
              go_wp2;go_roundw
              . first | exact⟨0+1,by go_num,by omega,below_drewN (HB.o.alloc HB.o.size _) _,HOK.o HD.o⟩|((repeat apply Exists.intro);exact⟨⟨0+1,by go_num,by omega,below_drewN (HB.o.alloc HB.o.size _) _,HOK.o HD.o⟩,rfl⟩)
              . simp [intOf];omega
           . have HD:=Zab hd
             clear hd
             by_cases h5:q<=4
             . have HS:Hd (ZaX Ts 5 Ts[0].nm=if (ovB Ts a').toList.isEmpty then false else ZaX Ts (5 - (q+1)) (ovB Ts a')):=by
                unfold Hd;rw [HD.o,show 5 - q=(5 - (q+1))+1 from by omega]
                rfl
               clear HD;go_wp2_with fail;refine (ZdK lo _ Ts a' _ (HFr _ _).o).mono ?_;rintro e w1 ⟨rfl,rfl⟩;go_wp2
               go_round
               . 
                have hnx:((ovB Ts a').toList.isEmpty=true/\ZaX Ts 5 Ts[0].nm=false)\/((ovB Ts a').toList.isEmpty=false/\ZaX Ts 5 Ts[0].nm=ZaX Ts (5 - (q+1)) (ovB Ts a')):=by
                 cases he:(ovB Ts a').toList.isEmpty with
                 | true=>exact Or.inl ⟨rfl,by rw [HS.o,if_pos he]⟩
                 | false=>exact Or.inr ⟨rfl,by rw [HS.o,if_neg (by simp [he])]⟩
                first
                 | exact⟨q+1,_,rfl,by go_num,by omega,hnx⟩
                 | (refine⟨trivial,?_⟩
                    (repeat apply Exists.intro)
                    exact⟨⟨q+1,_,rfl,by go_num,by omega,hnx⟩,rfl⟩)
                 | ((repeat apply Exists.intro)
                    exact⟨⟨q+1,_,rfl,by go_num,by omega,hnx⟩,rfl⟩)
               . simp [intOf];omega
             . have HR:Hd (Zbr Ts=false):=HNO.o (by rw [HD.o,show 5 - q=0 from by omega];rfl)
               go_wp2;go_ret;exact⟨Zaa HR.o.symm,below_drewN (HB.o.alloc HB.o.size _) _⟩
       | succ j=>
        have HBE:Hd (((Ts[j+1 - 1]?.map Tm.nm).getD ⟨#[]⟩)=Ts[j].nm):=Zkw hlt;have hcj:wr.cell? ⟨b,off+j*2,none⟩=some (.string Ts[j].nm):=by rw [HB.o.cell (p:=⟨b,_,none⟩) hbw];exact (hc j (by omega)).2.c0
        have hjw:IntKind.i64.wrap (j:Int)=j:=by rw [IntKind.wrap_i64];omega
        have hjl:j < Ts.length:=by omega
        have hdl:decide ((j:Int)+1 < (Ts.length:Int))=true:=by simp;omega
        have hbo:b < wr.heap.size:=Zk_ hbw HB.o.size
        have cj2:∀ o,(wr.alloc o).cell? ⟨b,off+j*2,none⟩=some (.string Ts[j].nm):=fun o=>by rw [((Below.refl wr.heap.size wr).alloc Zl_ o).cell (p:=⟨b,_,none⟩) hbo];exact hcj
        have cj3:∀ o n,((wr.alloc o).drewN n).cell? ⟨b,off+j*2,none⟩=some (.string Ts[j].nm):=fun o n=>cj2 o
        cases hls:Op.bytesLess Ts[j].nm.toList Ts[j+1].nm.toList with
        | false=>
         go_wp2
         go_quiet (first|(go_at_call 37;exact (Zaf _ _ HSZ.o.s0).mono fun _ _ h=>⟨h.1,_,h.2⟩)|(go_at_call 71;exact (Za9 lo _ Ts _ _ (HFr _ _).o).mono fun _ _ h=>⟨h.1,_,h.2⟩))
         go_wp2;go_ret;exact⟨Zaa (Zbq hlt (by rw [ZaA hlt];rw [HBE.o,hls];simp)).symm,below_drewN (HB.o.alloc HB.o.size _) _⟩
        | true=>
         cases hoe:Ts[j+1].ov.toList.isEmpty with
         | true=>
          have HOK:Hd (ZaX Ts 5 Ts[j+1].nm=false->∀ i,i < j+1+1->Zdo Ts i=true):=fun h i hi=>by
           by_cases e:i=j+1
           . subst e;rw [ZaA hlt,h];rw [HBE.o,hls];simp [hn,hoe]
           . exact HA.o i (by omega)
          have HNO:Hd (ZaX Ts 5 Ts[j+1].nm=true->Zbr Ts=false):=fun h=>Zbq hlt (by rw [ZaA hlt,h];simp)
          have HNE:Hd (Ts[j+1].nm.toList.isEmpty=false):=Zc9 (by
           have:=hn;unfold Zan at this;rw [Bool.and_eq_true,ZdF] at this;have:=this.1;simp at this
           omega)
          go_wp2
          go_quiet (first|(go_at_call 37;exact (Zaf _ _ HSZ.o.s0).mono fun _ _ h=>⟨h.1,_,h.2⟩)|(go_at_call 71;exact (Za9 lo _ Ts _ _ (HFr _ _).o).mono fun _ _ h=>⟨h.1,_,h.2⟩))
          try simp only [hn]
          try simp only [hoe]
          try simp only [hls]
          go_wp2
          go_loop [5,6] (fun x n=>∃ (q:Nat) (a':Zy_),x=.string a'/\n=.int .i64 q/\q<=5/\((a'.toList.isEmpty=true/\ZaX Ts 5 Ts[j+1].nm=false)\/(a'.toList.isEmpty=false/\ZaX Ts 5 Ts[j+1].nm=ZaX Ts (5 - q) a'))) (fun _ n=>5 - (intOf n).toNat)
          case atStart=>exact⟨0,_,rfl,rfl,by omega,Or.inr ⟨HNE.o,rfl⟩⟩
          case round=>
           obtain⟨q,a',rfl,rfl,hq,hqq⟩:=hrel
           rcases hqq with ⟨hae,hd⟩ | ⟨hae,hd⟩
           . have HD:=Zab hd
             clear hd
             by_cases h5:q<=4
             all_goals
              go_wp2;go_roundw
              . first | exact⟨j+1+1,by go_num,by omega,below_drewN (HB.o.alloc HB.o.size _) _,HOK.o HD.o⟩|((repeat apply Exists.intro);exact⟨⟨j+1+1,by go_num,by omega,below_drewN (HB.o.alloc HB.o.size _) _,HOK.o HD.o⟩,rfl⟩)
              . simp [intOf];omega
           . have HD:=Zab hd
             clear hd
             by_cases h5:q<=4
             . have HS:Hd (ZaX Ts 5 Ts[j+1].nm=if (ovB Ts a').toList.isEmpty then false else ZaX Ts (5 - (q+1)) (ovB Ts a')):=by
                unfold Hd;rw [HD.o,show 5 - q=(5 - (q+1))+1 from by omega]
                rfl
               clear HD;go_wp2_with fail;refine (ZdK lo _ Ts a' _ (HFr _ _).o).mono ?_;rintro e w1 ⟨rfl,rfl⟩;go_wp2
               go_round
               . 
                have hnx:((ovB Ts a').toList.isEmpty=true/\ZaX Ts 5 Ts[j+1].nm=false)\/((ovB Ts a').toList.isEmpty=false/\ZaX Ts 5 Ts[j+1].nm=ZaX Ts (5 - (q+1)) (ovB Ts a')):=by
                 cases he:(ovB Ts a').toList.isEmpty with
                 | true=>exact Or.inl ⟨rfl,by rw [HS.o,if_pos he]⟩
                 | false=>exact Or.inr ⟨rfl,by rw [HS.o,if_neg (by simp [he])]⟩
                first
                 | exact⟨q+1,_,rfl,by go_num,by omega,hnx⟩
                 | (refine⟨trivial,?_⟩
                    (repeat apply Exists.intro)
                    exact⟨⟨q+1,_,rfl,by go_num,by omega,hnx⟩,rfl⟩)
                 | ((repeat apply Exists.intro)
                    exact⟨⟨q+1,_,rfl,by go_num,by omega,hnx⟩,rfl⟩)
               . simp [intOf];omega
             . have HR:Hd (Zbr Ts=false):=HNO.o (by rw [HD.o,show 5 - q=0 from by omega];rfl)
               go_wp2;go_ret;exact⟨Zaa HR.o.symm,below_drewN (HB.o.alloc HB.o.size _) _⟩
         | false=>
          cases hht:Zec Ts Ts[j+1].ov with
          | false=>
           go_wp2
           go_quiet (first|(go_at_call 37;exact (Zaf _ _ HSZ.o.s0).mono fun _ _ h=>⟨h.1,_,h.2⟩)|(go_at_call 71;exact (Za9 lo _ Ts _ _ (HFr _ _).o).mono fun _ _ h=>⟨h.1,_,h.2⟩))
           go_wp2;go_ret;exact⟨Zaa (Zbq hlt (by rw [ZaA hlt];simp [hoe,hht])).symm,below_drewN (HB.o.alloc HB.o.size _) _⟩
          | true=>
           have HOK:Hd (ZaX Ts 5 Ts[j+1].nm=false->∀ i,i < j+1+1->Zdo Ts i=true):=fun h i hi=>by
            by_cases e:i=j+1
            . subst e;rw [ZaA hlt,h];rw [HBE.o,hls];simp [hn,hoe,hht]
            . exact HA.o i (by omega)
           have HNO:Hd (ZaX Ts 5 Ts[j+1].nm=true->Zbr Ts=false):=fun h=>Zbq hlt (by rw [ZaA hlt,h];simp)
           have HNE:Hd (Ts[j+1].nm.toList.isEmpty=false):=Zc9 (by
            have:=hn;unfold Zan at this;rw [Bool.and_eq_true,ZdF] at this;have:=this.1;simp at this
            omega)
           go_wp2
           go_quiet (first|(go_at_call 37;exact (Zaf _ _ HSZ.o.s0).mono fun _ _ h=>⟨h.1,_,h.2⟩)|(go_at_call 71;exact (Za9 lo _ Ts _ _ (HFr _ _).o).mono fun _ _ h=>⟨h.1,_,h.2⟩))
           try simp only [hn]
           try simp only [hoe]
           try simp only [hht]
           try simp only [hls]
           go_wp2
           go_loop [5,6] (fun x n=>∃ (q:Nat) (a':Zy_),x=.string a'/\n=.int .i64 q/\q<=5/\((a'.toList.isEmpty=true/\ZaX Ts 5 Ts[j+1].nm=false)\/(a'.toList.isEmpty=false/\ZaX Ts 5 Ts[j+1].nm=ZaX Ts (5 - q) a'))) (fun _ n=>5 - (intOf n).toNat)
           case atStart=>exact⟨0,_,rfl,rfl,by omega,Or.inr ⟨HNE.o,rfl⟩⟩
           case round=>
            obtain⟨q,a',rfl,rfl,hq,hqq⟩:=hrel
            rcases hqq with ⟨hae,hd⟩ | ⟨hae,hd⟩
            . have HD:=Zab hd
              clear hd
              by_cases h5:q<=4
              all_goals
               go_wp2;go_roundw
               . first | exact⟨j+1+1,by go_num,by omega,below_drewN (HB.o.alloc HB.o.size _) _,HOK.o HD.o⟩|((repeat apply Exists.intro);exact⟨⟨j+1+1,by go_num,by omega,below_drewN (HB.o.alloc HB.o.size _) _,HOK.o HD.o⟩,rfl⟩)
               . simp [intOf];omega
            . have HD:=Zab hd
              clear hd
              by_cases h5:q<=4
              . have HS:Hd (ZaX Ts 5 Ts[j+1].nm=if (ovB Ts a').toList.isEmpty then false else ZaX Ts (5 - (q+1)) (ovB Ts a')):=by
                 unfold Hd;rw [HD.o,show 5 - q=(5 - (q+1))+1 from by omega]
                 rfl
                clear HD;go_wp2_with fail;refine (ZdK lo _ Ts a' _ (HFr _ _).o).mono ?_;rintro e w1 ⟨rfl,rfl⟩;go_wp2
                go_round
                . 
                 have hnx:((ovB Ts a').toList.isEmpty=true/\ZaX Ts 5 Ts[j+1].nm=false)\/((ovB Ts a').toList.isEmpty=false/\ZaX Ts 5 Ts[j+1].nm=ZaX Ts (5 - (q+1)) (ovB Ts a')):=by
                  cases he:(ovB Ts a').toList.isEmpty with
                  | true=>exact Or.inl ⟨rfl,by rw [HS.o,if_pos he]⟩
                  | false=>exact Or.inr ⟨rfl,by rw [HS.o,if_neg (by simp [he])]⟩
                 first
                  | exact⟨q+1,_,rfl,by go_num,by omega,hnx⟩
                  | (refine⟨trivial,?_⟩
                     (repeat apply Exists.intro)
                     exact⟨⟨q+1,_,rfl,by go_num,by omega,hnx⟩,rfl⟩)
                  | ((repeat apply Exists.intro)
                     exact⟨⟨q+1,_,rfl,by go_num,by omega,hnx⟩,rfl⟩)
                . simp [intOf];omega
              . have HR:Hd (Zbr Ts=false):=HNO.o (by rw [HD.o,show 5 - q=0 from by omega];rfl)
                go_wp2;go_ret;exact⟨Zaa HR.o.symm,below_drewN (HB.o.alloc HB.o.size _) _⟩
    . have HR:Hd (Zbr Ts=true):=Zjo H12.o (by omega) HA.o
      go_wp2;go_ret;exact⟨Zaa HR.o.symm,HB.o⟩
theorem ZiB (lo:Nat) (v:Value) (Ts:List Tm) (w:World) (hv:Zbn lo w v Ts) :
 Calls prog 146 #[v] w fun e w'=>e=.returned (.bool (Zbr Ts))/\Zw_ w w':=by
 by_cases h12:¬ Ts.length<=12
 . have HR:=Zab (Zkd h12)
   have hmx:=hv.max;unfold maxLen at hmx;obtain⟨a,cap,rfl⟩:=hv.form;go_enter func146,ntmps146;go_wp2;go_ret;exact⟨Zaa HR.o.symm,Below.refl _ _⟩
 replace h12:Ts.length<=12:=by omega
 by_cases hL:Ts=[]
 . subst hL
   obtain⟨a,cap,rfl⟩:=hv.form;clear hv;go_enter func146,ntmps146;go_wp2
   go_loop [10] (fun i=>i=.int .i64 0) (fun _=>0)
   case atStart=>rfl
   case round=>
    subst hrel;go_wp2;go_ret;exact⟨Zaa (by rfl),Below.refl _ _⟩
 . have HV:=Zab hv
   obtain⟨b,off,cap,rfl,hm,hbw,_,hc⟩:=hv.full hL;clear hv hm;have H12:=Zab h12;have h12i:decide ((12:Int) < (Ts.length:Int))=false:=by simp;omega
   go_enter func146,ntmps146;go_wp2
   go_loopw [10] (fun i wr=>∃ k:Nat,i=.int .i64 k/\k<=Ts.length/\Zw_ w wr/\∀ i,i < k->Zdo Ts i=true) (fun i _=>Ts.length - (intOf i).toNat)
   case atStart=>exact⟨0,rfl,by omega,Below.refl _ _,fun i h=>by omega⟩
   case round=>
    obtain⟨k,rfl,hk,hb,hall⟩:=hrel;have HA:=Zab hall;have HB:=Zab hb;clear hall hb
    by_cases hlt:k < Ts.length
    . obtain⟨hsz,hcell⟩:=hc k hlt
      have HSZ:=Zab hsz;obtain⟨c0,c1⟩:=hcell.below HB.o hbw;clear hcell hsz
      cases hn:Zan Ts[k].nm with
      | false=>
       go_wp2
       go_quiet ((go_at_call 110;exact (Zao _ _ HSZ.o.s0).mono fun _ _ h=>⟨h.1,_,h.2⟩))
       go_wp2;go_ret;exact⟨Zaa (Zbq hlt (by rw [ZaA hlt];simp [hn])).symm,below_drewN (HB.o.alloc HB.o.size _) _⟩
      | true=>
       cases k with
       | zero=>
        have c0:wr.cell? ⟨b,off,none⟩=some (.string Ts[0].nm):=by simpa using c0
        have c1:wr.cell? ⟨b,off+1,none⟩=some (.string Ts[0].ov):=by simpa using c1
        go_wp2
        go_quiet ((go_at_call 110;exact (Zao _ _ HSZ.o.s0).mono fun _ _ h=>⟨h.1,_,h.2⟩))
        try simp only [hn]
        generalize hWb:World.drewN _ _=Wb;have HBX:Hd (Box Wb wr.heap.size #[.string Ts[0].nm,.string Ts[0].ov]):=by rw [<- hWb];exact (Box.new _ _ _ _ rfl).on (below_drewN Zb_ _)
        have HBB:Hd (Zw_ w Wb):=by rw [<- hWb];exact below_drewN (HB.o.alloc HB.o.size _) _
        clear hWb;have b0:Wb.cell? ⟨wr.heap.size,0,none⟩=some (.string Ts[0].nm):=HBX.o.cell 0;have b1:Wb.cell? ⟨wr.heap.size,1,none⟩=some (.string Ts[0].ov):=HBX.o.cell 1
        cases hoe:Ts[0].ov.toList.isEmpty with
        | true=>
         go_wp2_with fail;refine (ZdW lo _ Ts Ts[0].nm _ (HV.o.below HBB.o)).mono ?_;rintro e w2 ⟨rfl,hb2⟩;have HB2:Hd (Zw_ w w2):=HBB.o.trans (hb2.mono HBB.o.size);clear hb2 HBB HBX b0 b1
         cases hd:ZaX Ts 5 Ts[0].nm with
         | true=>
          have HR:Hd (Zbr Ts=false):=Zbq hlt (by rw [ZaA hlt,hd];simp);go_wp2;go_ret;exact⟨Zaa HR.o.symm,HB2.o⟩
         | false=>
          have HOK:Hd (∀ i,i < 0+1->Zdo Ts i=true):=fun i hi=>by
           by_cases e:i=0
           . subst e;rw [ZaA hlt,hd];simp [hn,hoe]
           . exact HA.o i (by omega)
          go_wp2;go_roundw
          . exact⟨0+1,by go_num,by omega,HB2.o,HOK.o⟩
          . simp [intOf];omega
        | false=>
         go_wp2_with fail;refine (Zb3 lo _ Ts Ts[0].ov _ (HV.o.below HBB.o)).mono ?_;rintro e w1 ⟨rfl,hb1⟩;have HBX:=Zab (HBX.o.on hb1);have HBB:Hd (Zw_ w w1):=HBB.o.trans (hb1.mono HBB.o.size);clear hb1 b0 b1;have b0:w1.cell? ⟨wr.heap.size,0,none⟩=some (.string Ts[0].nm):=HBX.o.cell 0;have b1:w1.cell? ⟨wr.heap.size,1,none⟩=some (.string Ts[0].ov):=HBX.o.cell 1
         by_cases hp:plT Ts Ts[0].ov < Ts.length
         . have hht:Zec Ts Ts[0].ov=true:=by rw [Zhq];exact decide_eq_true hp
           rw [ZfA hp];clear hp;generalize plT Ts Ts[0].ov=pp;go_wp2_with fail;refine (ZdW lo _ Ts Ts[0].nm _ (HV.o.below HBB.o)).mono ?_;rintro e w2 ⟨rfl,hb2⟩;have HB2:Hd (Zw_ w w2):=HBB.o.trans (hb2.mono HBB.o.size);clear hb2 HBB HBX b0 b1
           cases hd:ZaX Ts 5 Ts[0].nm with
           | true=>
            have HR:Hd (Zbr Ts=false):=Zbq hlt (by rw [ZaA hlt,hd];simp);go_wp2;go_ret;exact⟨Zaa HR.o.symm,HB2.o⟩
           | false=>
            have HOK:Hd (∀ i,i < 0+1->Zdo Ts i=true):=fun i hi=>by
             by_cases e:i=0
             . subst e;rw [ZaA hlt,hd];simp [hn,hoe,hht]
             . exact HA.o i (by omega)
            go_wp2;go_roundw
            . exact⟨0+1,by go_num,by omega,HB2.o,HOK.o⟩
            . simp [intOf];omega
         . have hht:Zec Ts Ts[0].ov=false:=by rw [Zhq];exact decide_eq_false hp
           have HR:Hd (Zbr Ts=false):=Zbq hlt (by rw [ZaA hlt,hht,hoe];simp);rw [Zfu hp];clear hp;go_wp2;go_ret;exact⟨Zaa HR.o.symm,HBB.o⟩
       | succ j=>
        have HBE:Hd (((Ts[j+1 - 1]?.map Tm.nm).getD ⟨#[]⟩)=Ts[j].nm):=Zkw hlt;have hcj:wr.cell? ⟨b,off+j*2,none⟩=some (.string Ts[j].nm):=by rw [HB.o.cell (p:=⟨b,_,none⟩) hbw];exact (hc j (by omega)).2.c0
        have hjw:IntKind.i64.wrap (j:Int)=j:=by rw [IntKind.wrap_i64];omega
        have hjl:j < Ts.length:=by omega
        have hdl:decide ((j:Int)+1 < (Ts.length:Int))=true:=by simp;omega
        have hbo:b < wr.heap.size:=Zk_ hbw HB.o.size
        have cj2:∀ o,(wr.alloc o).cell? ⟨b,off+j*2,none⟩=some (.string Ts[j].nm):=fun o=>by rw [((Below.refl wr.heap.size wr).alloc Zl_ o).cell (p:=⟨b,_,none⟩) hbo];exact hcj
        have cj3:∀ o n,((wr.alloc o).drewN n).cell? ⟨b,off+j*2,none⟩=some (.string Ts[j].nm):=fun o n=>cj2 o
        cases hls:Op.bytesLess Ts[j].nm.toList Ts[j+1].nm.toList with
        | false=>
         go_wp2
         go_quiet ((go_at_call 110;exact (Zao _ _ HSZ.o.s0).mono fun _ _ h=>⟨h.1,_,h.2⟩))
         go_wp2;go_ret;exact⟨Zaa (Zbq hlt (by rw [ZaA hlt];rw [HBE.o,hls];simp)).symm,below_drewN (HB.o.alloc HB.o.size _) _⟩
        | true=>
         go_wp2
         go_quiet ((go_at_call 110;exact (Zao _ _ HSZ.o.s0).mono fun _ _ h=>⟨h.1,_,h.2⟩))
         try simp only [hn]
         try simp only [hls]
         generalize hWb:World.drewN _ _=Wb;have HBX:Hd (Box Wb wr.heap.size #[.string Ts[j+1].nm,.string Ts[j+1].ov]):=by rw [<- hWb];exact (Box.new _ _ _ _ rfl).on (below_drewN Zb_ _)
         have HBB:Hd (Zw_ w Wb):=by rw [<- hWb];exact below_drewN (HB.o.alloc HB.o.size _) _
         clear hWb;have b0:Wb.cell? ⟨wr.heap.size,0,none⟩=some (.string Ts[j+1].nm):=HBX.o.cell 0;have b1:Wb.cell? ⟨wr.heap.size,1,none⟩=some (.string Ts[j+1].ov):=HBX.o.cell 1
         cases hoe:Ts[j+1].ov.toList.isEmpty with
         | true=>
          go_wp2_with fail;refine (ZdW lo _ Ts Ts[j+1].nm _ (HV.o.below HBB.o)).mono ?_;rintro e w2 ⟨rfl,hb2⟩;have HB2:Hd (Zw_ w w2):=HBB.o.trans (hb2.mono HBB.o.size);clear hb2 HBB HBX b0 b1
          cases hd:ZaX Ts 5 Ts[j+1].nm with
          | true=>
           have HR:Hd (Zbr Ts=false):=Zbq hlt (by rw [ZaA hlt,hd];simp);go_wp2;go_ret;exact⟨Zaa HR.o.symm,HB2.o⟩
          | false=>
           have HOK:Hd (∀ i,i < j+1+1->Zdo Ts i=true):=fun i hi=>by
            by_cases e:i=j+1
            . subst e;rw [ZaA hlt,hd];rw [HBE.o,hls];simp [hn,hoe]
            . exact HA.o i (by omega)
           go_wp2;go_roundw
           . exact⟨j+1+1,by go_num,by omega,HB2.o,HOK.o⟩
           . simp [intOf];omega
         | false=>
          go_wp2_with fail;refine (Zb3 lo _ Ts Ts[j+1].ov _ (HV.o.below HBB.o)).mono ?_;rintro e w1 ⟨rfl,hb1⟩;have HBX:=Zab (HBX.o.on hb1);have HBB:Hd (Zw_ w w1):=HBB.o.trans (hb1.mono HBB.o.size);clear hb1 b0 b1;have b0:w1.cell? ⟨wr.heap.size,0,none⟩=some (.string Ts[j+1].nm):=HBX.o.cell 0;have b1:w1.cell? ⟨wr.heap.size,1,none⟩=some (.string Ts[j+1].ov):=HBX.o.cell 1
          by_cases hp:plT Ts Ts[j+1].ov < Ts.length
          . have hht:Zec Ts Ts[j+1].ov=true:=by rw [Zhq];exact decide_eq_true hp
            rw [ZfA hp];clear hp;generalize plT Ts Ts[j+1].ov=pp;go_wp2_with fail;refine (ZdW lo _ Ts Ts[j+1].nm _ (HV.o.below HBB.o)).mono ?_;rintro e w2 ⟨rfl,hb2⟩;have HB2:Hd (Zw_ w w2):=HBB.o.trans (hb2.mono HBB.o.size);clear hb2 HBB HBX b0 b1
            cases hd:ZaX Ts 5 Ts[j+1].nm with
            | true=>
             have HR:Hd (Zbr Ts=false):=Zbq hlt (by rw [ZaA hlt,hd];simp);go_wp2;go_ret;exact⟨Zaa HR.o.symm,HB2.o⟩
            | false=>
             have HOK:Hd (∀ i,i < j+1+1->Zdo Ts i=true):=fun i hi=>by
              by_cases e:i=j+1
              . subst e;rw [ZaA hlt,hd];rw [HBE.o,hls];simp [hn,hoe,hht]
              . exact HA.o i (by omega)
             go_wp2;go_roundw
             . exact⟨j+1+1,by go_num,by omega,HB2.o,HOK.o⟩
             . simp [intOf];omega
          . have hht:Zec Ts Ts[j+1].ov=false:=by rw [Zhq];exact decide_eq_false hp
            have HR:Hd (Zbr Ts=false):=Zbq hlt (by rw [ZaA hlt,hht,hoe];simp);rw [Zfu hp];clear hp;go_wp2;go_ret;exact⟨Zaa HR.o.symm,HBB.o⟩
    . have HR:Hd (Zbr Ts=true):=Zjo H12.o (by omega) HA.o
      go_wp2;go_ret;exact⟨Zaa HR.o.symm,HB.o⟩
structure In (C:World->Prop) where
 w:World
 h:C w
theorem Zam {P:Program}{id:Nat}{Q:Exit->Act->World->Prop}{a:Act}{w:World}{l:List Oper} (C:World->Prop) (hm:P.follows .mixedOrders=true) (hB:Region.lexB .any l.toArray=true) (hC:C w.drew)
 (h:wpQuiet P l.toArray (fun w'=>∃ X:In C,w'=X.w) (fun a'=>∀ w',(∃ X:In C,w'=X.w)->Q .normal a' w') l a):(Code.region id l.toArray true).wp P Q a w:=
 wp_region_quiet (C:=fun w'=>∃ X:In C,w'=X.w) hm hB ⟨⟨_,hC⟩,rfl⟩ (by simpa using h)
theorem ZbJ {C:World->Prop} (X:In C):(∃ Y:In C,X.w=Y.w)=True:=eq_true ⟨X,rfl⟩
def vAt (L:List Int) (i:Nat):Bool:=match L[i]? with
 | none=>false
 | some v=>inB 1 5 v&&(i == 0 || decide ((L[i - 1]?).getD 0 < v))
def ZnQ (L:List Int):Bool:=decide (0 < L.length)&&(List.range L.length).all (vAt L)
theorem ZfB (h:0 < L.length):vAt L 0=inB 1 5 L[0]:=by unfold vAt;rw [List.getElem?_eq_getElem h];simp
theorem ZcI (h:j+1 < L.length):vAt L (j+1)=(inB 1 5 L[j+1]&&decide (L[j] < L[j+1])):=by
 unfold vAt;rw [List.getElem?_eq_getElem h,Nat.add_sub_cancel,List.getElem?_eq_getElem (by omega)];simp
theorem Zh5 (h:k < L.length) (hb:inB 1 5 L[k]=false):vAt L k=false:=by
 unfold vAt;rw [List.getElem?_eq_getElem h];simp [hb]
theorem Zez (hk:k < L.length) (h:vAt L k=false):ZnQ L=false:=by
 unfold ZnQ;rw [Za3 hk h];simp
theorem Zg7 (hk:L.length<=k) (hall:∀ i,i < k->vAt L i=true):ZnQ L=decide (0 < L.length):=by
 unfold ZnQ;rw [Za7 (fun i hi=>hall i (by omega))];simp
def Za2 (r:Ru):Bool:=ZnQ r.vb&&Zaj r.kd&&Zaj r.tm&&decide ((r.pf.size:Int)<=16)&&ZfJ Zaw r.pf
theorem Zpc (h:vAt L 0=true):∀ i,i < 1->vAt L i=true:=fun i hi=>by
 have e:i=0:=by omega
 subst e;exact h
theorem ZkJ (lo:Nat) (v:Value) (L:List Int) (w:World) (hv:Zau lo w v L) :
 Calls prog 268 #[v] w fun e w'=>e=.returned (.bool (ZnQ L))/\w'=w:=by
 by_cases hL:L=[]
 . subst hL
   obtain⟨a,cap,rfl⟩:=hv.form;clear hv;go_enter func268,ntmps268;go_wp2
   go_loop [7] (fun i=>i=.int .i64 0) (fun _=>0)
   case atStart=>rfl
   case round=>
    subst hrel;go_wp2;go_ret;exact⟨rfl,rfl⟩
 . obtain⟨b,off,cap,rfl,hm,hbw,hc⟩:=hv.full hL
   clear hv;unfold maxLen at hm;go_enter func268,ntmps268;go_wp2
   go_loop [7] (fun i=>∃ k:Nat,i=.int .i64 k/\k<=L.length/\∀ i,i < k->vAt L i=true) (fun i=>L.length - (intOf i).toNat)
   case atStart=>exact⟨0,rfl,by omega,fun i h=>by omega⟩
   case round=>
    obtain⟨k,rfl,hk,hall⟩:=hrel;have HA:=Zab hall;clear hall
    by_cases hlt:k < L.length
    . have c0:=hc k hlt
      by_cases h1:L[k] < 1
      . have HR:Hd (ZnQ L=false):=Zez hlt (Zh5 hlt (by unfold inB;simp;omega))
        go_wp2;go_ret;exact⟨Zaa HR.o.symm,rfl⟩
      by_cases h5:5 < L[k]
      . have HR:Hd (ZnQ L=false):=Zez hlt (Zh5 hlt (by unfold inB;simp;omega))
        go_wp2;go_ret;exact⟨Zaa HR.o.symm,rfl⟩
      have HI:Hd (inB 1 5 L[k]=true):=by unfold Hd inB;simp;omega
      cases k with
      | zero=>
       have c0:w.cell? ⟨b,off,none⟩=some (.int .i64 L[0]):=by simpa using c0
       have HX:Hd (vAt L 0=true):=by unfold Hd;rw [ZfB hlt];exact HI.o
       go_wp2
       go_round
       . exact⟨1,by go_num,by omega,Zpc HX.o⟩
       . simp [intOf];omega
      | succ j=>
       have cj:=hc j (by omega)
       by_cases hls:L[j] < L[j+1]
       . have HX:Hd (vAt L (j+1)=true):=by unfold Hd;rw [ZcI hlt,HI.o,decide_eq_true hls];rfl
         go_wp2
         go_round
         case rel=>exact⟨j+2,by go_num,by omega,fun i hi=>by
                    by_cases e:i=j+1
                    . subst e;exact HX.o
                    . exact HA.o i (by omega)⟩
         . simp [intOf];omega
       . have HR:Hd (ZnQ L=false):=Zez hlt (by rw [ZcI hlt,decide_eq_false hls];simp)
         go_wp2;go_ret;exact⟨Zaa HR.o.symm,rfl⟩
    . have HR:Hd (ZnQ L=decide (0 < L.length)):=Zg7 (by omega) HA.o
      have hpos:0 < L.length:=List.length_pos_iff.2 hL
      have HT:Hd (decide (0 < L.length)=true):=by unfold Hd;simpa using hpos
      go_wp2;go_ret;exact⟨Zaa (by rw [HR.o,HT.o]),rfl⟩
theorem Zj0 (lo:Nat) (r:Ru) (vv:Value) (w:World) (hv:Zau lo w vv r.vb) (hz:Zhv r) :
 Calls prog 240 #[.agg #[vv,.string r.kd,.string r.tm,.string r.pf]] w fun e w'=>e=.returned (.bool (Za2 r))/\Zw_ w w':=by
 have HV:=Zab hv;have HZ:=Zab hz;obtain⟨a,cap,rfl⟩:=hv.form;clear hv hz;have hsz:=HZ.o.s3;unfold maxLen at hsz;go_enter func240,ntmps240;go_wp2_with fail;generalize hWa:w.alloc _=Wa;have HBa:Hd (Zw_ w Wa):=by rw [<- hWa];exact Zac _ _
 have FA:Hd (Box Wa w.heap.size #[.slice a r.vb.length cap,.string r.kd,.string r.tm,.string r.pf]):=by rw [<- hWa];exact Box.new _ _ _ _ rfl
 clear hWa;refine (ZkJ lo _ r.vb _ (HV.o.below HBa.o)).mono ?_;rintro e w1 ⟨rfl,rfl⟩;have a1:w1.cell? ⟨w.heap.size,1,none⟩=some (.string r.kd):=FA.o.cell 1;have a2:w1.cell? ⟨w.heap.size,2,none⟩=some (.string r.tm):=FA.o.cell 2;have a3:w1.cell? ⟨w.heap.size,3,none⟩=some (.string r.pf):=FA.o.cell 3
 cases q1:ZnQ r.vb with
 | false=>
  have HR:Hd (Za2 r=false):=by unfold Hd Za2;rw [q1];rfl
  go_wp2;go_ret;exact⟨Zaa HR.o.symm,HBa.o⟩
 | true=>
  go_wp2_with fail;refine (ZbS r.kd _ HZ.o.s1).mono ?_;rintro e w2 ⟨rfl,rfl⟩
  cases q2:Zaj r.kd with
  | false=>
   have HR:Hd (Za2 r=false):=by unfold Hd Za2;rw [q1,q2];rfl
   go_wp2;go_ret;exact⟨Zaa HR.o.symm,HBa.o⟩
  | true=>
   go_wp2_with fail;refine (ZbS r.tm _ HZ.o.s2).mono ?_;rintro e w3 ⟨rfl,rfl⟩
   cases q3:Zaj r.tm with
   | false=>
    have HR:Hd (Za2 r=false):=by unfold Hd Za2;rw [q1,q2,q3];rfl
    go_wp2;go_ret;exact⟨Zaa HR.o.symm,HBa.o⟩
   | true=>
    by_cases q4:(r.pf.size:Int)<=16
    . have HR:Hd (Za2 r=ZfJ Zaw r.pf):=by unfold Hd Za2;rw [q1,q2,q3,decide_eq_true q4];rfl
      go_wp2_with fail;refine (ZfD r.pf _ HZ.o.s3).mono ?_;rintro e w4 ⟨rfl,rfl⟩;generalize ZfJ Zaw r.pf=Q at*;go_wp2;go_ret;exact⟨Zaa HR.o.symm,HBa.o⟩
    . have HR:Hd (Za2 r=false):=by unfold Hd Za2;rw [decide_eq_false q4];simp
      go_wp2;go_ret;exact⟨Zaa HR.o.symm,HBa.o⟩
open Go.ChangeShapes Go.WideShapes Go.ChangeAt Go.RowKit Go.Deep
theorem Tryz.cells143:prog.cellsOf 143=2:=by kernel_rfl
section
variable {H:Type} {enc:TypeId×Value->H} {W:World}
theorem Zrr {cs:List Value}{x:DataW H×List MemPlace} (h:DataW.trod enc prog W 0 (fun _=>true) true fuel 143 cs=some x) :
 ∃ (m:Tm),cs=[.string m.nm,.string m.ov]/\ZeZ m:=by
 obtain⟨xs,n,_,_,hl,hlen,hfld⟩:=DataW.trod_struct underlying143 h;obtain⟨c0,c1,rfl⟩:=ZsH (hl.trans Tryz.cells143);simp only [Array.size,List.length_cons,List.length_nil] at hlen;have g0:DataW.trod enc prog W 0 (fun _=>true) true n 9 ((([c0,c1]:List Value).drop 0).take (prog.cellsOf 9))=xs[0]?:=hfld 0 _ rfl;have g1:DataW.trod enc prog W 0 (fun _=>true) true n 9 ((([c0,c1]:List Value).drop 1).take (prog.cellsOf 9))=xs[1]?:=hfld 1 _ rfl;simp only [Tryz.cells9,List.drop_succ_cons,List.drop_zero,List.take_succ_cons,List.take_zero] at g0 g1;rw [List.getElem?_eq_getElem (by omega)] at g0 g1;obtain⟨k,e0,_,s0⟩:=DataW.trod_string underlying9 g0;obtain⟨f,e1,_,s1⟩:=DataW.trod_string underlying9 g1;simp only [List.cons.injEq,and_true] at e0 e1;subst e0 e1;exact⟨⟨k,f⟩,rfl,⟨s0,s1⟩⟩
theorem Zqo {c:Value}{x:DataW H×List MemPlace} (h:DataW.trod enc prog W 0 (fun _=>true) true fuel 24 [c]=some x):∃ Ts,Zbn 0 W c Ts:=by
 rcases open_slice underlying24 h with ⟨hcs,_⟩ | ⟨a,len,cap,m,n,D,Pl,hcs,_,hl,hm,hmm,_,hx⟩
 . simp only [List.cons.injEq,and_true] at hcs
   exact⟨[],Or.inl ⟨_,_,hcs,rfl⟩⟩
 . simp only [List.cons.injEq,and_true] at hcs
   simp only [if_true] at hmm;subst hmm;rw [Tryz.cells143] at hx
   by_cases h0:len=0
   . subst h0
     exact⟨[],Or.inl ⟨_,_,hcs,rfl⟩⟩
   . obtain⟨Ts,hF,hall⟩:=ZbO (p:=fun i (m:Tm)=>ZeZ m/\W.cells? 0 (a.add (i*2)) 2=some [.string m.nm,.string m.ov]) len (fun i hi=>by
      obtain⟨cs',h1,h2⟩:=hx i (by omega);obtain⟨md,e,hz⟩:=Zrr h2;rw [e] at h1;exact⟨md,hz,h1⟩)
     obtain⟨b,off,spot⟩:=a
     have hspot:spot=none:=by
      obtain⟨_,h1⟩:=hall 0 (by omega);have:=(World.cells?_some h1).2.2 0 (by omega);rw [Nat.zero_mul] at this;have e0:((⟨b,off,spot⟩:Addr).add 0).add 0=⟨b,off,spot⟩:=by simp [Addr.add]
      rw [e0] at this
      simpa using World.cell?_spot (by simpa using this)
     subst hspot
     have hcell:∀ i (hi:i < Ts.length),W.cells? 0 ((⟨b,off,none⟩:Addr).add (i*2)) 2=some [.string Ts[i].nm,.string Ts[i].ov]->Zd6 W b (off+i*2) Ts[i]:=fun i hi h1=>by
      obtain⟨_,_,hc⟩:=World.cells?_some h1;rw [add_plain] at hc;have q:=fun j (hj:j < 2)=>(add_plain b (off+i*2) j) ▸ hc j hj
      exact⟨by simpa using q 0 (by omega),by simpa using q 1 (by omega)⟩
     have hbw:b < W.heap.size:=by
      obtain⟨_,h1⟩:=hall 0 (by omega);exact World.block_lt_of_cell? W _ (hcell 0 (by omega) h1).c0
     refine⟨Ts,Or.inr ⟨b,off,m,by rw [hcs,hF],?_,by omega,hbw,Nat.zero_le _,by omega,fun i hi=>?_⟩⟩
     . intro e;rw [e] at hF;simp at hF;omega
     . obtain⟨hz,h1⟩:=hall i hi
       exact⟨hz,hcell i hi h1⟩
end
end Go.Proofs.YtfohnageehneoaaGreat
