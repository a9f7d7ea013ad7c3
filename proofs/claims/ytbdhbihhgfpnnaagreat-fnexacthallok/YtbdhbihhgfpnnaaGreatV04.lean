import Derived.Test.YtbdhbihhgfpnnaaGreatV02
import Derived.Deep.OwnRows
import Derived.Deep.RegionWith
set_option maxHeartbeats 16000000
set_option maxRecDepth 100000
open Go.Proofs.Tryz
namespace Go.Proofs.YtbdhbihhgfpnnaaGreat
open Go.RowKit Go.Deep
theorem ZdY (w:World) (b o o':Nat) (u:Value) (h:o≠o'):(w.setCell ⟨b,o,none⟩ u).cell? ⟨b,o',none⟩=w.cell? ⟨b,o',none⟩:=by
 rw [ZcR _ _ _ _ (by simp only [ne_eq,Addr.mk.injEq,not_and];intro _ e;exact absurd e h)]
theorem ZiC {a b:Zy_} (h:a=b):Ending.returned (.string a)=.returned (.string b):=by rw [h]
theorem Zel {n k:Nat}{p:Nat->Bool} (hk:k < n) (h:(List.range n).all p=true):p k=true:=by
 rw [List.all_eq_true] at h;exact h k (List.mem_range.2 hk)
variable {k lo B:Nat} {w w' wr w1:World} {v:Value}
structure Tm where
 nm:Zy_
 ov:Zy_
variable {Ts:List Tm}
def plT (Ts:List Tm) (s:Zy_):Nat:=Ts.findIdx fun t=>t.nm.toList == s.toList
theorem Zp0 {s:Zy_} (hk:k < Ts.length) (h:(Ts[k].nm.toList == s.toList)=true) (hall:∀ i (h:i < Ts.length),i < k->(Ts[i].nm.toList == s.toList)=false):plT Ts s=k:=by
 unfold plT;rw [List.findIdx_eq hk];exact⟨h,fun j hj=>hall j (by omega) hj⟩
theorem Zp1 {s:Zy_} (hall:∀ i (h:i < Ts.length),(Ts[i].nm.toList == s.toList)=false):plT Ts s=Ts.length:=by
 unfold plT;rw [List.findIdx_eq_length];intro x hx;obtain⟨i,hi,rfl⟩:=List.getElem_of_mem hx;exact hall i hi
theorem Zrq {s:Zy_} (h:plT Ts s < Ts.length):(Ts[plT Ts s].nm.toList == s.toList)=true:=by
 unfold plT at h |-;exact List.findIdx_getElem (w:=h)
def Zda (Ts:List Tm) (s:Zy_):Int:=if plT Ts s < Ts.length then (plT Ts s:Int) else -1
theorem Zmi {s:Zy_} (hk:k < Ts.length) (h:(Ts[k].nm.toList == s.toList)=true) (hall:∀ i (h:i < Ts.length),i < k->(Ts[i].nm.toList == s.toList)=false):Zda Ts s=k:=by
 unfold Zda;rw [Zp0 hk h hall,if_pos hk]
theorem Zn0 {s:Zy_} (hall:∀ i (h:i < Ts.length),(Ts[i].nm.toList == s.toList)=false):Zda Ts s= -1:=by
 unfold Zda;rw [Zp1 hall,if_neg (Nat.lt_irrefl _)]
theorem ZgO {s:Zy_} (h:plT Ts s < Ts.length):Zda Ts s=plT Ts s:=if_pos h
theorem ZgN {s:Zy_} (h:¬ plT Ts s < Ts.length):Zda Ts s= -1:=if_neg h
def ovB (Ts:List Tm) (s:Zy_):Zy_:=match Ts[plT Ts s]? with
 | some t=>t.ov
 | none=>⟨#[]⟩
theorem Zsg {s:Zy_} (h:plT Ts s < Ts.length):ovB Ts s=Ts[plT Ts s].ov:=by
 unfold ovB;rw [List.getElem?_eq_getElem h]
theorem ZpZ {s:Zy_} (h:¬ plT Ts s < Ts.length):ovB Ts s=⟨#[]⟩:=by
 unfold ovB;rw [List.getElem?_eq_none (by omega)]
theorem Zsf {s:Zy_} (hk:k < Ts.length) (h:(Ts[k].nm.toList == s.toList)=true) (hall:∀ i (h:i < Ts.length),i < k->(Ts[i].nm.toList == s.toList)=false):ovB Ts s=Ts[k].ov:=by
 have e:=Zp0 hk h hall;unfold ovB;rw [e,List.getElem?_eq_getElem hk]
theorem Zsh {s:Zy_} (hall:∀ i (h:i < Ts.length),(Ts[i].nm.toList == s.toList)=false):ovB Ts s=⟨#[]⟩:=ZpZ (by rw [Zp1 hall];omega)
def ZeE (Ts:List Tm) (b:Zy_):Nat->Zy_->Bool
 | 0,_=>false
 | n+1,a=>if (ovB Ts a).toList.isEmpty then false else if (ovB Ts a).toList == b.toList then true else ZeE Ts b n (ovB Ts a)
def Zbe (Ts:List Tm) (a b:Zy_):Bool:=(a.toList == b.toList) || ZeE Ts b 4 a
def ZaV (Ts:List Tm):Nat->Zy_->Bool
 | 0,_=>true
 | n+1,a=>if (ovB Ts a).toList.isEmpty then false else ZaV Ts n (ovB Ts a)
def Zfp (Ts:List Tm) (s:Zy_):Bool:=Ts.any fun t=>t.nm.toList == s.toList
theorem Zjm {s:Zy_} (h:k < Ts.length) (hp:(Ts[k].nm.toList == s.toList)=true):Zfp Ts s=true:=by
 unfold Zfp;rw [List.any_eq_true];exact⟨Ts[k],List.getElem_mem h,hp⟩
theorem ZnG {s:Zy_} (hall:∀ i (h:i < Ts.length),(Ts[i].nm.toList == s.toList)=false):Zfp Ts s=false:=by
 unfold Zfp;rw [List.any_eq_false];intro x hx;obtain⟨i,hi,rfl⟩:=List.getElem_of_mem hx;simp [hall i hi]
theorem Zgy (Ts:List Tm) (s:Zy_):Zfp Ts s=decide (plT Ts s < Ts.length):=by
 by_cases h:plT Ts s < Ts.length
 . rw [decide_eq_true h]
   exact Zjm h (Zrq h)
 . rw [decide_eq_false h]
   refine ZnG fun i hi=>?_
   have:=List.not_of_lt_findIdx (p:=fun t:Tm=>t.nm.toList == s.toList) (xs:=Ts) (i:=i) (by show i < plT Ts s;omega)
   simpa using this
def Zc3 (Ts:List Tm) (i:Nat):Bool:=match Ts[i]? with
 | none=>false
 | some t=>Zan t.nm&&(i == 0 || Op.bytesLess ((Ts[i - 1]?.map Tm.nm).getD ⟨#[]⟩).toList t.nm.toList)&&(t.ov.toList.isEmpty || Zfp Ts t.ov)&&!ZaV Ts 5 t.nm
def Za5 (Ts:List Tm):Bool:=decide (Ts.length<=12)&&(List.range Ts.length).all (Zc3 Ts)
theorem ZaD {i:Nat} (h:i < Ts.length):Zc3 Ts i=(Zan Ts[i].nm&&(i == 0 || Op.bytesLess ((Ts[i - 1]?.map Tm.nm).getD ⟨#[]⟩).toList Ts[i].nm.toList)&&(Ts[i].ov.toList.isEmpty || Zfp Ts Ts[i].ov)&&!ZaV Ts 5 Ts[i].nm):=by
 unfold Zc3;rw [List.getElem?_eq_getElem h]
theorem ZiZ {j:Nat} (h:j+1 < Ts.length):((Ts[j+1 - 1]?.map Tm.nm).getD ⟨#[]⟩)=Ts[j].nm:=by
 rw [Nat.add_sub_cancel,List.getElem?_eq_getElem (by omega)];rfl
theorem ZjV (h:¬ Ts.length<=12):Za5 Ts=false:=by unfold Za5;simp [h]
theorem Zbk (hk:k < Ts.length) (h:Zc3 Ts k=false):Za5 Ts=false:=by
 unfold Za5;rw [ZaC hk h];simp
theorem ZjW (h:Ts.length<=12) (hk:Ts.length<=k) (hall:∀ i,i < k->Zc3 Ts i=true):Za5 Ts=true:=by
 unfold Za5;rw [ZaH (fun i hi=>hall i (by omega))];simp [h]
structure ZdW (w:World) (b o:Nat) (t:Tm):Prop where
 c0:w.cell? ⟨b,o,none⟩=some (.string t.nm)
 c1:w.cell? ⟨b,o+1,none⟩=some (.string t.ov)
structure ZdX (t:Tm):Prop where
 s0:t.nm.size<=maxLen
 s1:t.ov.size<=maxLen
theorem ZdW.below {b o:Nat}{t:Tm} (h:ZdW w b o t) (hb:Zw_ w w') (hlt:b < w.heap.size):ZdW w' b o t:=by
 have e:∀ o,w'.cell? ⟨b,o,none⟩=w.cell? ⟨b,o,none⟩:=fun o=>hb.cell (p:=⟨b,o,none⟩) hlt
 exact⟨by rw [e];exact h.c0,by rw [e];exact h.c1⟩
def ZaZ (lo:Nat) (w:World) (v:Value) (Ts:List Tm):Prop:=
 (∃ (a:Option Addr) (cap:Nat),v=.slice a 0 cap/\Ts=[])\/
 ∃ (b off cap:Nat),v=.slice (some ⟨b,off,none⟩) Ts.length cap/\Ts≠[]/\Ts.length<=maxLen/\b < w.heap.size/\lo<=b/\Ts.length<=cap/\
  ∀ i (h:i < Ts.length),ZdX Ts[i]/\ZdW w b (off+i*2) Ts[i]
theorem ZaZ.below (h:ZaZ lo w v Ts) (hb:Zw_ w w'):ZaZ lo w' v Ts:=by
 rcases h with h | ⟨b,off,cap,h1,h2,h3,h4,h5,h6,h7⟩
 . exact Or.inl h
 . refine Or.inr ⟨b,off,cap,h1,h2,h3,Zk_ h4 hb.size,h5,h6,fun i hi=>?_⟩
   obtain⟨hs,hc⟩:=h7 i hi;exact⟨hs,hc.below hb h4⟩
theorem ZaZ.mono {lo':Nat} (h:ZaZ lo w v Ts) (hl:lo'<=lo):ZaZ lo' w v Ts:=by
 rcases h with h | ⟨b,off,cap,h1,h2,h3,h4,h5,h6,h7⟩
 . exact Or.inl h
 . exact Or.inr ⟨b,off,cap,h1,h2,h3,h4,Nat.le_trans hl h5,h6,h7⟩
theorem ZaZ.form (h:ZaZ lo w v Ts):∃ a cap,v=.slice a Ts.length cap:=by
 rcases h with ⟨a,cap,h,rfl⟩ | ⟨b,off,cap,h,_⟩
 . exact⟨a,cap,h⟩
 . exact⟨_,cap,h⟩
theorem ZaZ.max (h:ZaZ lo w v Ts):Ts.length<=maxLen:=by
 rcases h with ⟨a,cap,h,rfl⟩ | ⟨b,off,cap,h,_,h3,_⟩
 . exact Nat.zero_le _
 . exact h3
theorem ZaZ.full (h:ZaZ lo w v Ts) (hne:Ts≠[]):∃ (b off cap:Nat),v=.slice (some ⟨b,off,none⟩) Ts.length cap/\Ts.length<=maxLen/\b < w.heap.size/\Ts.length<=cap/\
 ∀ i (h:i < Ts.length),ZdX Ts[i]/\ZdW w b (off+i*2) Ts[i]:=by
 rcases h with ⟨_,_,_,h⟩ | ⟨b,off,cap,h1,_,h3,h4,_,h6,h7⟩
 . exact absurd h hne
 . exact⟨b,off,cap,h1,h3,h4,h6,h7⟩
theorem ZaZ.full' {a:Option Addr}{n cap:Nat} (h:ZaZ lo w (.slice a n cap) Ts) (hL:0 < Ts.length) :
 ∃ b off,a=some ⟨b,off,none⟩/\b < w.heap.size/\∀ i (h:i < Ts.length),ZdX Ts[i]/\ZdW w b (off+i*2) Ts[i]:=by
 rcases h with ⟨a',cap',h,rfl⟩ | ⟨b',off',cap',h1,h2,h3,h4,h5,h6,h7⟩
 . simp at hL
 . injection h1 with e1 e2 e3
   exact⟨b',off',e1,h4,h7⟩
theorem ZaZ.setCell (h:ZaZ lo w v Ts) {p:Addr} (hp:p.block < lo) (u:Value):ZaZ lo (w.setCell p u) v Ts:=by
 rcases h with h | ⟨b,off,cap,h1,h2,h3,h4,h5,h6,h7⟩
 . exact Or.inl h
 . refine Or.inr ⟨b,off,cap,h1,h2,h3,by simpa [World.setCell] using h4,h5,h6,fun i hi=>?_⟩
   obtain⟨hs,hc⟩:=h7 i hi;have e:∀ o,(w.setCell p u).cell? ⟨b,o,none⟩=w.cell? ⟨b,o,none⟩:=fun o=>ZaA _ _ _ _ (by show b≠p.block;omega)
   exact⟨hs,by rw [e];exact hc.c0,by rw [e];exact hc.c1⟩
theorem ZmE (k f:Zy_) (left:Int) (w:World) (h0:0<=left) (h1:left<=1048576)
 (s0:k.size<=maxLen) (s1:f.size<=maxLen) :
 Calls prog 34 #[.agg #[.string k,.string f],.int .i64 left] w
  fun e w'=>∃ r:Int,e=.returned (.int .i64 r)/\Zw_ w w'/\-1<=r/\r<=left:=by
 unfold maxLen at s0 s1;have HW:∀ o,Hd (Zw_ w (w.alloc o)):=fun o=>Zb_.alloc Zl_ _
 go_enter func34,ntmps34;go_wp2
 all_goals go_ret
 all_goals exact⟨_,rfl,(HW _).o,by omega,by omega⟩
theorem Zoo (lo:Nat) (v:Value) (Ts:List Tm) (left:Int) (w:World) (h0:0<=left) (h1:left<=1048576) (hv:ZaZ lo w v Ts) :
 Calls prog 12 #[v,.int .i64 left] w fun e w'=>∃ r:Int,e=.returned (.int .i64 r)/\Zw_ w w'/\Zss Ts.length left r:=by
 rcases hv with ⟨a,cap,rfl,rfl⟩ | ⟨b,off,cap,rfl,hne,hm,hbw,_,_,hc⟩
 . go_enter func12,ntmps12
   go_wp2
   go_loop [1,5] (fun l i=>∃ r:Int,l=.int .i64 r/\0<=r/\r<=left/\i=.int .i64 0) (fun _ _=>0)
   case atStart=>exact⟨_,rfl,by omega,by omega,rfl⟩
   case round=>
    obtain⟨r,rfl,hr0,hr1,rfl⟩:=hrel;go_wp2;go_ret;exact⟨r,rfl,Below.refl _ _,by omega,by omega,fun _=>by simp;omega⟩
 . unfold maxLen at hm
   by_cases hle:(Ts.length:Int)<=left
   . go_enter func12,ntmps12
     go_wp2
     go_loopw [1,5] (fun l i wr=>∃ (r:Int) (k:Nat),l=.int .i64 r/\0<=r/\r<=left/\i=.int .i64 k/\k<=Ts.length/\Zw_ w wr) (fun _ i _=>Ts.length - (intOf i).toNat)
     case atStart=>exact⟨_,0,rfl,by omega,by omega,rfl,by omega,Below.refl _ _⟩
     case round=>
      obtain⟨r,k,rfl,hr0,hr1,rfl,hk,hb⟩:=hrel
      by_cases hlt:k < Ts.length
      . obtain⟨hsz,hcell⟩:=hc k hlt
        obtain⟨c0,c1⟩:=hcell.below hb hbw;go_wp2_with fail;refine (ZmE _ _ _ _ hr0 (by omega) hsz.s0 hsz.s1).mono ?_;rintro e w1 ⟨r1,rfl,hb1,q0,q1⟩;have hB:Hd (Zw_ w w1):=hb.trans (hb1.mono hb.size);clear hb1 c0 c1 hb;go_wp2
        all_goals first
         | (go_roundw
            . exact⟨_,k+1,rfl,by omega,by omega,by go_num,by omega,hB.o⟩
            . simp [intOf];omega)
         | (go_ret
            exact⟨-1,rfl,hB.o,by omega,by omega,fun h=>by omega⟩)
      . go_wp2
        go_ret;exact⟨r,rfl,hb,by omega,by omega,fun _=>hle⟩
   . go_enter func12,ntmps12
     go_wp2;go_ret;exact⟨-1,rfl,Below.refl _ _,by omega,by omega,fun h=>by omega⟩
theorem ZmK (k f:Zy_) (w:World) :
 Calls prog 59 #[.agg #[.string k,.string f]] w
  fun e w'=>e=.returned (.agg #[.string k,.string f])/\Zw_ w w':=by
 go_enter func59,ntmps59;go_wp2;refine bodyPost_ret (v:=.agg #[.string k,.string f]) (by simp [results,results59,go_sem]) rfl ⟨rfl,?_⟩
 repeat (refine Below.setCell ?_ (by simp only [];omega) _)
 exact ((Zb_.alloc Zl_ _).alloc (by simp) _).alloc (by simp;omega) _
theorem Zkk (k f:Zy_) (w:World) :
 Calls prog 80 #[.agg #[.string k,.string f],.agg #[.string k,.string f]] w
  fun e w'=>e=.returned (.bool true)/\Zw_ w w':=by
 go_enter func80,ntmps80;go_wp2;go_ret;exact⟨rfl,(Zb_.alloc Zl_ _).alloc (by simp) _⟩
theorem ZlT (lo lo':Nat) (v v':Value) (Ts:List Tm) (w:World) (hv:ZaZ lo w v Ts) (hv':ZaZ lo' w v' Ts) :
 Calls prog 30 #[v,v'] w fun e w'=>e=.returned (.bool true)/\Zw_ w w':=by
 by_cases hL:Ts=[]
 . subst hL
   obtain⟨a,cap,rfl⟩:=hv.form;obtain⟨a',cap',rfl⟩:=hv'.form;clear hv hv';go_enter func30,ntmps30;go_wp2
   go_loop [5] (fun i=>i=.int .i64 0) (fun _=>0)
   case atStart=>rfl
   case round=>
    subst hrel;go_wp2;go_ret;exact⟨rfl,Below.refl _ _⟩
 . obtain⟨b,off,cap,rfl,hm,hbw,_,hc⟩:=hv.full hL
   obtain⟨b',off',cap',rfl,_,hbw',_,hc'⟩:=hv'.full hL;clear hv hv';unfold maxLen at hm;go_enter func30,ntmps30;go_wp2
   go_loopw [5] (fun i wr=>∃ k:Nat,i=.int .i64 k/\k<=Ts.length/\Zw_ w wr) (fun i _=>Ts.length - (intOf i).toNat)
   case atStart=>exact⟨0,rfl,by omega,Below.refl _ _⟩
   case round=>
    obtain⟨k,rfl,hk,hb⟩:=hrel
    by_cases hlt:k < Ts.length
    . obtain⟨_,hcell⟩:=hc k hlt
      obtain⟨_,hcell'⟩:=hc' k hlt;obtain⟨c0,c1⟩:=hcell.below hb hbw;obtain⟨d0,d1⟩:=hcell'.below hb hbw';clear hcell hcell';have HB:=Zab hb;clear hb;go_wp2
      go_region_with (go_at_call 80;refine (Zkk _ _ _).mono ?_;rintro e w1 ⟨rfl,hb1⟩;have hB:Hd (Zw_ w w1):=(HB.o.drew).trans (hb1.mono HB.o.size);clear hb1)
      all_goals go_wp2
      all_goals go_roundw
      all_goals first
       | (case rel=>exact⟨k+1,by go_num,by omega,hB.o⟩)
       | (case measure=>simp [intOf];omega)
    . go_wp2
      go_ret;exact⟨rfl,hb⟩
theorem Tryz.info130:(prog.info? 130).map (fun i=>(i.zero,i.size,i.bytes))=some (some (.agg #[.string ⟨#[]⟩,.string ⟨#[]⟩]),2,32):=by kernel_rfl
def ZbV (wr:World) (B:Nat) (Ts:List Tm) (k:Nat):Prop:=
 ∃ f,wr.rowIs B 130 (Ts.length*2) f/\∀ i (h:i < Ts.length),i < k->ZdX Ts[i]/\f (i*2)=.string Ts[i].nm/\f (i*2+1)=.string Ts[i].ov
theorem ZbV.below (h:ZbV wr B Ts k) (hb:Below wr.heap.size wr w1):ZbV w1 B Ts k:=by
 obtain⟨f,hr,hall⟩:=h;exact⟨f,hr.of_block (hb.block B hr.lt),hall⟩
theorem ZbV.free (h:ZbV wr B Ts k) (i:Nat):wr.frozen? ⟨B,i,none⟩=false:=by
 obtain⟨f,hr,_⟩:=h;exact hr.frozen i
theorem ZbV.there (h:ZbV wr B Ts k) (i:Nat) (hi:i < Ts.length*2):∃ v,wr.cell? ⟨B,i,none⟩=some v:=by
 obtain⟨f,hr,_⟩:=h;exact⟨_,hr.cell hi⟩
theorem ZbV.step (h:ZbV w1 B Ts k) (hk:k < Ts.length) (hz:ZdX Ts[k]) :
 ZbV ((w1.setCell ⟨B,k*2,none⟩ (.string Ts[k].nm)).setCell ⟨B,k*2+1,none⟩ (.string Ts[k].ov)) B Ts (k+1):=by
 obtain⟨f,hr,hall⟩:=h;refine⟨_,((hr.set _ _).set _ _),fun i hi hik=>?_⟩
 by_cases e:i=k
 . subst e
   exact⟨hz,by simp,by simp⟩
 . obtain⟨hz',h0,h1⟩:=hall i hi (by omega)
   refine⟨hz',?_,?_⟩
   . rw [if_neg (by omega),if_neg (by omega)];exact h0
   . rw [if_neg (by omega),if_neg (by omega)];exact h1
theorem ZbV.done (h:ZbV wr B Ts k) (hk:Ts.length<=k) (hne:Ts≠[]) (hm:Ts.length<=maxLen):ZaZ B wr (.slice (some ⟨B,0,none⟩) Ts.length Ts.length) Ts:=by
 obtain⟨f,hr,hall⟩:=h;refine Or.inr ⟨B,0,Ts.length,rfl,hne,hm,hr.lt,Nat.le_refl _,Nat.le_refl _,fun i hi=>?_⟩;obtain⟨hz,h0,h1⟩:=hall i hi (by omega);rw [Nat.zero_add];exact⟨hz,by rw [hr.cell (by omega),h0],by rw [hr.cell (by omega),h1]⟩
theorem ZbV.new (w:World) (Ts:List Tm) (z:Array Value):ZbV (w.alloc (.cells (madeCells z (Ts.length*2)) 130)) w.heap.size Ts 0:=by
 refine⟨fun i=>(madeCells z (Ts.length*2)).getD i default,?_,fun i _ h=>by omega⟩;have:=World.rowIs_alloc w (madeCells z (Ts.length*2)) 130 (fun i=>(madeCells z (Ts.length*2)).getD i default) (fun i hi=>by simp [Array.getD,hi])
 rwa [size_madeCells] at this
theorem ZoE (lo:Nat) (v:Value) (Ts:List Tm) (w:World) (hv:ZaZ lo w v Ts) (hn:Ts.length<=1048576) :
 Calls prog 21 #[v] w fun e w'=>∃ v',e=.returned v'/\Zw_ w w'/\ZaZ w.heap.size w' v' Ts:=by
 obtain⟨i0,hi,hz0,hz1,hz2⟩:=info_parts Tryz.info130
 by_cases hL:Ts=[]
 . subst hL
   obtain⟨a,cap,rfl⟩:=hv.form;clear hv
   have hmk:∀ u:World,(Instr.makeSlice 41 (.int .i64 0) (.int .i64 0)).run prog u=.ok (.slice (some ⟨u.heap.size,0,none⟩) 0 0) (u.alloc (.cells (madeCells (Value.cells (.agg #[.string ⟨#[]⟩,.string ⟨#[]⟩])) 0) 130)):=fun u=>by
    have h:=run_make (P:=prog) u 41 130 i0 _ underlying41 hi hz0 .i64 .i64 0 0 (by omega) (by omega) (by omega) (by omega)
    simpa [hz1] using h
   go_enter func21,ntmps21;go_wp2
   go_loop [4] (fun i=>i=.int .i64 0) (fun _=>0)
   case atStart=>rfl
   case round=>
    subst hrel;go_wp2;go_ret;exact⟨_,rfl,Zb_.alloc Zl_ _,Or.inl ⟨_,_,rfl,rfl⟩⟩
 . obtain⟨b,off,cap,rfl,hm,hbw,_,hc⟩:=hv.full hL
   clear hv;have HM:Hd (Ts.length<=maxLen):=hm;unfold maxLen at hm
   have hmk:∀ u:World,(Instr.makeSlice 41 (.int .i64 (Ts.length:Int)) (.int .i64 (Ts.length:Int))).run prog u=.ok (.slice (some ⟨u.heap.size,0,none⟩) Ts.length Ts.length) (u.alloc (.cells (madeCells (Value.cells (.agg #[.string ⟨#[]⟩,.string ⟨#[]⟩])) (Ts.length*2)) 130)):=fun u=>by
    have h:=run_make (P:=prog) u 41 130 i0 _ underlying41 hi hz0 .i64 .i64 Ts.length Ts.length (by omega) (by omega) (by rw [hz2];omega) (by omega);rw [hz1] at h
    simpa using h
   clear hi hz0 hz1 hz2;go_enter func21,ntmps21;go_wp2;clear hmk
   go_loopw [4] (fun i wr=>∃ k:Nat,i=.int .i64 k/\k<=Ts.length/\Zw_ w wr/\ZbV wr w.heap.size Ts k) (fun i _=>Ts.length - (intOf i).toNat)
   case atStart=>exact⟨0,rfl,by omega,Zb_.alloc Zl_ _,ZbV.new w Ts _⟩
   case round=>
    obtain⟨k,rfl,hk,hb,hf⟩:=hrel
    by_cases hlt:k < Ts.length
    . obtain⟨hsz,hcell⟩:=hc k hlt
      obtain⟨c0,c1⟩:=hcell.below hb hbw;clear hcell;go_wp2_with fail;refine (ZmK _ _ _).mono ?_;rintro e w1 ⟨rfl,hb1⟩;have hf1:=hf.below hb1;have HST:=Zab (hf1.step hlt hsz);have hB:Hd (Zw_ w w1):=hb.trans (hb1.mono hb.size);have hfr:=hf1.free;obtain⟨o0,ho0⟩:=hf1.there (k*2) (by omega);obtain⟨o1,ho1⟩:=hf1.there (k*2+1) (by omega);clear hf hf1 hb1 hb c0 c1;go_wp2;go_roundw
      . 
       exact⟨k+1,by go_num,by omega,(hB.o.setCell Zl_ _).setCell Zl_ _,HST.o⟩
      . simp [intOf];omega
    . go_wp2
      go_ret;exact⟨_,rfl,hb,hf.done (by omega) hL HM.o⟩
end Go.Proofs.YtbdhbihhgfpnnaaGreat
