import Derived.Test.YtmappejlmapboaaGreatG10
import Derived.Deep.OwnRows
import Derived.Deep.RegionWith
import Derived.ProofKit
import Derived.Deep.Strs
import Derived.Deep.RegionHeld
set_option maxHeartbeats 16000000
set_option maxRecDepth 100000
open Go.Proofs.Tryz
namespace Go.Proofs.YtmappejlmapboaaGreat
section
open Go.RowKit Go.Deep
theorem Zjw {a b:Zy_} (h:a=b):Ending.returned (.string a)=.returned (.string b):=by rw [h]
theorem ZgZ {n k:Nat}{p:Nat->Bool} (hk:k < n) (h:(List.range n).all p=true):p k=true:=by
 rw [List.all_eq_true] at h;exact h k (List.mem_range.2 hk)
end
section
open Go.RowKit Go.Deep
variable {k lo B:Nat} {w w' wr w1:World} {v:Value}
structure Tm where
 nm:Zy_
 ov:Zy_
variable {Ts:List Tm}
def plT (Ts:List Tm) (s:Zy_):Nat:=Ts.findIdx fun t=>t.nm.toList == s.toList
theorem ZrL {s:Zy_} (hk:k < Ts.length) (h:(Ts[k].nm.toList == s.toList)=true) (hall:∀ i (h:i < Ts.length),i < k->(Ts[i].nm.toList == s.toList)=false):plT Ts s=k:=by
 unfold plT;rw [List.findIdx_eq hk];exact⟨h,fun j hj=>hall j (by omega) hj⟩
theorem ZrM {s:Zy_} (hall:∀ i (h:i < Ts.length),(Ts[i].nm.toList == s.toList)=false):plT Ts s=Ts.length:=by
 unfold plT;rw [List.findIdx_eq_length];intro x hx;obtain⟨i,hi,rfl⟩:=List.getElem_of_mem hx;exact hall i hi
theorem ZsB {s:Zy_} (h:plT Ts s < Ts.length):(Ts[plT Ts s].nm.toList == s.toList)=true:=by
 unfold plT at h |-;exact List.findIdx_getElem (w:=h)
def Zdr (Ts:List Tm) (s:Zy_):Int:=if plT Ts s < Ts.length then (plT Ts s:Int) else -1
theorem Zny {s:Zy_} (hk:k < Ts.length) (h:(Ts[k].nm.toList == s.toList)=true) (hall:∀ i (h:i < Ts.length),i < k->(Ts[i].nm.toList == s.toList)=false):Zdr Ts s=k:=by
 unfold Zdr;rw [ZrL hk h hall,if_pos hk]
theorem ZpR {s:Zy_} (hall:∀ i (h:i < Ts.length),(Ts[i].nm.toList == s.toList)=false):Zdr Ts s= -1:=by
 unfold Zdr;rw [ZrM hall,if_neg (Nat.lt_irrefl _)]
theorem ZhD {s:Zy_} (h:plT Ts s < Ts.length):Zdr Ts s=plT Ts s:=if_pos h
theorem ZhC {s:Zy_} (h:¬ plT Ts s < Ts.length):Zdr Ts s= -1:=if_neg h
def ovB (Ts:List Tm) (s:Zy_):Zy_:=match Ts[plT Ts s]? with
 | some t=>t.ov
 | none=>⟨#[]⟩
theorem Zte {s:Zy_} (h:plT Ts s < Ts.length):ovB Ts s=Ts[plT Ts s].ov:=by
 unfold ovB;rw [List.getElem?_eq_getElem h]
theorem ZrK {s:Zy_} (h:¬ plT Ts s < Ts.length):ovB Ts s=⟨#[]⟩:=by
 unfold ovB;rw [List.getElem?_eq_none (by omega)]
theorem Ztd {s:Zy_} (hk:k < Ts.length) (h:(Ts[k].nm.toList == s.toList)=true) (hall:∀ i (h:i < Ts.length),i < k->(Ts[i].nm.toList == s.toList)=false):ovB Ts s=Ts[k].ov:=by
 have e:=ZrL hk h hall;unfold ovB;rw [e,List.getElem?_eq_getElem hk]
theorem Ztf {s:Zy_} (hall:∀ i (h:i < Ts.length),(Ts[i].nm.toList == s.toList)=false):ovB Ts s=⟨#[]⟩:=ZrK (by rw [ZrM hall];omega)
def Zfh (Ts:List Tm) (b:Zy_):Nat->Zy_->Bool
 | 0,_=>false
 | n+1,a=>if (ovB Ts a).toList.isEmpty then false else if (ovB Ts a).toList == b.toList then true else Zfh Ts b n (ovB Ts a)
def Zbb (Ts:List Tm) (a b:Zy_):Bool:=(a.toList == b.toList) || Zfh Ts b 4 a
def ZaS (Ts:List Tm):Nat->Zy_->Bool
 | 0,_=>true
 | n+1,a=>if (ovB Ts a).toList.isEmpty then false else ZaS Ts n (ovB Ts a)
def Zgf (Ts:List Tm) (s:Zy_):Bool:=Ts.any fun t=>t.nm.toList == s.toList
theorem Zkf {s:Zy_} (h:k < Ts.length) (hp:(Ts[k].nm.toList == s.toList)=true):Zgf Ts s=true:=by
 unfold Zgf;rw [List.any_eq_true];exact⟨Ts[k],List.getElem_mem h,hp⟩
theorem Zpp {s:Zy_} (hall:∀ i (h:i < Ts.length),(Ts[i].nm.toList == s.toList)=false):Zgf Ts s=false:=by
 unfold Zgf;rw [List.any_eq_false];intro x hx;obtain⟨i,hi,rfl⟩:=List.getElem_of_mem hx;simp [hall i hi]
theorem Zhm (Ts:List Tm) (s:Zy_):Zgf Ts s=decide (plT Ts s < Ts.length):=by
 by_cases h:plT Ts s < Ts.length
 . rw [decide_eq_true h]
   exact Zkf h (ZsB h)
 . rw [decide_eq_false h]
   refine Zpp fun i hi=>?_
   have:=List.not_of_lt_findIdx (p:=fun t:Tm=>t.nm.toList == s.toList) (xs:=Ts) (i:=i) (by show i < plT Ts s;omega)
   simpa using this
def Zdi (Ts:List Tm) (i:Nat):Bool:=match Ts[i]? with
 | none=>false
 | some t=>Zap t.nm&&(i == 0 || Op.bytesLess ((Ts[i - 1]?.map Tm.nm).getD ⟨#[]⟩).toList t.nm.toList)&&(t.ov.toList.isEmpty || Zgf Ts t.ov)&&!ZaS Ts 5 t.nm
def Zbr (Ts:List Tm):Bool:=decide (Ts.length<=12)&&(List.range Ts.length).all (Zdi Ts)
theorem Zaz {i:Nat} (h:i < Ts.length):Zdi Ts i=(Zap Ts[i].nm&&(i == 0 || Op.bytesLess ((Ts[i - 1]?.map Tm.nm).getD ⟨#[]⟩).toList Ts[i].nm.toList)&&(Ts[i].ov.toList.isEmpty || Zgf Ts Ts[i].ov)&&!ZaS Ts 5 Ts[i].nm):=by
 unfold Zdi;rw [List.getElem?_eq_getElem h]
theorem ZjU {j:Nat} (h:j+1 < Ts.length):((Ts[j+1 - 1]?.map Tm.nm).getD ⟨#[]⟩)=Ts[j].nm:=by
 rw [Nat.add_sub_cancel,List.getElem?_eq_getElem (by omega)];rfl
theorem ZkS (h:¬ Ts.length<=12):Zbr Ts=false:=by unfold Zbr;simp [h]
theorem Zbm (hk:k < Ts.length) (h:Zdi Ts k=false):Zbr Ts=false:=by
 unfold Zbr;rw [ZaZ hk h];simp
theorem ZkT (h:Ts.length<=12) (hk:Ts.length<=k) (hall:∀ i,i < k->Zdi Ts i=true):Zbr Ts=true:=by
 unfold Zbr;rw [Za1 (fun i hi=>hall i (by omega))];simp [h]
structure ZdY (w:World) (b o:Nat) (t:Tm):Prop where
 c0:w.cell? ⟨b,o,none⟩=some (.string t.nm)
 c1:w.cell? ⟨b,o+1,none⟩=some (.string t.ov)
structure Zfb (t:Tm):Prop where
 s0:t.nm.size<=maxLen
 s1:t.ov.size<=maxLen
theorem ZdY.below {b o:Nat}{t:Tm} (h:ZdY w b o t) (hb:Zw_ w w') (hlt:b < w.heap.size):ZdY w' b o t:=by
 have e:∀ o,w'.cell? ⟨b,o,none⟩=w.cell? ⟨b,o,none⟩:=fun o=>hb.cell (p:=⟨b,o,none⟩) hlt
 exact⟨by rw [e];exact h.c0,by rw [e];exact h.c1⟩
def Zbk (lo:Nat) (w:World) (v:Value) (Ts:List Tm):Prop:=
 (∃ (a:Option Addr) (cap:Nat),v=.slice a 0 cap/\Ts=[])\/
 ∃ (b off cap:Nat),v=.slice (some ⟨b,off,none⟩) Ts.length cap/\Ts≠[]/\Ts.length<=maxLen/\b < w.heap.size/\lo<=b/\Ts.length<=cap/\
  ∀ i (h:i < Ts.length),Zfb Ts[i]/\ZdY w b (off+i*2) Ts[i]
theorem Zbk.below (h:Zbk lo w v Ts) (hb:Zw_ w w'):Zbk lo w' v Ts:=by
 rcases h with h | ⟨b,off,cap,h1,h2,h3,h4,h5,h6,h7⟩
 . exact Or.inl h
 . refine Or.inr ⟨b,off,cap,h1,h2,h3,Zk_ h4 hb.size,h5,h6,fun i hi=>?_⟩
   obtain⟨hs,hc⟩:=h7 i hi;exact⟨hs,hc.below hb h4⟩
theorem Zbk.mono {lo':Nat} (h:Zbk lo w v Ts) (hl:lo'<=lo):Zbk lo' w v Ts:=by
 rcases h with h | ⟨b,off,cap,h1,h2,h3,h4,h5,h6,h7⟩
 . exact Or.inl h
 . exact Or.inr ⟨b,off,cap,h1,h2,h3,h4,Nat.le_trans hl h5,h6,h7⟩
theorem Zbk.form (h:Zbk lo w v Ts):∃ a cap,v=.slice a Ts.length cap:=by
 rcases h with ⟨a,cap,h,rfl⟩ | ⟨b,off,cap,h,_⟩
 . exact⟨a,cap,h⟩
 . exact⟨_,cap,h⟩
theorem Zbk.max (h:Zbk lo w v Ts):Ts.length<=maxLen:=by
 rcases h with ⟨a,cap,h,rfl⟩ | ⟨b,off,cap,h,_,h3,_⟩
 . exact Nat.zero_le _
 . exact h3
theorem Zbk.full (h:Zbk lo w v Ts) (hne:Ts≠[]):∃ (b off cap:Nat),v=.slice (some ⟨b,off,none⟩) Ts.length cap/\Ts.length<=maxLen/\b < w.heap.size/\Ts.length<=cap/\
 ∀ i (h:i < Ts.length),Zfb Ts[i]/\ZdY w b (off+i*2) Ts[i]:=by
 rcases h with ⟨_,_,_,h⟩ | ⟨b,off,cap,h1,_,h3,h4,_,h6,h7⟩
 . exact absurd h hne
 . exact⟨b,off,cap,h1,h3,h4,h6,h7⟩
theorem Zbk.full' {a:Option Addr}{n cap:Nat} (h:Zbk lo w (.slice a n cap) Ts) (hL:0 < Ts.length) :
 ∃ b off,a=some ⟨b,off,none⟩/\b < w.heap.size/\∀ i (h:i < Ts.length),Zfb Ts[i]/\ZdY w b (off+i*2) Ts[i]:=by
 rcases h with ⟨a',cap',h,rfl⟩ | ⟨b',off',cap',h1,h2,h3,h4,h5,h6,h7⟩
 . simp at hL
 . injection h1 with e1 e2 e3
   exact⟨b',off',e1,h4,h7⟩
theorem Zbk.setCell (h:Zbk lo w v Ts) {p:Addr} (hp:p.block < lo) (u:Value):Zbk lo (w.setCell p u) v Ts:=by
 rcases h with h | ⟨b,off,cap,h1,h2,h3,h4,h5,h6,h7⟩
 . exact Or.inl h
 . refine Or.inr ⟨b,off,cap,h1,h2,h3,by simpa [World.setCell] using h4,h5,h6,fun i hi=>?_⟩
   obtain⟨hs,hc⟩:=h7 i hi;have e:∀ o,(w.setCell p u).cell? ⟨b,o,none⟩=w.cell? ⟨b,o,none⟩:=fun o=>Zar _ _ _ _ (by show b≠p.block;omega)
   exact⟨hs,by rw [e];exact hc.c0,by rw [e];exact hc.c1⟩
theorem ZnX (k f:Zy_) (left:Int) (w:World) (h0:0<=left) (h1:left<=1048576)
 (s0:k.size<=maxLen) (s1:f.size<=maxLen) :
 Calls prog 76 #[.agg #[.string k,.string f],.int .i64 left] w
  fun e w'=>∃ r:Int,e=.returned (.int .i64 r)/\Zw_ w w'/\-1<=r/\r<=left:=by
 unfold maxLen at s0 s1;have HW:∀ o,Hd (Zw_ w (w.alloc o)):=fun o=>Zb_.alloc Zl_ _
 go_enter func76,ntmps76;go_wp2
 all_goals go_ret
 all_goals exact⟨_,rfl,(HW _).o,by omega,by omega⟩
theorem Zqg (lo:Nat) (v:Value) (Ts:List Tm) (left:Int) (w:World) (h0:0<=left) (h1:left<=1048576) (hv:Zbk lo w v Ts) :
 Calls prog 29 #[v,.int .i64 left] w fun e w'=>∃ r:Int,e=.returned (.int .i64 r)/\Zw_ w w'/\ZsN Ts.length left r:=by
 rcases hv with ⟨a,cap,rfl,rfl⟩ | ⟨b,off,cap,rfl,hne,hm,hbw,_,_,hc⟩
 . go_enter func29,ntmps29
   go_wp2
   go_loop [1,5] (fun l i=>∃ r:Int,l=.int .i64 r/\0<=r/\r<=left/\i=.int .i64 0) (fun _ _=>0)
   case atStart=>exact⟨_,rfl,by omega,by omega,rfl⟩
   case round=>
    obtain⟨r,rfl,hr0,hr1,rfl⟩:=hrel;go_wp2;go_ret;exact⟨r,rfl,Below.refl _ _,by omega,by omega,fun _=>by simp;omega⟩
 . unfold maxLen at hm
   by_cases hle:(Ts.length:Int)<=left
   . go_enter func29,ntmps29
     go_wp2
     go_loopw [1,5] (fun l i wr=>∃ (r:Int) (k:Nat),l=.int .i64 r/\0<=r/\r<=left/\i=.int .i64 k/\k<=Ts.length/\Zw_ w wr) (fun _ i _=>Ts.length - (intOf i).toNat)
     case atStart=>exact⟨_,0,rfl,by omega,by omega,rfl,by omega,Below.refl _ _⟩
     case round=>
      obtain⟨r,k,rfl,hr0,hr1,rfl,hk,hb⟩:=hrel
      by_cases hlt:k < Ts.length
      . obtain⟨hsz,hcell⟩:=hc k hlt
        obtain⟨c0,c1⟩:=hcell.below hb hbw;go_wp2_with fail;refine (ZnX _ _ _ _ hr0 (by omega) hsz.s0 hsz.s1).mono ?_;rintro e w1 ⟨r1,rfl,hb1,q0,q1⟩;have hB:Hd (Zw_ w w1):=hb.trans (hb1.mono hb.size);clear hb1 c0 c1 hb;go_wp2
        all_goals first
         | (go_roundw
            . exact⟨_,k+1,rfl,by omega,by omega,by go_num,by omega,hB.o⟩
            . simp [intOf];omega)
         | (go_ret
            exact⟨-1,rfl,hB.o,by omega,by omega,fun h=>by omega⟩)
      . go_wp2
        go_ret;exact⟨r,rfl,hb,by omega,by omega,fun _=>hle⟩
   . go_enter func29,ntmps29
     go_wp2;go_ret;exact⟨-1,rfl,Below.refl _ _,by omega,by omega,fun h=>by omega⟩
theorem ZiT (k f:Zy_) (w:World) :
 Calls prog 88 #[.agg #[.string k,.string f]] w
  fun e w'=>e=.returned (.agg #[.string k,.string f])/\Zw_ w w':=by
 go_enter func88,ntmps88;go_wp2;refine bodyPost_ret (v:=.agg #[.string k,.string f]) (by simp [results,results88,go_sem]) rfl ⟨rfl,?_⟩
 repeat (refine Below.setCell ?_ (by simp only [];omega) _)
 exact ((Zb_.alloc Zl_ _).alloc (by simp) _).alloc (by simp;omega) _
theorem Zle (k f:Zy_) (w:World) :
 Calls prog 99 #[.agg #[.string k,.string f],.agg #[.string k,.string f]] w
  fun e w'=>e=.returned (.bool true)/\Zw_ w w':=by
 go_enter func99,ntmps99;go_wp2;go_ret;exact⟨rfl,(Zb_.alloc Zl_ _).alloc (by simp) _⟩
theorem Zm4 (lo lo':Nat) (v v':Value) (Ts:List Tm) (w:World) (hv:Zbk lo w v Ts) (hv':Zbk lo' w v' Ts) :
 Calls prog 47 #[v,v'] w fun e w'=>e=.returned (.bool true)/\Zw_ w w':=by
 by_cases hL:Ts=[]
 . subst hL
   obtain⟨a,cap,rfl⟩:=hv.form;obtain⟨a',cap',rfl⟩:=hv'.form;clear hv hv';go_enter func47,ntmps47;go_wp2
   go_loop [5] (fun i=>i=.int .i64 0) (fun _=>0)
   case atStart=>rfl
   case round=>
    subst hrel;go_wp2;go_ret;exact⟨rfl,Below.refl _ _⟩
 . obtain⟨b,off,cap,rfl,hm,hbw,_,hc⟩:=hv.full hL
   obtain⟨b',off',cap',rfl,_,hbw',_,hc'⟩:=hv'.full hL;clear hv hv';unfold maxLen at hm;go_enter func47,ntmps47;go_wp2
   go_loopw [5] (fun i wr=>∃ k:Nat,i=.int .i64 k/\k<=Ts.length/\Zw_ w wr) (fun i _=>Ts.length - (intOf i).toNat)
   case atStart=>exact⟨0,rfl,by omega,Below.refl _ _⟩
   case round=>
    obtain⟨k,rfl,hk,hb⟩:=hrel
    by_cases hlt:k < Ts.length
    . obtain⟨_,hcell⟩:=hc k hlt
      obtain⟨_,hcell'⟩:=hc' k hlt;obtain⟨c0,c1⟩:=hcell.below hb hbw;obtain⟨d0,d1⟩:=hcell'.below hb hbw';clear hcell hcell';have HB:=Zab hb;clear hb;go_wp2
      go_region_with (go_at_call 99;refine (Zle _ _ _).mono ?_;rintro e w1 ⟨rfl,hb1⟩;have hB:Hd (Zw_ w w1):=(HB.o.drew).trans (hb1.mono HB.o.size);clear hb1)
      all_goals go_wp2
      all_goals go_roundw
      all_goals first
       | (case rel=>exact⟨k+1,by go_num,by omega,hB.o⟩)
       | (case measure=>simp [intOf];omega)
    . go_wp2
      go_ret;exact⟨rfl,hb⟩
theorem Tryz.info135:(prog.info? 135).map (fun i=>(i.zero,i.size,i.bytes))=some (some (.agg #[.string ⟨#[]⟩,.string ⟨#[]⟩]),2,32):=by kernel_rfl
def Zb0 (wr:World) (B:Nat) (Ts:List Tm) (k:Nat):Prop:=
 ∃ f,wr.rowIs B 135 (Ts.length*2) f/\∀ i (h:i < Ts.length),i < k->Zfb Ts[i]/\f (i*2)=.string Ts[i].nm/\f (i*2+1)=.string Ts[i].ov
theorem Zb0.below (h:Zb0 wr B Ts k) (hb:Below wr.heap.size wr w1):Zb0 w1 B Ts k:=by
 obtain⟨f,hr,hall⟩:=h;exact⟨f,hr.of_block (hb.block B hr.lt),hall⟩
theorem Zb0.free (h:Zb0 wr B Ts k) (i:Nat):wr.frozen? ⟨B,i,none⟩=false:=by
 obtain⟨f,hr,_⟩:=h;exact hr.frozen i
theorem Zb0.there (h:Zb0 wr B Ts k) (i:Nat) (hi:i < Ts.length*2):∃ v,wr.cell? ⟨B,i,none⟩=some v:=by
 obtain⟨f,hr,_⟩:=h;exact⟨_,hr.cell hi⟩
theorem Zb0.step (h:Zb0 w1 B Ts k) (hk:k < Ts.length) (hz:Zfb Ts[k]) :
 Zb0 ((w1.setCell ⟨B,k*2,none⟩ (.string Ts[k].nm)).setCell ⟨B,k*2+1,none⟩ (.string Ts[k].ov)) B Ts (k+1):=by
 obtain⟨f,hr,hall⟩:=h;refine⟨_,((hr.set _ _).set _ _),fun i hi hik=>?_⟩
 by_cases e:i=k
 . subst e
   exact⟨hz,by simp,by simp⟩
 . obtain⟨hz',h0,h1⟩:=hall i hi (by omega)
   refine⟨hz',?_,?_⟩
   . rw [if_neg (by omega),if_neg (by omega)];exact h0
   . rw [if_neg (by omega),if_neg (by omega)];exact h1
theorem Zb0.done (h:Zb0 wr B Ts k) (hk:Ts.length<=k) (hne:Ts≠[]) (hm:Ts.length<=maxLen):Zbk B wr (.slice (some ⟨B,0,none⟩) Ts.length Ts.length) Ts:=by
 obtain⟨f,hr,hall⟩:=h;refine Or.inr ⟨B,0,Ts.length,rfl,hne,hm,hr.lt,Nat.le_refl _,Nat.le_refl _,fun i hi=>?_⟩;obtain⟨hz,h0,h1⟩:=hall i hi (by omega);rw [Nat.zero_add];exact⟨hz,by rw [hr.cell (by omega),h0],by rw [hr.cell (by omega),h1]⟩
theorem Zb0.new (w:World) (Ts:List Tm) (z:Array Value):Zb0 (w.alloc (.cells (madeCells z (Ts.length*2)) 135)) w.heap.size Ts 0:=by
 refine⟨fun i=>(madeCells z (Ts.length*2)).getD i default,?_,fun i _ h=>by omega⟩;have:=World.rowIs_alloc w (madeCells z (Ts.length*2)) 135 (fun i=>(madeCells z (Ts.length*2)).getD i default) (fun i hi=>by simp [Array.getD,hi])
 rwa [size_madeCells] at this
theorem Zqu (lo:Nat) (v:Value) (Ts:List Tm) (w:World) (hv:Zbk lo w v Ts) (hn:Ts.length<=1048576) :
 Calls prog 38 #[v] w fun e w'=>∃ v',e=.returned v'/\Zw_ w w'/\Zbk w.heap.size w' v' Ts:=by
 obtain⟨i0,hi,hz0,hz1,hz2⟩:=info_parts Tryz.info135
 by_cases hL:Ts=[]
 . subst hL
   obtain⟨a,cap,rfl⟩:=hv.form;clear hv
   have hmk:∀ u:World,(Instr.makeSlice 39 (.int .i64 0) (.int .i64 0)).run prog u=.ok (.slice (some ⟨u.heap.size,0,none⟩) 0 0) (u.alloc (.cells (madeCells (Value.cells (.agg #[.string ⟨#[]⟩,.string ⟨#[]⟩])) 0) 135)):=fun u=>by
    have h:=run_make (P:=prog) u 39 135 i0 _ underlying39 hi hz0 .i64 .i64 0 0 (by omega) (by omega) (by omega) (by omega)
    simpa [hz1] using h
   go_enter func38,ntmps38;go_wp2
   go_loop [4] (fun i=>i=.int .i64 0) (fun _=>0)
   case atStart=>rfl
   case round=>
    subst hrel;go_wp2;go_ret;exact⟨_,rfl,Zb_.alloc Zl_ _,Or.inl ⟨_,_,rfl,rfl⟩⟩
 . obtain⟨b,off,cap,rfl,hm,hbw,_,hc⟩:=hv.full hL
   clear hv;have HM:Hd (Ts.length<=maxLen):=hm;unfold maxLen at hm
   have hmk:∀ u:World,(Instr.makeSlice 39 (.int .i64 (Ts.length:Int)) (.int .i64 (Ts.length:Int))).run prog u=.ok (.slice (some ⟨u.heap.size,0,none⟩) Ts.length Ts.length) (u.alloc (.cells (madeCells (Value.cells (.agg #[.string ⟨#[]⟩,.string ⟨#[]⟩])) (Ts.length*2)) 135)):=fun u=>by
    have h:=run_make (P:=prog) u 39 135 i0 _ underlying39 hi hz0 .i64 .i64 Ts.length Ts.length (by omega) (by omega) (by rw [hz2];omega) (by omega);rw [hz1] at h
    simpa using h
   clear hi hz0 hz1 hz2;go_enter func38,ntmps38;go_wp2;clear hmk
   go_loopw [4] (fun i wr=>∃ k:Nat,i=.int .i64 k/\k<=Ts.length/\Zw_ w wr/\Zb0 wr w.heap.size Ts k) (fun i _=>Ts.length - (intOf i).toNat)
   case atStart=>exact⟨0,rfl,by omega,Zb_.alloc Zl_ _,Zb0.new w Ts _⟩
   case round=>
    obtain⟨k,rfl,hk,hb,hf⟩:=hrel
    by_cases hlt:k < Ts.length
    . obtain⟨hsz,hcell⟩:=hc k hlt
      obtain⟨c0,c1⟩:=hcell.below hb hbw;clear hcell;go_wp2_with fail;refine (ZiT _ _ _).mono ?_;rintro e w1 ⟨rfl,hb1⟩;have hf1:=hf.below hb1;have HST:=Zab (hf1.step hlt hsz);have hB:Hd (Zw_ w w1):=hb.trans (hb1.mono hb.size);have hfr:=hf1.free;obtain⟨o0,ho0⟩:=hf1.there (k*2) (by omega);obtain⟨o1,ho1⟩:=hf1.there (k*2+1) (by omega);clear hf hf1 hb1 hb c0 c1;go_wp2;go_roundw
      . 
       exact⟨k+1,by go_num,by omega,(hB.o.setCell Zl_ _).setCell Zl_ _,HST.o⟩
      . simp [intOf];omega
    . go_wp2
      go_ret;exact⟨_,rfl,hb,hf.done (by omega) hL HM.o⟩
end
section
open Go.RowKit Go.Deep
def Zii (Ss:List Sh) (kind nm team:Zy_) (V Ho:List Zy_) (ver:Int):Int×Int:=
 match Zcj Ss kind with
 | none=>(1,0)
 | some x=>ZaP x.fields nm team V Ho ver
theorem Zhc {Ss:List Sh}{kind nm team:Zy_}{V Ho:List Zy_}{ver:Int}{x:Sh} (h:Zcj Ss kind=some x):Zii Ss kind nm team V Ho ver=ZaP x.fields nm team V Ho ver:=by unfold Zii;rw [h]
theorem ZjW {Ss:List Sh}{kind nm team:Zy_}{V Ho:List Zy_}{ver:Int} (h:∀ x,Zcj Ss kind=some x->x.fields.length≠V.length):Zii Ss kind nm team V Ho ver=(1,0):=by
 unfold Zii
 cases hx:Zcj Ss kind with
 | none=>rfl
 | some x=>
  have hd:decide (V.length=x.fields.length)=false:=by simpa using fun e=>h x hx e.symm
  show ZaP x.fields nm team V Ho ver=(1,0)
  unfold ZaP Zk3;rw [hd];simp
section
variable (kind nm team:Zy_) (vv hv sv:Value) (en:Bool) (ver:Int) (V Ho:List Zy_) (Ss:List Sh) (w:World) (lo:Nat)
theorem Zlp (hS:ZaI lo w sv Ss) (hV:Zaf w vv V) (hH:Zaf w hv Ho) (s2:nm.size<=maxLen) (s3:team.size<=maxLen) :
 Calls prog 126 #[sv,.agg #[.string kind,.string nm,.string team,vv,.bool en,hv,.int .i64 ver]] w
  fun e w'=>e=.returned (.tuple #[.int .i64 (Zii Ss kind nm team V Ho ver).1,.int .i64 (Zii Ss kind nm team V Ho ver).2])/\Zw_ w w':=by
 have HV:=Zab hV;have HH:=Zab hH;have HS:=Zab hS;obtain⟨a,cap,rfl⟩:=hV.formz;obtain⟨a',cap',rfl⟩:=hH.formz;obtain⟨a1,cap1,rfl⟩:=hS.form;clear hV hH hS;go_enter func126,ntmps126;go_wp2_with fail;generalize hW0:w.alloc _=W0;have HB0:Hd (Zw_ w W0):=by rw [<- hW0];exact ZtJ _ _
 have G0:Hd (∀ i,W0.cell? ⟨w.heap.size,i,none⟩=(#[.string kind,.string nm,.string team,.slice a V.length cap,.bool en,.slice a' Ho.length cap',.int .i64 ver]:Array Value)[i]?):=fun i=>by rw [<- hW0];exact ZkD _ _ _ _ _ rfl
 have hz0:w.heap.size < W0.heap.size:=by rw [<- hW0];simp
 clear hW0;refine (Zcn _ _ _ _ _ _ _ _ V Ho Ss _ lo w HS.o HB0.o (HV.o.below HB0.o) (HH.o.below HB0.o)).mono ?_;rintro e w1 ⟨hb1,hsh⟩;have HB1:Hd (Zw_ w w1):=btz HB0.o hb1;have hz1:w.heap.size < w1.heap.size:=Zk_ hz0 hb1.size
 have g1:∀ i,w1.cell? ⟨w.heap.size,i,none⟩=(#[.string kind,.string nm,.string team,.slice a V.length cap,.bool en,.slice a' Ho.length cap',.int .i64 ver]:Array Value)[i]?:=fun i=>by rw [hb1.cell (p:=⟨w.heap.size,i,none⟩) hz0];exact G0.o i
 clear hb1 HB0 G0
 rcases hsh with ⟨x,fv,hx,hlen,rfl,hfd⟩ | ⟨hx,fa,fcap,rfl⟩
 . obtain⟨fa,fcap,rfl⟩:=hfd.form
   have HF:=Zab hfd;have HX:=Zab (Zhc (nm:=nm) (team:=team) (V:=V) (Ho:=Ho) (ver:=ver) hx);have HL:Hd (V.length=x.fields.length):=hlen.symm;have HD:Hd (decide (V.length=x.fields.length)=true):=by unfold Hd;simpa using HL.o
   clear hx hfd hlen
   cases hn:Zap nm with
   | false=>
    have HR:Hd (ZaP x.fields nm team V Ho ver=(1,0)):=by unfold Hd ZaP Zk3;rw [hn];simp
    go_wp2_with (first
     | (go_at_call 132;refine (Zae _ _ (by assumption)).mono ?_;rintro e w' ⟨rfl,rfl⟩)
     | (go_at_call 170;refine (ZcG _ Ho _ (HH.o.below HB1.o)).mono ?_;rintro e w2 ⟨rfl,hb2⟩;have HB2:Hd (Zw_ w w2):=btz HB1.o hb2;have g2:∀ i,w2.cell? ⟨w.heap.size,i,none⟩=(#[.string kind,.string nm,.string team,.slice a V.length cap,.bool en,.slice a' Ho.length cap',.int .i64 ver]:Array Value)[i]?:=(fun i=>by rw [hb2.cell (p:=⟨w.heap.size,i,none⟩) hz1];exact g1 i);clear hb2)
     | (go_at_call 82;refine (Zao _ _ _ _).mono ?_;rintro e w5 ⟨rfl,rfl⟩))
    go_ret2
    exact⟨by rw [HX.o,HR.o];rfl,HB1.o⟩
   | true=>
    cases ht:Zap team with
    | false=>
     have HR:Hd (ZaP x.fields nm team V Ho ver=(1,0)):=by unfold Hd ZaP Zk3;rw [hn,ht];simp
     go_wp2_with (first
      | (go_at_call 132;refine (Zae _ _ (by assumption)).mono ?_;rintro e w' ⟨rfl,rfl⟩)
      | (go_at_call 170;refine (ZcG _ Ho _ (HH.o.below HB1.o)).mono ?_;rintro e w2 ⟨rfl,hb2⟩;have HB2:Hd (Zw_ w w2):=btz HB1.o hb2;have g2:∀ i,w2.cell? ⟨w.heap.size,i,none⟩=(#[.string kind,.string nm,.string team,.slice a V.length cap,.bool en,.slice a' Ho.length cap',.int .i64 ver]:Array Value)[i]?:=(fun i=>by rw [hb2.cell (p:=⟨w.heap.size,i,none⟩) hz1];exact g1 i);clear hb2)
      | (go_at_call 82;refine (Zao _ _ _ _).mono ?_;rintro e w5 ⟨rfl,rfl⟩))
     go_ret2
     exact⟨by rw [HX.o,HR.o];rfl,HB1.o⟩
    | true=>
     by_cases h3:Ho.length<=3
     . have h3d:decide (Ho.length<=3)=true:=by simpa using h3
       have h3i:¬ (3 < (Ho.length:Int)):=by omega
       cases hs:Zor Ho with
       | false=>
        have HR:Hd (ZaP x.fields nm team V Ho ver=(1,0)):=by unfold Hd ZaP Zk3;rw [hn,ht,h3d,hs];simp
        clear h3d
        go_wp2_with (first
         | (go_at_call 132;refine (Zae _ _ (by assumption)).mono ?_;rintro e w' ⟨rfl,rfl⟩)
         | (go_at_call 170;refine (ZcG _ Ho _ (HH.o.below HB1.o)).mono ?_;rintro e w2 ⟨rfl,hb2⟩;have HB2:Hd (Zw_ w w2):=btz HB1.o hb2;have g2:∀ i,w2.cell? ⟨w.heap.size,i,none⟩=(#[.string kind,.string nm,.string team,.slice a V.length cap,.bool en,.slice a' Ho.length cap',.int .i64 ver]:Array Value)[i]?:=(fun i=>by rw [hb2.cell (p:=⟨w.heap.size,i,none⟩) hz1];exact g1 i);clear hb2)
         | (go_at_call 82;refine (Zao _ _ _ _).mono ?_;rintro e w5 ⟨rfl,rfl⟩))
        go_ret2
        exact⟨by rw [HX.o,HR.o];rfl,HB2.o⟩
       | true=>
        cases hi:inB 0 1000000 ver with
        | false=>
         have HR:Hd (ZaP x.fields nm team V Ho ver=(1,0)):=by unfold Hd ZaP Zk3;rw [hn,ht,h3d,hs,hi];simp
         clear h3d
         go_wp2_with (first
          | (go_at_call 132;refine (Zae _ _ (by assumption)).mono ?_;rintro e w' ⟨rfl,rfl⟩)
          | (go_at_call 170;refine (ZcG _ Ho _ (HH.o.below HB1.o)).mono ?_;rintro e w2 ⟨rfl,hb2⟩;have HB2:Hd (Zw_ w w2):=btz HB1.o hb2;have g2:∀ i,w2.cell? ⟨w.heap.size,i,none⟩=(#[.string kind,.string nm,.string team,.slice a V.length cap,.bool en,.slice a' Ho.length cap',.int .i64 ver]:Array Value)[i]?:=(fun i=>by rw [hb2.cell (p:=⟨w.heap.size,i,none⟩) hz1];exact g1 i);clear hb2)
          | (go_at_call 82;refine (Zao _ _ _ _).mono ?_;rintro e w5 ⟨rfl,rfl⟩))
         go_ret2
         exact⟨by rw [HX.o,HR.o];rfl,HB2.o⟩
        | true=>
         have HR:Hd (ZaP x.fields nm team V Ho ver=ff (Zbe x.fields V) 0):=by unfold Hd ZaP Zk3;rw [hn,ht,h3d,hs,hi,HD.o];rfl
         clear h3d
         go_wp2_with (first
          | (go_at_call 132;refine (Zae _ _ (by assumption)).mono ?_;rintro e w' ⟨rfl,rfl⟩)
          | (go_at_call 170;refine (ZcG _ Ho _ (HH.o.below HB1.o)).mono ?_;rintro e w2 ⟨rfl,hb2⟩;have HB2:Hd (Zw_ w w2):=btz HB1.o hb2;have g2:∀ i,w2.cell? ⟨w.heap.size,i,none⟩=(#[.string kind,.string nm,.string team,.slice a V.length cap,.bool en,.slice a' Ho.length cap',.int .i64 ver]:Array Value)[i]?:=(fun i=>by rw [hb2.cell (p:=⟨w.heap.size,i,none⟩) hz1];exact g1 i);clear hb2)
          | (go_at_call 82;refine (Zao _ _ _ _).mono ?_;rintro e w5 ⟨rfl,rfl⟩))
         clear hn ht hs hi h3i h3 g1;have hn:=HF.o.len;unfold maxLen at hn;have hz2:w.heap.size < w5.heap.size:=by have:=HB2.o.size;have h:=World.block_lt_of_cell? w5 ⟨w.heap.size,0,none⟩ (g2 0);exact h
         have G2:=Zab g2;clear g2
         go_loopw [8] (fun i wr=>∃ k:Nat,i=.int .i64 k/\k<=x.fields.length/\Below w5.heap.size w5 wr/\∀ j (h1:j < x.fields.length) (h2:j < V.length),j < k->Zbx x.fields[j] V[j]=0) (fun i _=>x.fields.length - (intOf i).toNat)
         case atStart=>exact⟨0,rfl,by omega,Below.refl _ _,fun j _ _ h=>by omega⟩
         case round=>
          obtain⟨k,rfl,hk,hb,hall⟩:=hrel;have HA:=Zab hall;have HBB:=Zab hb;have hszr:w.heap.size < wr.heap.size:=Zk_ hz2 hb.size
          have HBr:Hd (Zw_ w wr):=btz HB2.o hb
          have hO:∀ i,wr.cell? ⟨w.heap.size,i,none⟩=(#[.string kind,.string nm,.string team,.slice a V.length cap,.bool en,.slice a' Ho.length cap',.int .i64 ver]:Array Value)[i]?:=fun i=>by
           rw [hb.cell (p:=⟨w.heap.size,i,none⟩) hz2];exact G2.o i
          clear hb hall
          by_cases hlt:k < x.fields.length
          . have hlv:k < V.length:=by have:=HL.o;omega
            obtain⟨fb,foff,rfl,hfb0,hfc⟩:=HF.o.fullz (by omega);obtain⟨hsz,wv,hcell,hst⟩:=hfc k hlt;obtain⟨c0,c1,c2,c3,c4,c5,c6,c7,c8,c9,c10⟩:=hcell.below HBr.o hfb0;obtain⟨wa,wn,wcap,rfl⟩:=hst.form;obtain⟨vb,voff,rfl,hvn,hvb0,hvc⟩:=HV.o.fullz (by omega);have hvk:wr.cell? ⟨vb,voff+k,none⟩=some (.string V[k]):=by rw [HBr.o.cell (p:=⟨vb,_,none⟩) hvb0];exact (hvc k hlv).2
            have hfb:fb < wr.heap.size:=by have:=HBr.o.size;omega
            have hvb:vb < wr.heap.size:=by have:=HBr.o.size;omega
            have HZ:=Zab (hvc k hlv).1;have HST:=Zab hst;clear hcell hst hvc hfc hsz hvn hfb0 hvb0
            cases he:V[k].toList.isEmpty with
            | true=>
             cases hm:x.fields[k].mu with
             | true=>
              have HY:Hd (ff (Zbe x.fields V) 0=(2,(k:Int))):=ZeR HL.o hlt hlv (by unfold Zbx;rw [he,hm];rfl) (by decide) HA.o;rw [hm] at c7;clear HA;go_wp2
              go_ret2
              exact⟨by rw [HX.o,HR.o,HY.o];rfl,HBr.o⟩
             | false=>
              have HY:Hd (Zbx x.fields[k] V[k]=0):=by unfold Hd Zbx;rw [he,hm];rfl
              rw [hm] at c7;go_wp2;go_roundw
              case rel=>exact⟨k+1,by go_num,by omega,HBB.o,fun j h1 h2 hj=>by
                         by_cases e:j=k
                         . subst e;exact HY.o
                         . exact HA.o j h1 h2 (by omega)⟩
              . simp [intOf];omega
            | false=>
             go_wp2
             go_region_held3 (fun W=>(∀ i,W.cell? ⟨w.heap.size,i,none⟩=(#[.string kind,.string nm,.string team,.slice (some ⟨vb,voff,none⟩) V.length cap,.bool en,.slice a' Ho.length cap',.int .i64 ver]:Array Value)[i]?)/\W.cell? ⟨vb,voff+k,none⟩=some (.string V[k])/\W.cell? ⟨fb,foff+k*11,none⟩=some (.string x.fields[k].nm)/\W.cell? ⟨fb,foff+k*11+1,none⟩=some (.int .i64 x.fields[k].kd)/\W.cell? ⟨fb,foff+k*11+2,none⟩=some (.int .i64 x.fields[k].le)/\W.cell? ⟨fb,foff+k*11+3,none⟩=some (.int .i64 x.fields[k].mo)/\W.cell? ⟨fb,foff+k*11+4,none⟩=some (.slice wa wn wcap)/\W.cell? ⟨fb,foff+k*11+5,none⟩=some (.string x.fields[k].to)/\W.cell? ⟨fb,foff+k*11+6,none⟩=some (.int .i64 x.fields[k].ro)/\W.cell? ⟨fb,foff+k*11+7,none⟩=some (.bool x.fields[k].mu)/\W.cell? ⟨fb,foff+k*11+8,none⟩=some (.bool x.fields[k].fx)/\W.cell? ⟨fb,foff+k*11+9,none⟩=some (.string x.fields[k].df)/\W.cell? ⟨fb,foff+k*11+10,none⟩=some (.string x.fields[k].we))
              (first
                | (with_reducible exact⟨hO,hvk,c0,c1,c2,c3,c4,c5,c6,c7,c8,c9,c10⟩)
                | exact⟨fun i=>(hb4.cell (p:=⟨w.heap.size,i,none⟩) hszr).trans (hO i),(hb4.cell (p:=⟨vb,_,none⟩) hvb).trans hvk,(hb4.cell (p:=⟨fb,_,none⟩) hfb).trans c0,(hb4.cell (p:=⟨fb,_,none⟩) hfb).trans c1,(hb4.cell (p:=⟨fb,_,none⟩) hfb).trans c2,(hb4.cell (p:=⟨fb,_,none⟩) hfb).trans c3,(hb4.cell (p:=⟨fb,_,none⟩) hfb).trans c4,(hb4.cell (p:=⟨fb,_,none⟩) hfb).trans c5,(hb4.cell (p:=⟨fb,_,none⟩) hfb).trans c6,(hb4.cell (p:=⟨fb,_,none⟩) hfb).trans c7,(hb4.cell (p:=⟨fb,_,none⟩) hfb).trans c8,(hb4.cell (p:=⟨fb,_,none⟩) hfb).trans c9,(hb4.cell (p:=⟨fb,_,none⟩) hfb).trans c10⟩
                | exact⟨hO,hvk,c0,c1,c2,c3,c4,c5,c6,c7,c8,c9,c10⟩)
              (first
                | (go_at_call 171
                   refine (Zbv _ _ _ _ _ _ _ _ _ _ x.fields[k].words _ _ _ ((HST.o.below HBr.o).below (Zb_.drew)) HZ.o).mono ?_;rintro e w4 ⟨rfl,hb4'⟩;have hb4:Below wr.heap.size wr w4:=((Below.refl wr.heap.size wr).drew).trans (hb4'.mono Zl_);clear hb4'))
             have HB4:=Zab hb4;have HBw:Hd (Zw_ w w4):=btz HBr.o hb4;have HB5:Hd (Below w5.heap.size w5 w4):=btz HBB.o hb4;clear hb4
             cases hf:ZaL x.fields[k].kd x.fields[k].le x.fields[k].mo x.fields[k].words V[k] with
             | true=>
              have HY:Hd (Zbx x.fields[k] V[k]=0):=by unfold Hd Zbx;rw [he,hf];rfl
              go_wp2;go_roundw
              case rel=>exact⟨k+1,by go_num,by omega,HB5.o,fun j h1 h2 hj=>by
                         by_cases e:j=k
                         . subst e;exact HY.o
                         . exact HA.o j h1 h2 (by omega)⟩
              . simp [intOf];omega
             | false=>
              have HY:Hd (ff (Zbe x.fields V) 0=(3,(k:Int))):=ZeR HL.o hlt hlv (by unfold Zbx;rw [he,hf];rfl) (by decide) HA.o;clear HA;go_wp2
              go_ret2
              exact⟨by rw [HX.o,HR.o,HY.o];rfl,HBw.o⟩
          . have HY:Hd (ff (Zbe x.fields V) 0=(0,0)):=Zhj HL.o (fun j h1 h2 _=>HA.o j h1 h2 (by omega))
            clear HA;go_wp2
            go_ret2
            exact⟨by rw [HX.o,HR.o,HY.o];rfl,HBr.o⟩
     . have h3d:decide (Ho.length<=3)=false:=by simpa using h3
       have h3i:3 < (Ho.length:Int):=by omega
       have HR:Hd (ZaP x.fields nm team V Ho ver=(1,0)):=by unfold Hd ZaP Zk3;rw [hn,ht,h3d];simp
       clear h3d
       go_wp2_with (first
        | (go_at_call 132;refine (Zae _ _ (by assumption)).mono ?_;rintro e w' ⟨rfl,rfl⟩)
        | (go_at_call 170;refine (ZcG _ Ho _ (HH.o.below HB1.o)).mono ?_;rintro e w2 ⟨rfl,hb2⟩;have HB2:Hd (Zw_ w w2):=btz HB1.o hb2;have g2:∀ i,w2.cell? ⟨w.heap.size,i,none⟩=(#[.string kind,.string nm,.string team,.slice a V.length cap,.bool en,.slice a' Ho.length cap',.int .i64 ver]:Array Value)[i]?:=(fun i=>by rw [hb2.cell (p:=⟨w.heap.size,i,none⟩) hz1];exact g1 i);clear hb2)
        | (go_at_call 82;refine (Zao _ _ _ _).mono ?_;rintro e w5 ⟨rfl,rfl⟩))
       go_ret2
       exact⟨by rw [HX.o,HR.o];rfl,HB1.o⟩
 . have HX:=Zab (ZjW (nm:=nm) (team:=team) (Ho:=Ho) (ver:=ver) hx)
   clear hx;go_wp2
   go_ret2
   exact⟨by rw [HX.o];rfl,HB1.o⟩
end
end
section
open Go.RowKit Go.Deep
theorem ZeQ {Fs:List Fd}{nm team:Zy_}{V Ho:List Zy_}{ver:Int} (h:(ZaP Fs nm team V Ho ver).1=0):V.length=Fs.length:=by
 unfold ZaP at h
 by_cases hb:Zk3 Fs nm team V Ho ver=true
 . unfold Zk3 at hb;simp at hb;exact hb.2.1
 . rw [if_neg hb] at h;exact absurd h (by decide)
theorem Zm5 {r:Int×Int} (h:r.1=0):Zlf r=.nilIface:=if_pos h
theorem Zm6 {r:Int×Int} (h:¬ r.1=0):Zlf r=.iface 347 (.agg #[.int .i64 r.1,.int .i64 r.2]):=if_neg h
end
open Go.ChangeShapes Go.WideShapes Go.ChangeAt Go.RowKit Go.Deep
open Go.ChangeMaps (open_string shut_string)
variable {fuel:Nat} {c:Value} {l cs:List Value}
theorem Tryz.own:ownKnob prog.godebug=none:=by kernel_rfl
theorem Tryz.cells9:prog.cellsOf 9=1:=by kernel_rfl
theorem Tryz.cells3:prog.cellsOf 3=1:=by kernel_rfl
theorem Tryz.cells4:prog.cellsOf 4=1:=by kernel_rfl
theorem Tryz.cells111:prog.cellsOf 111=1:=by kernel_rfl
theorem Tryz.cells226:prog.cellsOf 226=11:=by kernel_rfl
section
variable {H:Type} {enc:TypeId×Value->H} {W:World}
theorem Zgh {x:DataW H×List MemPlace} (h:DataW.trod enc prog W 0 (fun _=>true) true fuel 111 [c]=some x):∃ L,Zaf W c L:=by
 rcases open_strs underlying111 underlying9 Tryz.cells9 h with ⟨hcs,_⟩ | ⟨a,len,cap,m,Sx,hcs,_,hl,hm,hmm,_,hcell⟩
 . simp only [List.cons.injEq,and_true] at hcs
   exact⟨[],Or.inl ⟨_,_,hcs,rfl⟩⟩
 . simp only [List.cons.injEq,and_true] at hcs
   simp only [if_true] at hmm;subst hmm
   by_cases h0:len=0
   . subst h0
     exact⟨[],Or.inl ⟨_,_,hcs,rfl⟩⟩
   . obtain⟨b,off,spot⟩:=a
     have hspot:spot=none:=by simpa [Addr.add] using World.cell?_spot (hcell 0 (by omega)).1
     subst hspot;refine⟨(List.range len).map Sx,Or.inr ⟨b,off,m,?_,?_,?_,?_,?_,?_⟩⟩
     . rw [hcs];simp
     . intro e;simp at e;exact h0 e
     . simp;omega
     . exact World.block_lt_of_cell? W _ (hcell 0 (by omega)).1
     . intro i hi
       simp at hi;have:=(hcell i (by omega)).1;rw [add_plain] at this
       simpa using this
     . intro s hs
       obtain⟨i,hi,rfl⟩:=List.mem_map.1 hs;exact (hcell i (by have:=List.mem_range.1 hi;omega)).2
end
theorem Tryz.cells101:prog.cellsOf 101=1:=by kernel_rfl
theorem Tryz.cells103:prog.cellsOf 103=2:=by kernel_rfl
theorem ZbI {α:Type}{p:Nat->α->Prop} (n:Nat):(∀ i,i < n->∃ x,p i x)->∃ L:List α,L.length=n/\∀ i (h:i < L.length),p i L[i]:=by
 induction n with
 | zero=>intro _;exact⟨[],rfl,fun i h=>absurd h (by simp)⟩
 | succ n ih=>
  intro h;obtain⟨L,hl,hL⟩:=ih (fun i hi=>h i (by omega));obtain⟨x,hx⟩:=h n (by omega);refine⟨L ++ [x],by simp [hl],fun i hi=>?_⟩
  by_cases e:i < L.length
  . rw [List.getElem_append_left e];exact hL i e
  . have e2:i=n:=by simp at hi;omega
    subst e2;have:(L ++ [x])[i]=x:=by rw [List.getElem_append_right (by omega)];simp [hl]
    rw [this];exact hx
theorem Zs6 (h:l.length=11):∃ c0 c1 c2 c3 c4 c5 c6 c7 c8 c9 c10,l=[c0,c1,c2,c3,c4,c5,c6,c7,c8,c9,c10]:=by
 match l,h with
 | [c0,c1,c2,c3,c4,c5,c6,c7,c8,c9,c10],_=>exact⟨c0,c1,c2,c3,c4,c5,c6,c7,c8,c9,c10,rfl⟩
theorem Zs7 (h:l.length=2):∃ c0 c1,l=[c0,c1]:=by
 match l,h with
 | [c0,c1],_=>exact⟨c0,c1,rfl⟩
theorem Zaf.in0 {w:World}{v:Value}{L:List Zy_} (h:Zaf w v L):Zaq 0 w v L:=by
 rcases h with h | ⟨b,off,cap,h1,h2,h3,h4,h5,h6⟩
 . exact Or.inl h
 . exact Or.inr ⟨b,off,cap,h1,h2,h3,h4,h5,h6,Nat.zero_le _⟩
section
variable {H:Type} {enc:TypeId×Value->H} {W:World}
theorem Zsv {x:DataW H×List MemPlace} (h:DataW.trod enc prog W 0 (fun _=>true) true fuel 226 cs=some x) :
 ∃ (f:Fd) (wv:Value),cs=[.string f.nm,.int .i64 f.kd,.int .i64 f.le,.int .i64 f.mo,wv,.string f.to,.int .i64 f.ro,.bool f.mu,.bool f.fx,.string f.df,.string f.we]/\Zaf W wv f.words/\Ze8 f:=by
 obtain⟨xs,n,_,_,hl,hlen,hfld⟩:=DataW.trod_struct underlying226 h;obtain⟨c0,c1,c2,c3,c4,c5,c6,c7,c8,c9,c10,rfl⟩:=Zs6 (hl.trans Tryz.cells226);simp only [Array.size,List.length_cons,List.length_nil] at hlen;have g0:DataW.trod enc prog W 0 (fun _=>true) true n 9 ((([c0,c1,c2,c3,c4,c5,c6,c7,c8,c9,c10]:List Value).drop 0).take (prog.cellsOf 9))=xs[0]?:=hfld 0 _ rfl;have g1:DataW.trod enc prog W 0 (fun _=>true) true n 3 ((([c0,c1,c2,c3,c4,c5,c6,c7,c8,c9,c10]:List Value).drop 1).take (prog.cellsOf 3))=xs[1]?:=hfld 1 _ rfl;have g2:DataW.trod enc prog W 0 (fun _=>true) true n 3 ((([c0,c1,c2,c3,c4,c5,c6,c7,c8,c9,c10]:List Value).drop 2).take (prog.cellsOf 3))=xs[2]?:=hfld 2 _ rfl;have g3:DataW.trod enc prog W 0 (fun _=>true) true n 3 ((([c0,c1,c2,c3,c4,c5,c6,c7,c8,c9,c10]:List Value).drop 3).take (prog.cellsOf 3))=xs[3]?:=hfld 3 _ rfl
 have g4:DataW.trod enc prog W 0 (fun _=>true) true n 111 ((([c0,c1,c2,c3,c4,c5,c6,c7,c8,c9,c10]:List Value).drop 4).take (prog.cellsOf 111))=xs[4]?:=hfld 4 _ rfl;have g5:DataW.trod enc prog W 0 (fun _=>true) true n 9 ((([c0,c1,c2,c3,c4,c5,c6,c7,c8,c9,c10]:List Value).drop 5).take (prog.cellsOf 9))=xs[5]?:=hfld 5 _ rfl;have g6:DataW.trod enc prog W 0 (fun _=>true) true n 3 ((([c0,c1,c2,c3,c4,c5,c6,c7,c8,c9,c10]:List Value).drop 6).take (prog.cellsOf 3))=xs[6]?:=hfld 6 _ rfl;have g7:DataW.trod enc prog W 0 (fun _=>true) true n 4 ((([c0,c1,c2,c3,c4,c5,c6,c7,c8,c9,c10]:List Value).drop 7).take (prog.cellsOf 4))=xs[7]?:=hfld 7 _ rfl;have g8:DataW.trod enc prog W 0 (fun _=>true) true n 4 ((([c0,c1,c2,c3,c4,c5,c6,c7,c8,c9,c10]:List Value).drop 8).take (prog.cellsOf 4))=xs[8]?:=hfld 8 _ rfl
 have g9:DataW.trod enc prog W 0 (fun _=>true) true n 9 ((([c0,c1,c2,c3,c4,c5,c6,c7,c8,c9,c10]:List Value).drop 9).take (prog.cellsOf 9))=xs[9]?:=hfld 9 _ rfl;have g10:DataW.trod enc prog W 0 (fun _=>true) true n 9 ((([c0,c1,c2,c3,c4,c5,c6,c7,c8,c9,c10]:List Value).drop 10).take (prog.cellsOf 9))=xs[10]?:=hfld 10 _ rfl;simp only [Tryz.cells9,Tryz.cells3,Tryz.cells4,Tryz.cells111,List.drop_succ_cons,List.drop_zero,List.take_succ_cons,List.take_zero] at g0 g1 g2 g3 g4 g5 g6 g7 g8 g9 g10;rw [List.getElem?_eq_getElem (by omega)] at g0 g1 g2 g3 g4 g5 g6 g7 g8 g9 g10;obtain⟨nm,e0,_,s0⟩:=DataW.trod_string underlying9 g0;obtain⟨kd,e1,_,_⟩:=DataW.trod_int underlying3 g1;obtain⟨le,e2,_,_⟩:=DataW.trod_int underlying3 g2;obtain⟨mo,e3,_,_⟩:=DataW.trod_int underlying3 g3;obtain⟨L,hL⟩:=Zgh g4;obtain⟨tq,e5,_,s5⟩:=DataW.trod_string underlying9 g5
 obtain⟨ro,e6,_,_⟩:=DataW.trod_int underlying3 g6;obtain⟨mu,e7,_⟩:=DataW.trod_bool underlying4 g7;obtain⟨fx,e8,_⟩:=DataW.trod_bool underlying4 g8;obtain⟨df,e9,_,s9⟩:=DataW.trod_string underlying9 g9;obtain⟨we,e10,_,s10⟩:=DataW.trod_string underlying9 g10;simp only [List.cons.injEq,and_true] at e0 e1 e2 e3 e5 e6 e7 e8 e9 e10;subst e0 e1 e2 e3 e5 e6 e7 e8 e9 e10;exact⟨⟨nm,kd,le,mo,L,tq,ro,mu,fx,df,we⟩,c4,rfl,hL,⟨s0,s5,s9,s10⟩⟩
theorem Zrf {x:DataW H×List MemPlace} (h:DataW.trod enc prog W 0 (fun _=>true) true fuel 101 [c]=some x):∃ Fs,Zau 0 W c Fs:=by
 rcases open_slice underlying101 h with ⟨hcs,_⟩ | ⟨a,len,cap,m,n,D,Pl,hcs,_,hl,hm,hmm,_,hx⟩
 . simp only [List.cons.injEq,and_true] at hcs
   exact⟨[],Or.inl ⟨_,_,hcs,rfl⟩⟩
 . simp only [List.cons.injEq,and_true] at hcs
   simp only [if_true] at hmm;subst hmm;rw [Tryz.cells226] at hx
   by_cases h0:len=0
   . subst h0
     exact⟨[],Or.inl ⟨_,_,hcs,rfl⟩⟩
   . obtain⟨Fs,hF,hall⟩:=ZbI (p:=fun i (f:Fd)=>Ze8 f/\∃ wv,Zaf W wv f.words/\W.cells? 0 (a.add (i*11)) 11=some [.string f.nm,.int .i64 f.kd,.int .i64 f.le,.int .i64 f.mo,wv,.string f.to,.int .i64 f.ro,.bool f.mu,.bool f.fx,.string f.df,.string f.we]) len (fun i hi=>by
      obtain⟨cs',h1,h2⟩:=hx i (by omega);obtain⟨f,wv,e,hw,hz⟩:=Zsv h2;rw [e] at h1;exact⟨f,hz,wv,hw,h1⟩)
     obtain⟨b,off,spot⟩:=a
     have hspot:spot=none:=by
      obtain⟨_,wv,_,h1⟩:=hall 0 (by omega);have:=(World.cells?_some h1).2.2 0 (by omega);rw [Nat.zero_mul] at this;have e0:((⟨b,off,spot⟩:Addr).add 0).add 0=⟨b,off,spot⟩:=by simp [Addr.add]
      rw [e0] at this
      simpa using World.cell?_spot (by simpa using this)
     subst hspot
     have hcell:∀ i (hi:i < Fs.length) wv,W.cells? 0 ((⟨b,off,none⟩:Addr).add (i*11)) 11=some [.string Fs[i].nm,.int .i64 Fs[i].kd,.int .i64 Fs[i].le,.int .i64 Fs[i].mo,wv,.string Fs[i].to,.int .i64 Fs[i].ro,.bool Fs[i].mu,.bool Fs[i].fx,.string Fs[i].df,.string Fs[i].we]->ZcL W b (off+i*11) Fs[i] wv:=fun i hi wv h1=>by
      obtain⟨_,_,hc⟩:=World.cells?_some h1;rw [add_plain] at hc;have q:=fun j (hj:j < 11)=>(add_plain b (off+i*11) j) ▸ hc j hj
      exact⟨by simpa using q 0 (by omega),by simpa using q 1 (by omega),by simpa using q 2 (by omega),by simpa using q 3 (by omega),by simpa using q 4 (by omega),by simpa using q 5 (by omega),by simpa using q 6 (by omega),by simpa using q 7 (by omega),by simpa using q 8 (by omega),by simpa using q 9 (by omega),by simpa using q 10 (by omega)⟩
     have hbw:b < W.heap.size:=by
      obtain⟨_,wv,_,h1⟩:=hall 0 (by omega);exact World.block_lt_of_cell? W _ (hcell 0 (by omega) wv h1).c0
     refine⟨Fs,Or.inr ⟨b,off,m,by rw [hcs,hF],?_,by omega,hbw,Nat.zero_le _,by omega,fun i hi=>?_⟩⟩
     . intro e;rw [e] at hF;simp at hF;omega
     . obtain⟨hz,wv,hw,h1⟩:=hall i hi
       exact⟨hz,wv,hcell i hi wv h1,hw.in0⟩
theorem Zsx {x:DataW H×List MemPlace} (h:DataW.trod enc prog W 0 (fun _=>true) true fuel 103 cs=some x) :
 ∃ (s:Sh) (fv:Value),cs=[.string s.kind,fv]/\Zau 0 W fv s.fields/\s.kind.size<=maxLen:=by
 obtain⟨xs,n,_,_,hl,hlen,hfld⟩:=DataW.trod_struct underlying103 h;obtain⟨c0,c1,rfl⟩:=Zs7 (hl.trans Tryz.cells103);simp only [Array.size,List.length_cons,List.length_nil] at hlen;have g0:DataW.trod enc prog W 0 (fun _=>true) true n 9 ((([c0,c1]:List Value).drop 0).take (prog.cellsOf 9))=xs[0]?:=hfld 0 _ rfl;have g1:DataW.trod enc prog W 0 (fun _=>true) true n 101 ((([c0,c1]:List Value).drop 1).take (prog.cellsOf 101))=xs[1]?:=hfld 1 _ rfl;simp only [Tryz.cells9,Tryz.cells101,List.drop_succ_cons,List.drop_zero,List.take_succ_cons,List.take_zero] at g0 g1;rw [List.getElem?_eq_getElem (by omega)] at g0 g1;obtain⟨kd,e0,_,s0⟩:=DataW.trod_string underlying9 g0;obtain⟨Fs,hF⟩:=Zrf g1;simp only [List.cons.injEq,and_true] at e0;subst e0;exact⟨⟨kd,Fs⟩,c1,rfl,hF,s0⟩
theorem Zrj {x:DataW H×List MemPlace} (h:DataW.trod enc prog W 0 (fun _=>true) true fuel 22 [c]=some x):∃ Ss,ZaI 0 W c Ss:=by
 rcases open_slice underlying22 h with ⟨hcs,_⟩ | ⟨a,len,cap,m,n,D,Pl,hcs,_,hl,hm,hmm,_,hx⟩
 . simp only [List.cons.injEq,and_true] at hcs
   exact⟨[],Or.inl ⟨_,_,hcs,rfl⟩⟩
 . simp only [List.cons.injEq,and_true] at hcs
   simp only [if_true] at hmm;subst hmm;rw [Tryz.cells103] at hx
   by_cases h0:len=0
   . subst h0
     exact⟨[],Or.inl ⟨_,_,hcs,rfl⟩⟩
   . obtain⟨Ss,hF,hall⟩:=ZbI (p:=fun i (s:Sh)=>s.kind.size<=maxLen/\∃ fv,Zau 0 W fv s.fields/\W.cells? 0 (a.add (i*2)) 2=some [.string s.kind,fv]) len (fun i hi=>by
      obtain⟨cs',h1,h2⟩:=hx i (by omega);obtain⟨s,fv,e,hw,hz⟩:=Zsx h2;rw [e] at h1;exact⟨s,hz,fv,hw,h1⟩)
     obtain⟨b,off,spot⟩:=a
     have hspot:spot=none:=by
      obtain⟨_,fv,_,h1⟩:=hall 0 (by omega);have:=(World.cells?_some h1).2.2 0 (by omega);rw [Nat.zero_mul] at this;have e0:((⟨b,off,spot⟩:Addr).add 0).add 0=⟨b,off,spot⟩:=by simp [Addr.add]
      rw [e0] at this
      simpa using World.cell?_spot (by simpa using this)
     subst hspot
     have hcell:∀ i (hi:i < Ss.length) fv,W.cells? 0 ((⟨b,off,none⟩:Addr).add (i*2)) 2=some [.string Ss[i].kind,fv]->W.cell? ⟨b,off+i*2,none⟩=some (.string Ss[i].kind)/\W.cell? ⟨b,off+i*2+1,none⟩=some fv:=fun i hi fv h1=>by
      obtain⟨_,_,hc⟩:=World.cells?_some h1;rw [add_plain] at hc;have q:=fun j (hj:j < 2)=>(add_plain b (off+i*2) j) ▸ hc j hj
      exact⟨by simpa using q 0 (by omega),by simpa using q 1 (by omega)⟩
     have hbw:b < W.heap.size:=by
      obtain⟨_,fv,_,h1⟩:=hall 0 (by omega);exact World.block_lt_of_cell? W _ (hcell 0 (by omega) fv h1).1
     refine⟨Ss,Or.inr ⟨b,off,m,by rw [hcs,hF],?_,by omega,hbw,Nat.zero_le _,fun i hi=>?_⟩⟩
     . intro e;rw [e] at hF;simp at hF;omega
     . obtain⟨hz,fv,hw,h1⟩:=hall i hi
       exact⟨hz,fv,(hcell i hi fv h1).1,(hcell i hi fv h1).2,hw⟩
end
theorem Tryz.cells113:prog.cellsOf 113=7:=by kernel_rfl
theorem ZsZ {cs:Array Value} (h:cs.size=7):∃ c0 c1 c2 c3 c4 c5 c6,cs=#[c0,c1,c2,c3,c4,c5,c6]:=by
 obtain⟨l⟩:=cs
 match l,h with
 | [c0,c1,c2,c3,c4,c5,c6],_=>exact⟨c0,c1,c2,c3,c4,c5,c6,rfl⟩
theorem Tryz.cells106:prog.cellsOf 106=6:=by kernel_rfl
theorem ZtD (h:l.length=6):∃ c0 c1 c2 c3 c4 c5,l=[c0,c1,c2,c3,c4,c5]:=by
 match l,h with
 | [c0,c1,c2,c3,c4,c5],_=>exact⟨c0,c1,c2,c3,c4,c5,rfl⟩
section
variable {H:Type} {enc:TypeId×Value->H} {W:World}
theorem Zsw {x:DataW H×List MemPlace} (h:DataW.trod enc prog W 0 (fun _=>true) true fuel 106 cs=some x) :
 ∃ (m:Md),cs=[.string m.kind,.string m.field,.string m.wh,.string m.is,.string m.put,.string m.fr]/\Zeb m:=by
 obtain⟨xs,n,_,_,hl,hlen,hfld⟩:=DataW.trod_struct underlying106 h;obtain⟨c0,c1,c2,c3,c4,c5,rfl⟩:=ZtD (hl.trans Tryz.cells106);simp only [Array.size,List.length_cons,List.length_nil] at hlen;have g0:DataW.trod enc prog W 0 (fun _=>true) true n 9 ((([c0,c1,c2,c3,c4,c5]:List Value).drop 0).take (prog.cellsOf 9))=xs[0]?:=hfld 0 _ rfl;have g1:DataW.trod enc prog W 0 (fun _=>true) true n 9 ((([c0,c1,c2,c3,c4,c5]:List Value).drop 1).take (prog.cellsOf 9))=xs[1]?:=hfld 1 _ rfl;have g2:DataW.trod enc prog W 0 (fun _=>true) true n 9 ((([c0,c1,c2,c3,c4,c5]:List Value).drop 2).take (prog.cellsOf 9))=xs[2]?:=hfld 2 _ rfl;have g3:DataW.trod enc prog W 0 (fun _=>true) true n 9 ((([c0,c1,c2,c3,c4,c5]:List Value).drop 3).take (prog.cellsOf 9))=xs[3]?:=hfld 3 _ rfl
 have g4:DataW.trod enc prog W 0 (fun _=>true) true n 9 ((([c0,c1,c2,c3,c4,c5]:List Value).drop 4).take (prog.cellsOf 9))=xs[4]?:=hfld 4 _ rfl;have g5:DataW.trod enc prog W 0 (fun _=>true) true n 9 ((([c0,c1,c2,c3,c4,c5]:List Value).drop 5).take (prog.cellsOf 9))=xs[5]?:=hfld 5 _ rfl;simp only [Tryz.cells9,List.drop_succ_cons,List.drop_zero,List.take_succ_cons,List.take_zero] at g0 g1 g2 g3 g4 g5;rw [List.getElem?_eq_getElem (by omega)] at g0 g1 g2 g3 g4 g5;obtain⟨k,e0,_,s0⟩:=DataW.trod_string underlying9 g0;obtain⟨f,e1,_,s1⟩:=DataW.trod_string underlying9 g1;obtain⟨wh,e2,_,s2⟩:=DataW.trod_string underlying9 g2;obtain⟨is,e3,_,s3⟩:=DataW.trod_string underlying9 g3;obtain⟨pu,e4,_,s4⟩:=DataW.trod_string underlying9 g4;obtain⟨fr,e5,_,s5⟩:=DataW.trod_string underlying9 g5;simp only [List.cons.injEq,and_true] at e0 e1 e2 e3 e4 e5
 subst e0 e1 e2 e3 e4 e5;exact⟨⟨k,f,wh,is,pu,fr⟩,rfl,⟨s0,s1,s2,s3,s4,s5⟩⟩
theorem Zrh {x:DataW H×List MemPlace} (h:DataW.trod enc prog W 0 (fun _=>true) true fuel 23 [c]=some x):∃ Ms,Zbc 0 W c Ms:=by
 rcases open_slice underlying23 h with ⟨hcs,_⟩ | ⟨a,len,cap,m,n,D,Pl,hcs,_,hl,hm,hmm,_,hx⟩
 . simp only [List.cons.injEq,and_true] at hcs
   exact⟨[],Or.inl ⟨_,_,hcs,rfl⟩⟩
 . simp only [List.cons.injEq,and_true] at hcs
   simp only [if_true] at hmm;subst hmm;rw [Tryz.cells106] at hx
   by_cases h0:len=0
   . subst h0
     exact⟨[],Or.inl ⟨_,_,hcs,rfl⟩⟩
   . obtain⟨Ms,hF,hall⟩:=ZbI (p:=fun i (m:Md)=>Zeb m/\W.cells? 0 (a.add (i*6)) 6=some [.string m.kind,.string m.field,.string m.wh,.string m.is,.string m.put,.string m.fr]) len (fun i hi=>by
      obtain⟨cs',h1,h2⟩:=hx i (by omega);obtain⟨md,e,hz⟩:=Zsw h2;rw [e] at h1;exact⟨md,hz,h1⟩)
     obtain⟨b,off,spot⟩:=a
     have hspot:spot=none:=by
      obtain⟨_,h1⟩:=hall 0 (by omega);have:=(World.cells?_some h1).2.2 0 (by omega);rw [Nat.zero_mul] at this;have e0:((⟨b,off,spot⟩:Addr).add 0).add 0=⟨b,off,spot⟩:=by simp [Addr.add]
      rw [e0] at this
      simpa using World.cell?_spot (by simpa using this)
     subst hspot
     have hcell:∀ i (hi:i < Ms.length),W.cells? 0 ((⟨b,off,none⟩:Addr).add (i*6)) 6=some [.string Ms[i].kind,.string Ms[i].field,.string Ms[i].wh,.string Ms[i].is,.string Ms[i].put,.string Ms[i].fr]->Zfj W b (off+i*6) Ms[i]:=fun i hi h1=>by
      obtain⟨_,_,hc⟩:=World.cells?_some h1;rw [add_plain] at hc;have q:=fun j (hj:j < 6)=>(add_plain b (off+i*6) j) ▸ hc j hj
      exact⟨by simpa using q 0 (by omega),by simpa using q 1 (by omega),by simpa using q 2 (by omega),by simpa using q 3 (by omega),by simpa using q 4 (by omega),by simpa using q 5 (by omega)⟩
     have hbw:b < W.heap.size:=by
      obtain⟨_,h1⟩:=hall 0 (by omega);exact World.block_lt_of_cell? W _ (hcell 0 (by omega) h1).c0
     refine⟨Ms,Or.inr ⟨b,off,m,by rw [hcs,hF],?_,by omega,hbw,Nat.zero_le _,by omega,fun i hi=>?_⟩⟩
     . intro e;rw [e] at hF;simp at hF;omega
     . obtain⟨hz,h1⟩:=hall i hi
       exact⟨hz,hcell i hi h1⟩
end
end Go.Proofs.YtmappejlmapboaaGreat
