import Derived.Test.YtmappejlmapboaaGreatD08
import Derived.Sort.Walk0
import Derived.Deep.RegionHeld3
set_option maxHeartbeats 16000000
set_option maxRecDepth 100000
open Go.Proofs.Tryz
namespace Go.Proofs.YtmappejlmapboaaGreat
section
open Go.RowKit Go.Deep
def ZcM (a b:Zy_):Int:=if Op.bytesLess a.toList b.toList=true then -1 else if (a.toList == b.toList)=true then 0 else 1
theorem Zmd (a:List UInt8):Op.bytesLess a a=false:=by rw [bytesLess_eq];exact decide_eq_false (List.lt_irrefl _)
theorem Zov {a b c:List UInt8} (h:Op.bytesLess a b=true) (h':Op.bytesLess b c=true):Op.bytesLess a c=true:=by
 rw [bytesLess_eq] at h h' |-;exact decide_eq_true (List.lt_trans (of_decide_eq_true h) (of_decide_eq_true h'))
theorem ZpQ (a:Zy_):ZcM a a=0:=by unfold ZcM;simp [Zmd]
theorem ZeM {a b:Zy_}:ZcM a b=0↔a=b:=by
 refine⟨fun h=>?_,fun h=>by rw [h];exact ZpQ _⟩;unfold ZcM at h
 split at h
 . omega
 . split at h
   . rename_i h2
     exact Zaz.1 h2
   . omega
theorem ZjE {a b:Zy_}:ZcM a b < 0↔Op.bytesLess a.toList b.toList=true:=by
 unfold ZcM
 split
 . rename_i h;simp [h]
 . rename_i h
   split <;> simp [h]
theorem ZsH (a b:Zy_):-1<=ZcM a b/\ZcM a b<=1:=by unfold ZcM;split <;> (try split) <;> omega
def orI (a b:Int):Int:=if a=0 then b else a
def Zfs (a b c d:Zy_):Int:=orI (ZcM a c) (ZcM b d)
def Znz (a b c d e f:Zy_):Int:=orI (ZcM a d) (orI (ZcM b e) (ZcM c f))
theorem Zr9 {a b:Int}:orI a b=0↔a=0/\b=0:=by unfold orI;split <;> omega
theorem ZhY (a b:Zy_) (w:World) :
 Calls prog 172 #[.string a,.string b] w fun e w'=>e=.returned (.int .i64 (ZcM a b))/\w'=w:=by
 cases h1:Op.bytesLess a.toList b.toList with
 | true=>
  have HE:Hd (ZcM a b= -1):=by unfold Hd ZcM;rw [h1];rfl
  go_enter func172,ntmps172;go_wp2;go_ret;exact⟨ZaE HE.o.symm,rfl⟩
 | false=>
  cases h2:(a.toList == b.toList) with
  | true=>
   have HE:Hd (ZcM a b=0):=by unfold Hd ZcM;rw [h1,h2];rfl
   go_enter func172,ntmps172;go_wp2;go_ret;exact⟨ZaE HE.o.symm,rfl⟩
  | false=>
   have HE:Hd (ZcM a b=1):=by unfold Hd ZcM;rw [h1,h2];rfl
   go_enter func172,ntmps172;go_wp2;go_ret;exact⟨ZaE HE.o.symm,rfl⟩
theorem Zj4 (a:Zy_) (w:World):Calls prog 270 #[.string a] w fun e w'=>e=.returned (.bool false)/\w'=w:=by
 have h:=Zda a;go_enter func270,ntmps270;go_wp2;go_ret;exact⟨rfl,rfl⟩
theorem Zgx (a b:Zy_) (w:World) :
 Calls prog 240 #[.string a,.string b] w fun e w'=>e=.returned (.int .i64 (ZcM a b))/\w'=w:=by
 cases h1:Op.bytesLess a.toList b.toList with
 | true=>
  have HE:Hd (ZcM a b= -1):=by unfold Hd ZcM;rw [h1];rfl
  go_enter func240,ntmps240;go_wp2_with (go_at_call 270;refine (Zj4 _ _).mono ?_;rintro e w' ⟨rfl,rfl⟩);go_ret;exact⟨ZaE HE.o.symm,rfl⟩
 | false=>
  cases h2:(a.toList == b.toList) with
  | true=>
   have HE:Hd (ZcM a b=0):=by unfold Hd ZcM;rw [h1,h2];rfl
   go_enter func240,ntmps240;go_wp2_with (go_at_call 270;refine (Zj4 _ _).mono ?_;rintro e w' ⟨rfl,rfl⟩);go_ret;exact⟨ZaE HE.o.symm,rfl⟩
  | false=>
   have HE:Hd (ZcM a b=1):=by unfold Hd ZcM;rw [h1,h2];rfl
   go_enter func240,ntmps240;go_wp2_with (go_at_call 270;refine (Zj4 _ _).mono ?_;rintro e w' ⟨rfl,rfl⟩);go_ret;exact⟨ZaE HE.o.symm,rfl⟩
theorem Zdn (a b c d:Zy_) (w:World) :
 Calls prog 128 #[.string a,.string b,.string c,.string d] w fun e w'=>e=.returned (.int .i64 (Zfs a b c d))/\w'=w:=by
 have hk:=ZsH a c
 by_cases h0:ZcM a c=0
 . have HE:Hd (Zfs a b c d=ZcM b d):=by unfold Hd Zfs orI;rw [if_pos h0]
   have h0':(ZcM a c != 0)=false:=by simp [h0]
   have H0:=Zab h0;clear h0;go_enter func128,ntmps128;go_wp2_with (go_at_call 172;refine (ZhY _ _ _).mono ?_;rintro e w' ⟨rfl,rfl⟩);go_ret;exact⟨ZaE HE.o.symm,rfl⟩
 . have HE:Hd (Zfs a b c d=ZcM a c):=by unfold Hd Zfs orI;rw [if_neg h0]
   have h0':(ZcM a c != 0)=true:=by simp [h0]
   clear h0;go_enter func128,ntmps128;go_wp2_with (go_at_call 172;refine (ZhY _ _ _).mono ?_;rintro e w' ⟨rfl,rfl⟩);go_ret;exact⟨ZaE HE.o.symm,rfl⟩
end
section
open Go.RowKit Go.Deep
variable {w w' wr w1:World} {b o lo B k:Nat} {v:Value}
structure Pu where
 dr:Zy_
 tm:Zy_
 re:Zy_
 am:Int
 un:Int
variable {x:Pu} {Xl:List Pu}
structure ZeJ (x:Pu):Prop where
 s0:x.dr.size<=maxLen
 s1:x.tm.size<=maxLen
 s2:x.re.size<=maxLen
def Zhw (x:Pu):Prop:=x=x
structure ZcU (w:World) (b o:Nat) (x:Pu):Prop where
 c0:w.cell? ⟨b,o,none⟩=some (.string x.dr)
 c1:w.cell? ⟨b,o+1,none⟩=some (.string x.tm)
 c2:w.cell? ⟨b,o+2,none⟩=some (.string x.re)
 c3:w.cell? ⟨b,o+3,none⟩=some (.int .i64 x.am)
 c4:w.cell? ⟨b,o+4,none⟩=some (.int .i64 x.un)
theorem ZcU.below (h:ZcU w b o x ) {m:Nat} (hb:Below m w w') (hlt:b < m):ZcU w' b o x:=by
 have e:∀ o,w'.cell? ⟨b,o,none⟩=w.cell? ⟨b,o,none⟩:=fun o=>hb.cell (p:=⟨b,o,none⟩) hlt
 exact⟨by rw [e];exact h.c0,by rw [e];exact h.c1,by rw [e];exact h.c2,by rw [e];exact h.c3,by rw [e];exact h.c4⟩
theorem ZcU.set (h:ZcU w b o x ) {p:Addr} (hp:b≠p.block) (u:Value):ZcU (w.setCell p u) b o x:=by
 have e:∀ o,(w.setCell p u).cell? ⟨b,o,none⟩=w.cell? ⟨b,o,none⟩:=fun o=>Zar _ _ _ _ hp
 exact⟨by rw [e];exact h.c0,by rw [e];exact h.c1,by rw [e];exact h.c2,by rw [e];exact h.c3,by rw [e];exact h.c4⟩
def Zb9 (lo:Nat) (w:World) (v:Value) (Xl:List Pu):Prop:=
 (∃ (a:Option Addr) (cap:Nat),v=.slice a 0 cap/\Xl=[])\/
 ∃ (b off cap:Nat),v=.slice (some ⟨b,off,none⟩) Xl.length cap/\Xl≠[]/\Xl.length<=maxLen/\b < w.heap.size/\lo<=b/\Xl.length<=cap/\
  ∀ i (h:i < Xl.length),ZeJ Xl[i]/\ZcU w b (off+i*5) Xl[i]
theorem Zb9.below (h:Zb9 lo w v Xl) (hb:Zw_ w w'):Zb9 lo w' v Xl:=by
 rcases h with h | ⟨b,off,cap,h1,h2,h3,h4,h5,h6,h7⟩
 . exact Or.inl h
 . refine Or.inr ⟨b,off,cap,h1,h2,h3,Zk_ h4 hb.size,h5,h6,fun i hi=>?_⟩
   obtain⟨hs,hc⟩:=h7 i hi;exact⟨hs,hc.below hb h4⟩
theorem Zb9.mono {lo':Nat} (h:Zb9 lo w v Xl) (hl:lo'<=lo):Zb9 lo' w v Xl:=by
 rcases h with h | ⟨b,off,cap,h1,h2,h3,h4,h5,h6,h7⟩
 . exact Or.inl h
 . refine Or.inr ⟨b,off,cap,h1,h2,h3,h4,Nat.le_trans hl h5,h6,fun i hi=>?_⟩
   obtain⟨hs,hc⟩:=h7 i hi;exact⟨hs,hc⟩
theorem Zb9.set (h:Zb9 lo w v Xl) {p:Addr} (hp:p.block < lo) (u:Value):Zb9 lo (w.setCell p u) v Xl:=by
 rcases h with h | ⟨b,off,cap,h1,h2,h3,h4,h5,h6,h7⟩
 . exact Or.inl h
 . refine Or.inr ⟨b,off,cap,h1,h2,h3,by simpa [World.setCell] using h4,h5,h6,fun i hi=>?_⟩
   obtain⟨hs,hc⟩:=h7 i hi;exact⟨hs,hc.set (by omega) u⟩
theorem Zb9.form (h:Zb9 lo w v Xl):∃ a cap,v=.slice a Xl.length cap:=by
 rcases h with ⟨a,cap,h,rfl⟩ | ⟨b,off,cap,h,_⟩
 . exact⟨a,cap,h⟩
 . exact⟨_,cap,h⟩
theorem Zb9.max (h:Zb9 lo w v Xl):Xl.length<=maxLen:=by
 rcases h with ⟨a,cap,h,rfl⟩ | ⟨b,off,cap,h,_,h3,_⟩
 . exact Nat.zero_le _
 . exact h3
theorem Zb9.full (h:Zb9 lo w v Xl) (hne:Xl≠[]):∃ (b off cap:Nat),v=.slice (some ⟨b,off,none⟩) Xl.length cap/\Xl.length<=maxLen/\b < w.heap.size/\Xl.length<=cap/\
 ∀ i (h:i < Xl.length),ZeJ Xl[i]/\ZcU w b (off+i*5) Xl[i]:=by
 rcases h with ⟨_,_,_,h⟩ | ⟨b,off,cap,h1,_,h3,h4,_,h6,h7⟩
 . exact absurd h hne
 . exact⟨b,off,cap,h1,h3,h4,h6,h7⟩
theorem Zb9.full' {a:Option Addr}{n cap:Nat} (h:Zb9 lo w (.slice a n cap) Xl) (hL:0 < Xl.length) :
 ∃ b off,a=some ⟨b,off,none⟩/\b < w.heap.size/\lo<=b/\∀ i (h:i < Xl.length),ZeJ Xl[i]/\ZcU w b (off+i*5) Xl[i]:=by
 rcases h with ⟨a',cap',h,rfl⟩ | ⟨b',off',cap',h1,h2,h3,h4,h5,h6,h7⟩
 . simp at hL
 . injection h1 with e1 e2 e3
   exact⟨b',off',e1,h4,h5,h7⟩
def Ze5 (Xl:List Pu):Prop:=Xl.length<=1048576/\∀ i (h:i < Xl.length),Zhw Xl[i]
def Zul (Xl:List Pu) (left r:Int):Prop:= -1<=r/\r<=left/\(0<=r->Ze5 Xl)
theorem Zsl (x:Pu) (left:Int) (w:World) (h0:0<=left) (h1:left<=1048576) (hz:ZeJ x) :
 Calls prog 80 #[.agg #[.string x.dr,.string x.tm,.string x.re,.int .i64 x.am,.int .i64 x.un],.int .i64 left] w
  fun e w'=>∃ r:Int,e=.returned (.int .i64 r)/\Zw_ w w'/\-1<=r/\r<=left/\(0<=r->Zhw x):=by
 obtain⟨s0,s1,s2⟩:=hz;unfold maxLen at s0 s1 s2;go_enter func80,ntmps80;go_wp2
 all_goals go_ret
 all_goals exact⟨_,rfl,Zb_.alloc Zl_ _,by omega,by omega,fun _=>rfl⟩
theorem Znn (x:Pu) (w:World) :
 Calls prog 92 #[.agg #[.string x.dr,.string x.tm,.string x.re,.int .i64 x.am,.int .i64 x.un]] w fun e w'=>e=.returned (.agg #[.string x.dr,.string x.tm,.string x.re,.int .i64 x.am,.int .i64 x.un])/\Zw_ w w':=by
 go_enter func92,ntmps92;go_wp2;refine bodyPost_ret (v:=.agg #[.string x.dr,.string x.tm,.string x.re,.int .i64 x.am,.int .i64 x.un]) (by simp [results,results92,go_sem]) rfl ⟨rfl,?_⟩
 repeat (refine Below.setCell ?_ (by simp) _)
 exact ((Zb_.alloc Zl_ _).alloc (by simp) _).alloc (by simp;omega) _
theorem Zqa (x:Pu) (w:World) :
 Calls prog 103 #[.agg #[.string x.dr,.string x.tm,.string x.re,.int .i64 x.am,.int .i64 x.un],.agg #[.string x.dr,.string x.tm,.string x.re,.int .i64 x.am,.int .i64 x.un]] w fun e w'=>e=.returned (.bool true)/\Zw_ w w':=by
 go_enter func103,ntmps103;go_wp2;go_ret;exact⟨rfl,(Zb_.alloc Zl_ _).alloc (by simp) _⟩
theorem Zrb (lo:Nat) (v:Value) (Xl:List Pu) (left:Int) (w:World) (h0:0<=left) (h1:left<=1048576) (hv:Zb9 lo w v Xl) :
 Calls prog 33 #[v,.int .i64 left] w fun e w'=>∃ r:Int,e=.returned (.int .i64 r)/\Zw_ w w'/\Zul Xl left r:=by
 rcases hv with ⟨a,cap,rfl,rfl⟩ | ⟨b,off,cap,rfl,hne,hm,hbw,_,_,hc⟩
 . go_enter func33,ntmps33
   go_wp2
   go_loop [1,5] (fun l i=>∃ r:Int,l=.int .i64 r/\0<=r/\r<=left/\i=.int .i64 0) (fun _ _=>0)
   case atStart=>exact⟨_,rfl,by omega,by omega,rfl⟩
   case round=>
    obtain⟨r,rfl,hr0,hr1,rfl⟩:=hrel;go_wp2;go_ret;exact⟨r,rfl,Below.refl _ _,by omega,by omega,fun _=>⟨by simp,fun i h=>by simp at h⟩⟩
 . unfold maxLen at hm
   by_cases hle:(Xl.length:Int)<=left
   . go_enter func33,ntmps33
     go_wp2
     go_loopw [1,5] (fun l i wr=>∃ (r:Int) (k:Nat),l=.int .i64 r/\0<=r/\r<=left/\i=.int .i64 k/\k<=Xl.length/\Zw_ w wr/\∀ j (hj:j < Xl.length),j < k->Zhw Xl[j]) (fun _ i _=>Xl.length - (intOf i).toNat)
     case atStart=>exact⟨_,0,rfl,by omega,by omega,rfl,by omega,Below.refl _ _,fun j _ h=>by omega⟩
     case round=>
      obtain⟨r,k,rfl,hr0,hr1,rfl,hk,hb,hall⟩:=hrel;have HA:=Zab hall;clear hall
      by_cases hlt:k < Xl.length
      . obtain⟨hs,hc⟩:=hc k hlt
        obtain⟨c0,c1,c2,c3,c4⟩:=hc.below hb hbw;clear hc;go_wp2_with fail;refine (Zsl _ _ _ hr0 (by omega) hs).mono ?_;rintro e w1 ⟨r1,rfl,hb1,q0,q1,q2⟩;have HQ2:=Zab q2;have hB:Hd (Zw_ w w1):=hb.trans (hb1.mono hb.size);clear hb1 c0 c1 c2 c3 c4 hb q2
        by_cases hneg:r1 < 0
        . go_wp2
          go_ret;exact⟨-1,rfl,hB.o,by omega,by omega,fun h=>by omega⟩
        . have HL:Hd (Zhw Xl[k]):=HQ2.o (by omega)
          clear HQ2;go_wp2;go_roundw
          case rel=>exact⟨_,k+1,rfl,by omega,by omega,by go_num,by omega,hB.o,fun j hj h=>by
                     by_cases e:j=k
                     . subst e;exact HL.o
                     . exact HA.o j hj (by omega)⟩
          . simp [intOf];omega
      . go_wp2
        go_ret;exact⟨r,rfl,hb,by omega,by omega,fun _=>⟨by omega,fun j hj=>HA.o j hj (by omega)⟩⟩
   . go_enter func33,ntmps33
     go_wp2;go_ret;exact⟨-1,rfl,Below.refl _ _,by omega,by omega,fun h=>by omega⟩
theorem Zn8 (lo lo':Nat) (v v':Value) (Xl:List Pu) (w:World) (hv:Zb9 lo w v Xl) (hv':Zb9 lo' w v' Xl) :
 Calls prog 51 #[v,v'] w fun e w'=>e=.returned (.bool true)/\Zw_ w w':=by
 by_cases hL:Xl=[]
 . subst hL
   obtain⟨a,cap,rfl⟩:=hv.form;obtain⟨a',cap',rfl⟩:=hv'.form;clear hv hv';go_enter func51,ntmps51;go_wp2
   go_loop [5] (fun i=>i=.int .i64 0) (fun _=>0)
   case atStart=>rfl
   case round=>
    subst hrel;go_wp2;go_ret;exact⟨rfl,Below.refl _ _⟩
 . obtain⟨b,off,cap,rfl,hm,hbw,_,hc⟩:=hv.full hL
   obtain⟨b',off',cap',rfl,_,hbw',_,hc'⟩:=hv'.full hL;clear hv hv';unfold maxLen at hm;go_enter func51,ntmps51;go_wp2
   go_loopw [5] (fun i wr=>∃ k:Nat,i=.int .i64 k/\k<=Xl.length/\Zw_ w wr) (fun i _=>Xl.length - (intOf i).toNat)
   case atStart=>exact⟨0,rfl,by omega,Below.refl _ _⟩
   case round=>
    obtain⟨k,rfl,hk,hb⟩:=hrel
    by_cases hlt:k < Xl.length
    . obtain⟨hs,hc⟩:=hc k hlt
      obtain⟨ht,hd⟩:=hc' k hlt;obtain⟨c0,c1,c2,c3,c4⟩:=hc.below hb hbw;obtain⟨d0,d1,d2,d3,d4⟩:=hd.below hb hbw';clear hc hd hs ht;have HB:=Zab hb;clear hb;go_wp2
      go_region_with (go_at_call 103;refine (Zqa _ _ ).mono ?_;rintro e w1 ⟨rfl,hb1⟩;have hB:Hd (Zw_ w w1):=(HB.o.drew).trans (hb1.mono HB.o.size);clear hb1)
      all_goals go_wp2
      all_goals go_roundw
      all_goals first
       | (case rel=>exact⟨k+1,by go_num,by omega,hB.o⟩)
       | (case measure=>simp [intOf];omega)
    . go_wp2
      go_ret;exact⟨rfl,hb⟩
theorem Tryz.info144:(prog.info? 144).map (fun i=>(i.zero,i.size,i.bytes))=some (some (.agg #[.string ⟨#[]⟩,.string ⟨#[]⟩,.string ⟨#[]⟩,.int .i64 0,.int .i64 0]),5,64):=by kernel_rfl
def Zb1 (wr:World) (B:Nat) (Xl:List Pu) (k:Nat):Prop:=
 ∃ f,wr.rowIs B 144 (Xl.length*5) f/\∀ i (h:i < Xl.length),i < k->ZeJ Xl[i]/\f (i*5)=.string Xl[i].dr/\f (i*5+1)=.string Xl[i].tm/\f (i*5+2)=.string Xl[i].re/\f (i*5+3)=.int .i64 Xl[i].am/\f (i*5+4)=.int .i64 Xl[i].un
theorem Zb1.below (h:Zb1 wr B Xl k) (hb:Below wr.heap.size wr w1):Zb1 w1 B Xl k:=by
 obtain⟨f,hr,hall⟩:=h;refine⟨f,hr.of_block (hb.block B hr.lt),fun i hi hik=>?_⟩;obtain⟨hz,h0,h1,h2,h3,h4⟩:=hall i hi hik;exact⟨hz,h0,h1,h2,h3,h4⟩
theorem Zb1.free (h:Zb1 wr B Xl k) (i:Nat):wr.frozen? ⟨B,i,none⟩=false:=by
 obtain⟨f,hr,_⟩:=h;exact hr.frozen i
theorem Zb1.there (h:Zb1 wr B Xl k) (i:Nat) (hi:i < Xl.length*5):∃ v,wr.cell? ⟨B,i,none⟩=some v:=by
 obtain⟨f,hr,_⟩:=h;exact⟨_,hr.cell hi⟩
theorem Zb1.step (h:Zb1 w1 B Xl k) (hk:k < Xl.length) (hz:ZeJ Xl[k]) :
 Zb1 (((((w1.setCell ⟨B,k*5,none⟩ (.string Xl[k].dr)).setCell ⟨B,k*5+1,none⟩ (.string Xl[k].tm)).setCell ⟨B,k*5+2,none⟩ (.string Xl[k].re)).setCell ⟨B,k*5+3,none⟩ (.int .i64 Xl[k].am)).setCell ⟨B,k*5+4,none⟩ (.int .i64 Xl[k].un)) B Xl (k+1):=by
 obtain⟨f,hr,hall⟩:=h;refine⟨_,(((((hr.set _ _).set _ _).set _ _).set _ _).set _ _),fun i hi hik=>?_⟩
 by_cases e:i=k
 . subst e
   refine⟨hz,by simp,by simp,by simp,by simp,by simp⟩
 . obtain⟨hz',h0,h1,h2,h3,h4⟩:=hall i hi (by omega)
   refine⟨hz',?_,?_,?_,?_,?_⟩
   . rw [if_neg (by omega),if_neg (by omega),if_neg (by omega),if_neg (by omega),if_neg (by omega)];exact h0
   . rw [if_neg (by omega),if_neg (by omega),if_neg (by omega),if_neg (by omega),if_neg (by omega)];exact h1
   . rw [if_neg (by omega),if_neg (by omega),if_neg (by omega),if_neg (by omega),if_neg (by omega)];exact h2
   . rw [if_neg (by omega),if_neg (by omega),if_neg (by omega),if_neg (by omega),if_neg (by omega)];exact h3
   . rw [if_neg (by omega),if_neg (by omega),if_neg (by omega),if_neg (by omega),if_neg (by omega)];exact h4
theorem Zb1.done (h:Zb1 wr B Xl k) (hk:Xl.length<=k) (hne:Xl≠[]) (hm:Xl.length<=maxLen):Zb9 B wr (.slice (some ⟨B,0,none⟩) Xl.length Xl.length) Xl:=by
 obtain⟨f,hr,hall⟩:=h;refine Or.inr ⟨B,0,Xl.length,rfl,hne,hm,hr.lt,Nat.le_refl _,Nat.le_refl _,fun i hi=>?_⟩;obtain⟨hz,h0,h1,h2,h3,h4⟩:=hall i hi (by omega);rw [Nat.zero_add];exact⟨hz,⟨by rw [hr.cell (by omega),h0],by rw [hr.cell (by omega),h1],by rw [hr.cell (by omega),h2],by rw [hr.cell (by omega),h3],by rw [hr.cell (by omega),h4]⟩⟩
theorem Zb1.new (w:World) (Xl:List Pu) (z:Array Value):Zb1 (w.alloc (.cells (madeCells z (Xl.length*5)) 144)) w.heap.size Xl 0:=by
 refine⟨fun i=>(madeCells z (Xl.length*5)).getD i default,?_,fun i _ h=>by omega⟩;have:=World.rowIs_alloc w (madeCells z (Xl.length*5)) 144 (fun i=>(madeCells z (Xl.length*5)).getD i default) (fun i hi=>by simp [Array.getD,hi])
 rwa [size_madeCells] at this
theorem Zrp (lo:Nat) (v:Value) (Xl:List Pu) (w:World) (hv:Zb9 lo w v Xl) (hn:Ze5 Xl) :
 Calls prog 42 #[v] w fun e w'=>∃ v',e=.returned v'/\Zw_ w w'/\Zb9 w.heap.size w' v' Xl:=by
 obtain⟨i0,hi,hz0,hz1,hz2⟩:=info_parts Tryz.info144;have hn1:=hn.1;clear hn
 by_cases hL:Xl=[]
 . subst hL
   obtain⟨a,cap,rfl⟩:=hv.form;clear hv
   have hmk:∀ u:World,(Instr.makeSlice 46 (.int .i64 0) (.int .i64 0)).run prog u=.ok (.slice (some ⟨u.heap.size,0,none⟩) 0 0) (u.alloc (.cells (madeCells (Value.cells (.agg #[.string ⟨#[]⟩,.string ⟨#[]⟩,.string ⟨#[]⟩,.int .i64 0,.int .i64 0])) 0) 144)):=fun u=>by
    have h:=run_make (P:=prog) u 46 144 i0 _ underlying46 hi hz0 .i64 .i64 0 0 (by omega) (by omega) (by omega) (by omega)
    simpa [hz1] using h
   go_enter func42,ntmps42;go_wp2
   go_loop [4] (fun i=>i=.int .i64 0) (fun _=>0)
   case atStart=>rfl
   case round=>
    subst hrel;go_wp2;go_ret;exact⟨_,rfl,Zb_.alloc Zl_ _,Or.inl ⟨_,_,rfl,rfl⟩⟩
 . obtain⟨b,off,cap,rfl,hm,hbw,_,hc⟩:=hv.full hL
   clear hv;have HM:Hd (Xl.length<=maxLen):=hm;unfold maxLen at hm
   have hmk:∀ u:World,(Instr.makeSlice 46 (.int .i64 (Xl.length:Int)) (.int .i64 (Xl.length:Int))).run prog u=.ok (.slice (some ⟨u.heap.size,0,none⟩) Xl.length Xl.length) (u.alloc (.cells (madeCells (Value.cells (.agg #[.string ⟨#[]⟩,.string ⟨#[]⟩,.string ⟨#[]⟩,.int .i64 0,.int .i64 0])) (Xl.length*5)) 144)):=fun u=>by
    have h:=run_make (P:=prog) u 46 144 i0 _ underlying46 hi hz0 .i64 .i64 Xl.length Xl.length (by omega) (by omega) (by rw [hz2];omega) (by omega);rw [hz1] at h
    simpa using h
   clear hi hz0 hz1 hz2;go_enter func42,ntmps42;go_wp2;clear hmk
   go_loopw [4] (fun i wr=>∃ k:Nat,i=.int .i64 k/\k<=Xl.length/\Zw_ w wr/\Zb1 wr w.heap.size Xl k) (fun i _=>Xl.length - (intOf i).toNat)
   case atStart=>exact⟨0,rfl,by omega,Zb_.alloc Zl_ _,Zb1.new w Xl _⟩
   case round=>
    obtain⟨k,rfl,hk,hb,hf⟩:=hrel
    by_cases hlt:k < Xl.length
    . obtain⟨hs,hc⟩:=hc k hlt
      obtain⟨c0,c1,c2,c3,c4⟩:=hc.below hb hbw
      have hBl:w.heap.size < wr.heap.size:=by
       obtain⟨_,hr,_⟩:=hf;exact hr.lt
      clear hc;go_wp2_with fail;refine (Znn _ _ ).mono ?_;rintro e w1 ⟨rfl,hb1⟩;have hf1:=hf.below hb1;have HST:=Zab (hf1.step hlt hs );have hB:Hd (Zw_ w w1):=hb.trans (hb1.mono hb.size);have hfr:=hf1.free;obtain⟨o0,ho0⟩:=hf1.there (k*5) (by omega);obtain⟨o1,ho1⟩:=hf1.there (k*5+1) (by omega);obtain⟨o2,ho2⟩:=hf1.there (k*5+2) (by omega);obtain⟨o3,ho3⟩:=hf1.there (k*5+3) (by omega);obtain⟨o4,ho4⟩:=hf1.there (k*5+4) (by omega);clear hf hf1 hb1 hb c0 c1 c2 c3 c4;go_wp2;go_roundw
      . 
       exact⟨k+1,by go_num,by omega,(((((hB.o.setCell Zl_ _).setCell Zl_ _).setCell Zl_ _).setCell Zl_ _).setCell Zl_ _),HST.o⟩
      . simp [intOf];omega
    . go_wp2
      go_ret;exact⟨_,rfl,hb,hf.done (by omega) hL HM.o⟩
end
section
open Go.RowKit Go.Deep
variable {a:Option Addr} {n cap:Nat}
def Zby (f:Fd) (v:Zy_):Int:=if v.toList.isEmpty=true then (if f.mu=true then 2 else 0) else if ZaM f.kd f.le f.mo f.words v=true then 0 else 3
def Zbh (Fs:List Fd) (V:List Zy_):List Int:=List.zipWith Zby Fs V
def ff:List Int->Nat->Int×Int
 | [],_=>(0,0)
 | c :: r,n=>if c=0 then ff r (n+1) else (c,n)
theorem Zst:∀ (L:List Int) (n:Nat),(∀ k (hk:k < L.length),L[k]=0)->ff L n=(0,0)
 | [],_,_=>rfl
 | c :: r,n,h=>by
  have h0:c=0:=h 0 (by simp);unfold ff;rw [if_pos h0];exact Zst r (n+1) fun k hk=>h (k+1) (by simpa using hk)
theorem Zsu:∀ (L:List Int) (n k:Nat) (hk:k < L.length),L[k]≠0->(∀ j (hj:j < L.length),j < k->L[j]=0)->ff L n=(L[k],((n+k:Nat):Int))
 | c :: r,n,0,_,h,_=>by
  have h':c≠0:=h;unfold ff;rw [if_neg h'];simp
 | c :: r,n,k+1,hk,h,hall=>by
  have h0:c=0:=hall 0 (by simp) (by omega);unfold ff;rw [if_pos h0,Zsu r (n+1) k (by simpa using hk) h (fun j hj hjk=>hall (j+1) (by simpa using hj) (by omega))];simp only [List.getElem_cons_succ,Prod.mk.injEq,true_and]
  omega
theorem ZdP {Fs:List Fd}{V:List Zy_} (h:V.length=Fs.length):(Zbh Fs V).length=Fs.length:=by simp [Zbh,h]
theorem Zgz {Fs:List Fd}{V:List Zy_}{i:Nat} (h:i < (Zbh Fs V).length) (h1:i < Fs.length) (h2:i < V.length):(Zbh Fs V)[i]=Zby Fs[i] V[i]:=by simp [Zbh]
theorem ZhL {Fs:List Fd}{V:List Zy_} (hl:V.length=Fs.length) (h:∀ j (h1:j < Fs.length) (h2:j < V.length),j < Fs.length->Zby Fs[j] V[j]=0):ff (Zbh Fs V) 0=(0,0):=
 Zst _ _ fun k hk=>by rw [Zgz hk (by rw [ZdP hl] at hk;exact hk) (by rw [ZdP hl] at hk;omega)];exact h k _ _ (by rw [ZdP hl] at hk;exact hk)
theorem Ze7 {Fs:List Fd}{V:List Zy_} (hl:V.length=Fs.length) {k:Nat} {c:Int} (h1:k < Fs.length) (h2:k < V.length) (hc:Zby Fs[k] V[k]=c) (h0:c≠0) (h:∀ j (h1:j < Fs.length) (h2:j < V.length),j < k->Zby Fs[j] V[j]=0):ff (Zbh Fs V) 0=(c,(k:Int)):=by
 have hk:k < (Zbh Fs V).length:=by rw [ZdP hl];exact h1
 have e:(Zbh Fs V)[k]=c:=by rw [Zgz hk h1 h2];exact hc
 rw [Zsu _ 0 k hk (by rw [e];exact h0) (fun j hj hjk=>by rw [Zgz hj (by rw [ZdP hl] at hj;exact hj) (by omega)];exact h j _ _ hjk),e,Nat.zero_add]
def ZlU (r:Int×Int):Value:=if r.1=0 then .nilIface else .iface 347 (.agg #[.int .i64 r.1,.int .i64 r.2])
theorem Zau.fullz {lo:Nat}{w:World}{Fs:List Fd} (h:Zau lo w (.slice a n cap) Fs) (hL:0 < Fs.length) :
 ∃ b off,a=some ⟨b,off,none⟩/\b < w.heap.size/\∀ i (h:i < Fs.length),Zfn Fs[i]/\∃ wv,ZcR w b (off+i*11) Fs[i] wv/\Zaf w wv Fs[i].words:=by
 rcases h with ⟨a',cap',h,rfl⟩ | ⟨b',off',cap',h1,h2,h3,h4,h5,h6,h7⟩
 . simp at hL
 . injection h1 with e1 e2 e3
   exact⟨b',off',e1,h4,fun i hi=>by obtain⟨q1,wv,q2,q3⟩:=h7 i hi;exact⟨q1,wv,q2,q3.at⟩⟩
theorem Zau.len {lo:Nat}{w:World}{v:Value}{Fs:List Fd} (h:Zau lo w v Fs):Fs.length<=maxLen:=by
 rcases h with ⟨_,_,_,rfl⟩ | ⟨_,_,_,_,_,h,_⟩
 . exact Nat.zero_le _
 . exact h
theorem Zaf.fullz {w:World}{L:List Zy_} (h:Zaf w (.slice a n cap) L) (hL:0 < L.length) :
 ∃ b off,a=some ⟨b,off,none⟩/\n=L.length/\b < w.heap.size/\∀ i (h:i < L.length),L[i].size<=maxLen/\w.cell? ⟨b,off+i,none⟩=some (.string L[i]):=by
 rcases h with ⟨a',cap',h,rfl⟩ | ⟨b',off',cap',h1,h2,h3,h4,h5,h6⟩
 . simp at hL
 . injection h1 with e1 e2 e3
   exact⟨b',off',e1,e2,h4,fun i hi=>⟨h6 _ (List.getElem_mem hi),h5 i hi⟩⟩
section
variable (kd kind nm team:Zy_) (vv hv fv:Value) (en:Bool) (ver:Int) (V Ho:List Zy_) (Fs:List Fd) (w:World) (lo:Nat)
theorem ZhB (hV:Zaf w vv V) (hF:Zau lo w fv Fs) (hl:V.length=Fs.length) :
 Calls prog 291 #[.agg #[.string kd,fv],.agg #[.string kind,.string nm,.string team,vv,.bool en,hv,.int .i64 ver]] w
  fun e w'=>e=.returned (ZlU (ff (Zbh Fs V) 0))/\Zw_ w w':=by
 have HV:=Zab hV;have HF:=Zab hF;obtain⟨a,n,cap,rfl⟩:=hV.form;obtain⟨a1,cap1,rfl⟩:=hF.form;have HL:=Zab hl;have hn:=hF.len;unfold maxLen at hn;clear hV hF hl;have HW:∀ o o',Hd (Zw_ w ((w.alloc o).alloc o')):=fun o o'=>(Zb_.alloc Zl_ _).alloc (by simp) _
 go_enter func291,ntmps291;go_wp2_with fail;refine (Ze9 _).mono ?_;rintro e w1 ⟨rfl,hw1⟩;have hr1:w1.heap[w.heap.size+2]?=some (.map Zak 4):=by have:=Zg5 ((w.alloc (.cells #[.string kd,.slice a1 Fs.length cap1] 131)).alloc (.cells #[.string kind,.string nm,.string team,.slice a n cap,.bool en,hv,.int .i64 ver] 128)) (.map Zak 4);rw [<- hw1] at this;simpa using this
 have hbx:Hd (∀ i,w1.cell? ⟨w.heap.size,i,none⟩=(#[.string kd,.slice a1 Fs.length cap1]:Array Value)[i]?):=fun i=>by
  rw [hw1,World.cell?_alloc_lt _ _ _ (by simp;omega),World.cell?_alloc_lt _ _ _ (by simp)];simp
 have hby:Hd (∀ i,w1.cell? ⟨w.heap.size+1,i,none⟩=(#[.string kind,.string nm,.string team,.slice a n cap,.bool en,hv,.int .i64 ver]:Array Value)[i]?):=fun i=>by
  rw [hw1,World.cell?_alloc_lt _ _ _ (by simp)];simp
 have HB1:Hd (Zw_ w w1):=by rw [hw1];exact (HW _ _).o.alloc (by simp;omega) _
 have hz1:w1.heap.size=w.heap.size+3:=by rw [hw1];simp
 have HR1:=Zab hr1;clear hw1 hr1;have q0:=hbx.o;go_wp2
 go_loopw [13] (fun i wr=>∃ k:Nat,i=.int .i64 k/\k<=Fs.length/\Below w1.heap.size w1 wr/\∀ j (h1:j < Fs.length) (h2:j < V.length),j < k->Zby Fs[j] V[j]=0) (fun i _=>Fs.length - (intOf i).toNat)
 case atStart=>exact⟨0,rfl,by omega,Below.refl _ _,fun j _ _ h=>by omega⟩
 case round=>
  obtain⟨k,rfl,hk,hb,hall⟩:=hrel;have HA:=Zab hall;have HBB:=Zab hb;have hszr:w.heap.size+2 < wr.heap.size:=by have:=hb.size;omega
  have hsz1:w.heap.size+1 < wr.heap.size:=by omega
  have HBr:Hd (Zw_ w wr):=HB1.o.trans (hb.mono (by omega));have HRr:Hd (wr.heap[w.heap.size+1+1]?=some (.map Zak 4)):=by unfold Hd;rw [hb.block _ (by omega)];exact HR1.o
  have hO:∀ i,wr.cell? ⟨w.heap.size+1,i,none⟩=(#[.string kind,.string nm,.string team,.slice a n cap,.bool en,hv,.int .i64 ver]:Array Value)[i]?:=fun i=>by
   rw [hb.cell (p:=⟨w.heap.size+1,i,none⟩) (by simp only [];omega)];exact hby.o i
  clear hb hall q0
  by_cases hlt:k < Fs.length
  . have hlv:k < V.length:=by have:=HL.o;omega
    obtain⟨fb,foff,rfl,hfb,hfc⟩:=HF.o.fullz (by omega);obtain⟨hsz,wv,hcell,hst⟩:=hfc k hlt;obtain⟨c0,c1,c2,c3,c4,c5,c6,c7,c8,c9,c10⟩:=hcell.below HBr.o hfb;obtain⟨wa,wn,wcap,rfl⟩:=hst.form;obtain⟨vb,voff,rfl,rfl,hvb,hvc⟩:=HV.o.fullz (by omega);have hvk:wr.cell? ⟨vb,voff+k,none⟩=some (.string V[k]):=by rw [HBr.o.cell (p:=⟨vb,_,none⟩) hvb];exact (hvc k hlv).2
    have hvbr:vb < wr.heap.size:=by have:=HBr.o.size;omega
    have HZ:=Zab (hvc k hlv).1;have HST:=Zab hst;clear hcell hst hvc hfc hsz
    cases he:V[k].toList.isEmpty with
    | true=>
     cases hm:Fs[k].mu with
     | true=>
      have HX:Hd (ff (Zbh Fs V) 0=(2,(k:Int))):=Ze7 HL.o hlt hlv (by unfold Zby;rw [he,hm];rfl) (by decide) HA.o;have HBo:∀ o,Hd (Zw_ w (wr.alloc o)):=fun o=>HBr.o.alloc (by omega) o
      rw [hm] at c7;clear HA;go_wp2;go_ret;exact⟨by rw [HX.o];rfl,(HBo _).o⟩
     | false=>
      have HX:Hd (Zby Fs[k] V[k]=0):=by unfold Hd Zby;rw [he,hm];rfl
      rw [hm] at c7;go_wp2;go_roundw
      case rel=>exact⟨k+1,by go_num,by omega,HBB.o.alloc (HBB.o.size) _,fun j h1 h2 hj=>by
                 by_cases e:j=k
                 . subst e;exact HX.o
                 . exact HA.o j h1 h2 (by omega)⟩
      . simp [intOf];omega
    | false=>
     have HBo:∀ o,Hd (Below wr.heap.size wr (wr.alloc o)):=fun o=>Zb_.alloc Zl_ o
     have HRo:∀ o,Hd ((wr.alloc o).heap[w.heap.size+1+1]?=some (.map Zak 4)):=fun o=>by unfold Hd;rw [Below.heap_alloc _ _ _ (by omega)];exact HRr.o
     go_wp2_with fail;refine (ZiW _ _ _ _ _ _ _ _ _ _ Fs[k].words _ _ _ _ (HRo _).o (HST.o.below (HBr.o.trans ((HBo _).o.mono HBr.o.size))) HZ.o).mono ?_;rintro e w2 ⟨rfl,hb2⟩;have HB2:Hd (Below wr.heap.size wr w2):=(HBo _).o.trans (hb2.mono (HBo _).o.size);have HBw:Hd (Zw_ w w2):=HBr.o.trans (HB2.o.mono HBr.o.size);have HB3:Hd (Below w1.heap.size w1 w2):=HBB.o.trans (HB2.o.mono HBB.o.size);clear hb2
     cases hf:ZaM Fs[k].kd Fs[k].le Fs[k].mo Fs[k].words V[k] with
     | true=>
      have HX:Hd (Zby Fs[k] V[k]=0):=by unfold Hd Zby;rw [he,hf];rfl
      go_wp2;go_roundw
      case rel=>exact⟨k+1,by go_num,by omega,HB3.o,fun j h1 h2 hj=>by
                 by_cases e:j=k
                 . subst e;exact HX.o
                 . exact HA.o j h1 h2 (by omega)⟩
      . simp [intOf];omega
     | false=>
      have HX:Hd (ff (Zbh Fs V) 0=(3,(k:Int))):=Ze7 HL.o hlt hlv (by unfold Zby;rw [he,hf];rfl) (by decide) HA.o;clear HA;go_wp2;go_ret;exact⟨by rw [HX.o];rfl,HBw.o⟩
  . have HX:Hd (ff (Zbh Fs V) 0=(0,0)):=ZhL HL.o (fun j h1 h2 _=>HA.o j h1 h2 (by omega))
    clear HA;go_wp2;go_ret;exact⟨by rw [HX.o];rfl,HBr.o⟩
end
end
section
open Go.RowKit Go.Deep
theorem Zlc (X:World) (cs:Array Value) (t:TypeId) (g i:Nat) (hg:X.heap.size=g):(X.alloc (.cells cs t)).cell? ⟨g,i,none⟩=cs[i]?:=by subst hg;simp
theorem Zqd:∀ (L:List Int) (n:Nat),(ff L n).1=0->ff L n=(0,0)
 | [],_,_=>rfl
 | c :: r,n,h=>by
  unfold ff at h |-
  by_cases h0:c=0
  . rw [if_pos h0] at h |-;exact Zqd r (n+1) h
  . rw [if_neg h0] at h;exact absurd h h0
theorem Zhk (w:World):Calls prog 271 #[] w fun e w'=>e=.returned (.slice (some ⟨w.heap.size,0,none⟩) 5 5)/\w'=w.alloc (.cells #[.func (.func 287) #[] #[],.func (.func 288) #[] #[],.func (.func 289) #[] #[],.func (.func 290) #[] #[],.func (.func 291) #[] #[]] 289):=by
 go_enter func271,ntmps271;go_wp2;go_ret;exact⟨rfl,rfl⟩
section
variable (kd kind nm team:Zy_) (vv hv fv:Value) (en:Bool) (ver:Int) (V Ho:List Zy_) (Fs:List Fd) (w:World) (lo:Nat)
def ZlD (Fs:List Fd) (nm team:Zy_) (V Ho:List Zy_) (ver:Int):Bool:=(Zap nm&&Zap team)&&(decide (V.length=Fs.length)&&((decide (Ho.length<=3)&&Zpw Ho)&&inB 0 1000000 ver))
def ZaQ (Fs:List Fd) (nm team:Zy_) (V Ho:List Zy_) (ver:Int):Int×Int:=if ZlD Fs nm team V Ho ver=true then ff (Zbh Fs V) 0 else (1,0)
theorem ZhC (hV:Zaf w vv V) (hH:Zaf w hv Ho) (hF:Zau lo w fv Fs) (s2:nm.size<=maxLen) (s3:team.size<=maxLen) :
 Calls prog 241 #[.agg #[.string kd,fv],.agg #[.string kind,.string nm,.string team,vv,.bool en,hv,.int .i64 ver]] w
  fun e w'=>e=.returned (ZlU (ZaQ Fs nm team V Ho ver))/\Zw_ w w':=by
 have HV:=Zab hV;have HH:=Zab hH;have HF:=Zab hF
 obtain⟨a,cap,rfl⟩:∃ a cap,vv=.slice a V.length cap:=by
  rcases hV with ⟨a,cap,h,rfl⟩ | ⟨b,off,cap,h,_⟩
  . exact⟨_,_,h⟩
  . exact⟨_,_,h⟩
 obtain⟨a',cap',rfl⟩:∃ a cap,hv=.slice a Ho.length cap:=by
  rcases hH with ⟨a,cap,h,rfl⟩ | ⟨b,off,cap,h,_⟩
  . exact⟨_,_,h⟩
  . exact⟨_,_,h⟩
 obtain⟨a1,cap1,rfl⟩:=hF.form;clear hV hH hF;have HW:∀ o o',Hd (Zw_ w ((w.alloc o).alloc o')):=fun o o'=>(Zb_.alloc Zl_ _).alloc (by simp) _
 go_enter func241,ntmps241;go_wp2_with fail;refine (Zhk _).mono ?_;rintro e w1 ⟨rfl,hw1⟩
 have G0:Hd (∀ i,w1.cell? ⟨w.heap.size+1+1,i,none⟩=(#[.func (.func 287) #[] #[],.func (.func 288) #[] #[],.func (.func 289) #[] #[],.func (.func 290) #[] #[],.func (.func 291) #[] #[]]:Array Value)[i]?):=fun i=>by
  rw [hw1];exact Zlc _ _ _ _ _ (by simp)
 have G1:Hd (∀ i,w1.cell? ⟨w.heap.size,i,none⟩=(#[.string kd,.slice a1 Fs.length cap1]:Array Value)[i]?):=fun i=>by
  rw [hw1,World.cell?_alloc_lt _ _ _ (by simp;omega),World.cell?_alloc_lt _ _ _ (by simp)];simp
 have G2:Hd (∀ i,w1.cell? ⟨w.heap.size+1,i,none⟩=(#[.string kind,.string nm,.string team,.slice a V.length cap,.bool en,.slice a' Ho.length cap',.int .i64 ver]:Array Value)[i]?):=fun i=>by
  rw [hw1,World.cell?_alloc_lt _ _ _ (by simp)];simp
 have HB1:Hd (Zw_ w w1):=by rw [hw1];exact (HW _ _).o.alloc (by simp;omega) _
 have hz1:w1.heap.size=w.heap.size+3:=by rw [hw1];simp
 simp only [World.size_alloc];clear hw1;go_wp2
 go_loopw [10] (fun i wr=>(i=.int .i64 0/\Below w1.heap.size w1 wr)\/(i=.int .i64 1/\Below w1.heap.size w1 wr/\(Zap nm&&Zap team)=true)\/(i=.int .i64 2/\Below w1.heap.size w1 wr/\(Zap nm&&Zap team)=true/\decide (V.length=Fs.length)=true)\/(i=.int .i64 3/\Below w1.heap.size w1 wr/\(Zap nm&&Zap team)=true/\decide (V.length=Fs.length)=true/\(decide (Ho.length<=3)&&Zpw Ho)=true)\/(i=.int .i64 4/\Below w1.heap.size w1 wr/\(Zap nm&&Zap team)=true/\decide (V.length=Fs.length)=true/\(decide (Ho.length<=3)&&Zpw Ho)=true/\inB 0 1000000 ver=true)\/(i=.int .i64 5/\Below w1.heap.size w1 wr/\(Zap nm&&Zap team)=true/\decide (V.length=Fs.length)=true/\(decide (Ho.length<=3)&&Zpw Ho)=true/\inB 0 1000000 ver=true/\ff (Zbh Fs V) 0=(0,0))) (fun i _=>5 - (intOf i).toNat)
 case atStart=>exact Or.inl ⟨rfl,Below.refl _ _⟩
 case round=>
  rcases hrel with ⟨rfl,hb⟩ | ⟨rfl,hb,d0⟩ | ⟨rfl,hb,d0,d1⟩ | ⟨rfl,hb,d0,d1,d2⟩ | ⟨rfl,hb,d0,d1,d2,d3⟩ | ⟨rfl,hb,d0,d1,d2,d3,d4⟩
  . have HBB:=Zab hb
    have HBr:Hd (Zw_ w wr):=HB1.o.trans (hb.mono (by omega))
    have q1:∀ i,wr.cell? ⟨w.heap.size,i,none⟩=(#[.string kd,.slice a1 Fs.length cap1]:Array Value)[i]?:=fun i=>by
     rw [hb.cell (p:=⟨w.heap.size,i,none⟩) (by simp only [];omega)];exact G1.o i
    have q2:∀ i,wr.cell? ⟨w.heap.size+1,i,none⟩=(#[.string kind,.string nm,.string team,.slice a V.length cap,.bool en,.slice a' Ho.length cap',.int .i64 ver]:Array Value)[i]?:=fun i=>by
     rw [hb.cell (p:=⟨w.heap.size+1,i,none⟩) (by simp only [];omega)];exact G2.o i
    have q0:wr.cell? ⟨w.heap.size+1+1,0,none⟩=some (.func (.func 287) #[] #[]):=by
     rw [hb.cell (p:=⟨w.heap.size+1+1,0,none⟩) (by simp only [];omega)];exact G0.o 0
    clear hb;go_wp2_with fail;refine (Zir _ _ _ _ _ _ _ _ _ _ s2 s3).mono ?_;rintro e w2 ⟨he,hb2⟩;have HB2:Hd (Zw_ w w2):=HBr.o.trans (hb2.mono HBr.o.size);have HB3:Hd (Below w1.heap.size w1 w2):=HBB.o.trans (hb2.mono HBB.o.size);clear hb2 q0 q1 q2
    cases hc:(Zap nm&&Zap team) with
    | true=>
     have HC:=Zab hc;rw [hc] at he;have he':e=.returned .nilIface:=he;subst he';clear hc he;go_wp2;go_roundw
     . exact Or.inr (Or.inl ⟨by go_num,HB3.o,HC.o⟩)
     . simp [intOf]
    | false=>
     have HX:Hd (ZaQ Fs nm team V Ho ver=(1,0)):=by unfold Hd ZaQ ZlD;rw [hc];simp
     rw [hc] at he;have he':e=.returned (.iface 347 (.agg #[.int .i64 1,.int .i64 0])):=he;subst he';clear hc he;go_wp2;go_ret;exact⟨by rw [HX.o];rfl,HB2.o⟩
  . have HBB:=Zab hb
    have HBr:Hd (Zw_ w wr):=HB1.o.trans (hb.mono (by omega))
    have q1:∀ i,wr.cell? ⟨w.heap.size,i,none⟩=(#[.string kd,.slice a1 Fs.length cap1]:Array Value)[i]?:=fun i=>by
     rw [hb.cell (p:=⟨w.heap.size,i,none⟩) (by simp only [];omega)];exact G1.o i
    have q2:∀ i,wr.cell? ⟨w.heap.size+1,i,none⟩=(#[.string kind,.string nm,.string team,.slice a V.length cap,.bool en,.slice a' Ho.length cap',.int .i64 ver]:Array Value)[i]?:=fun i=>by
     rw [hb.cell (p:=⟨w.heap.size+1,i,none⟩) (by simp only [];omega)];exact G2.o i
    have q0:wr.cell? ⟨w.heap.size+1+1,1,none⟩=some (.func (.func 288) #[] #[]):=by
     rw [hb.cell (p:=⟨w.heap.size+1+1,1,none⟩) (by simp only [];omega)];exact G0.o 1
    have D0:=Zab d0;clear hb d0;go_wp2_with fail;refine (ZjD _ _ _ _ _ _ _ _ _ _ _ _ _ _).mono ?_;rintro e w2 ⟨he,hb2⟩;have HB2:Hd (Zw_ w w2):=HBr.o.trans (hb2.mono HBr.o.size);have HB3:Hd (Below w1.heap.size w1 w2):=HBB.o.trans (hb2.mono HBB.o.size);clear hb2 q0 q1 q2
    cases hc:decide (V.length=Fs.length) with
    | true=>
     have HC:=Zab hc;rw [hc] at he;have he':e=.returned .nilIface:=he;subst he';clear hc he;go_wp2;go_roundw
     . exact Or.inr (Or.inr (Or.inl ⟨by go_num,HB3.o,D0.o,HC.o⟩))
     . simp [intOf]
    | false=>
     have HX:Hd (ZaQ Fs nm team V Ho ver=(1,0)):=by unfold Hd ZaQ ZlD;rw [D0.o,hc];simp
     rw [hc] at he;have he':e=.returned (.iface 347 (.agg #[.int .i64 1,.int .i64 0])):=he;subst he';clear hc he;go_wp2;go_ret;exact⟨by rw [HX.o];rfl,HB2.o⟩
  . have HBB:=Zab hb
    have HBr:Hd (Zw_ w wr):=HB1.o.trans (hb.mono (by omega))
    have q1:∀ i,wr.cell? ⟨w.heap.size,i,none⟩=(#[.string kd,.slice a1 Fs.length cap1]:Array Value)[i]?:=fun i=>by
     rw [hb.cell (p:=⟨w.heap.size,i,none⟩) (by simp only [];omega)];exact G1.o i
    have q2:∀ i,wr.cell? ⟨w.heap.size+1,i,none⟩=(#[.string kind,.string nm,.string team,.slice a V.length cap,.bool en,.slice a' Ho.length cap',.int .i64 ver]:Array Value)[i]?:=fun i=>by
     rw [hb.cell (p:=⟨w.heap.size+1,i,none⟩) (by simp only [];omega)];exact G2.o i
    have q0:wr.cell? ⟨w.heap.size+1+1,2,none⟩=some (.func (.func 289) #[] #[]):=by
     rw [hb.cell (p:=⟨w.heap.size+1+1,2,none⟩) (by simp only [];omega)];exact G0.o 2
    have D0:=Zab d0;have D1:=Zab d1;clear hb d0 d1;go_wp2_with fail;refine (Ziq _ _ _ _ _ _ _ _ _ Ho _ (HH.o.below HBr.o)).mono ?_;rintro e w2 ⟨he,hb2⟩;have HB2:Hd (Zw_ w w2):=HBr.o.trans (hb2.mono HBr.o.size);have HB3:Hd (Below w1.heap.size w1 w2):=HBB.o.trans (hb2.mono HBB.o.size);clear hb2 q0 q1 q2
    cases hc:(decide (Ho.length<=3)&&Zpw Ho) with
    | true=>
     have HC:=Zab hc;rw [hc] at he;have he':e=.returned .nilIface:=he;subst he';clear hc he;go_wp2;go_roundw
     . exact Or.inr (Or.inr (Or.inr (Or.inl ⟨by go_num,HB3.o,D0.o,D1.o,HC.o⟩)))
     . simp [intOf]
    | false=>
     have HX:Hd (ZaQ Fs nm team V Ho ver=(1,0)):=by unfold Hd ZaQ ZlD;rw [D0.o,D1.o,hc];simp
     rw [hc] at he;have he':e=.returned (.iface 347 (.agg #[.int .i64 1,.int .i64 0])):=he;subst he';clear hc he;go_wp2;go_ret;exact⟨by rw [HX.o];rfl,HB2.o⟩
  . have HBB:=Zab hb
    have HBr:Hd (Zw_ w wr):=HB1.o.trans (hb.mono (by omega))
    have q1:∀ i,wr.cell? ⟨w.heap.size,i,none⟩=(#[.string kd,.slice a1 Fs.length cap1]:Array Value)[i]?:=fun i=>by
     rw [hb.cell (p:=⟨w.heap.size,i,none⟩) (by simp only [];omega)];exact G1.o i
    have q2:∀ i,wr.cell? ⟨w.heap.size+1,i,none⟩=(#[.string kind,.string nm,.string team,.slice a V.length cap,.bool en,.slice a' Ho.length cap',.int .i64 ver]:Array Value)[i]?:=fun i=>by
     rw [hb.cell (p:=⟨w.heap.size+1,i,none⟩) (by simp only [];omega)];exact G2.o i
    have q0:wr.cell? ⟨w.heap.size+1+1,3,none⟩=some (.func (.func 290) #[] #[]):=by
     rw [hb.cell (p:=⟨w.heap.size+1+1,3,none⟩) (by simp only [];omega)];exact G0.o 3
    have D0:=Zab d0;have D1:=Zab d1;have D2:=Zab d2;clear hb d0 d1 d2;go_wp2_with fail;refine (Zhh _ _ _ _ _ _ _ _ _ _).mono ?_;rintro e w2 ⟨he,hb2⟩;have HB2:Hd (Zw_ w w2):=HBr.o.trans (hb2.mono HBr.o.size);have HB3:Hd (Below w1.heap.size w1 w2):=HBB.o.trans (hb2.mono HBB.o.size);clear hb2 q0 q1 q2
    cases hc:inB 0 1000000 ver with
    | true=>
     have HC:=Zab hc;rw [hc] at he;have he':e=.returned .nilIface:=he;subst he';clear hc he;go_wp2;go_roundw
     . exact Or.inr (Or.inr (Or.inr (Or.inr (Or.inl ⟨by go_num,HB3.o,D0.o,D1.o,D2.o,HC.o⟩))))
     . simp [intOf]
    | false=>
     have HX:Hd (ZaQ Fs nm team V Ho ver=(1,0)):=by unfold Hd ZaQ ZlD;rw [D0.o,D1.o,D2.o,hc];simp
     rw [hc] at he;have he':e=.returned (.iface 347 (.agg #[.int .i64 1,.int .i64 0])):=he;subst he';clear hc he;go_wp2;go_ret;exact⟨by rw [HX.o];rfl,HB2.o⟩
  . have HBB:=Zab hb
    have HBr:Hd (Zw_ w wr):=HB1.o.trans (hb.mono (by omega))
    have q1:∀ i,wr.cell? ⟨w.heap.size,i,none⟩=(#[.string kd,.slice a1 Fs.length cap1]:Array Value)[i]?:=fun i=>by
     rw [hb.cell (p:=⟨w.heap.size,i,none⟩) (by simp only [];omega)];exact G1.o i
    have q2:∀ i,wr.cell? ⟨w.heap.size+1,i,none⟩=(#[.string kind,.string nm,.string team,.slice a V.length cap,.bool en,.slice a' Ho.length cap',.int .i64 ver]:Array Value)[i]?:=fun i=>by
     rw [hb.cell (p:=⟨w.heap.size+1,i,none⟩) (by simp only [];omega)];exact G2.o i
    have q0:wr.cell? ⟨w.heap.size+1+1,4,none⟩=some (.func (.func 291) #[] #[]):=by
     rw [hb.cell (p:=⟨w.heap.size+1+1,4,none⟩) (by simp only [];omega)];exact G0.o 4
    have D0:=Zab d0;have D1:=Zab d1;have D2:=Zab d2;have D3:=Zab d3;clear hb d0 d1 d2 d3;have HC:Hd (V.length=Fs.length):=by have:=D1.o;unfold Hd;simpa using this
    go_wp2_with fail;refine (ZhB _ _ _ _ _ _ _ _ _ V Fs _ lo (HV.o.below HBr.o) (HF.o.below HBr.o) HC.o).mono ?_;rintro e w2 ⟨he,hb2⟩;have HB2:Hd (Zw_ w w2):=HBr.o.trans (hb2.mono HBr.o.size);have HB3:Hd (Below w1.heap.size w1 w2):=HBB.o.trans (hb2.mono HBB.o.size);clear hb2 q0 q1 q2
    by_cases hc:(ff (Zbh Fs V) 0).1=0
    . have he':e=.returned .nilIface:=by rw [he];unfold ZlU;rw [if_pos hc]
      have HC:Hd (ff (Zbh Fs V) 0=(0,0)):=Zqd _ _ hc;subst he';clear hc;go_wp2;go_roundw
      . exact Or.inr (Or.inr (Or.inr (Or.inr (Or.inr (⟨by go_num,HB3.o,D0.o,D1.o,D2.o,D3.o,HC.o⟩)))))
      . simp [intOf]
    . have HX:Hd (ZaQ Fs nm team V Ho ver=ff (Zbh Fs V) 0):=by unfold Hd ZaQ ZlD;rw [D0.o,D1.o,D2.o,D3.o];rfl
      have he':e=.returned (.iface 347 (.agg #[.int .i64 (ff (Zbh Fs V) 0).1,.int .i64 (ff (Zbh Fs V) 0).2])):=by rw [he];unfold ZlU;rw [if_neg hc]
      have HC:Hd (ZlU (ff (Zbh Fs V) 0)=.iface 347 (.agg #[.int .i64 (ff (Zbh Fs V) 0).1,.int .i64 (ff (Zbh Fs V) 0).2])):=if_neg hc;subst he';generalize (ff (Zbh Fs V) 0).1=p1 at HC hc |-;generalize (ff (Zbh Fs V) 0).2=p2 at HC |-;clear hc he;go_wp2;go_ret;exact⟨by rw [HX.o,HC.o];rfl,HB2.o⟩
  . have HBB:=Zab hb
    have HBr:Hd (Zw_ w wr):=HB1.o.trans (hb.mono (by omega))
    have q1:∀ i,wr.cell? ⟨w.heap.size,i,none⟩=(#[.string kd,.slice a1 Fs.length cap1]:Array Value)[i]?:=fun i=>by
     rw [hb.cell (p:=⟨w.heap.size,i,none⟩) (by simp only [];omega)];exact G1.o i
    have q2:∀ i,wr.cell? ⟨w.heap.size+1,i,none⟩=(#[.string kind,.string nm,.string team,.slice a V.length cap,.bool en,.slice a' Ho.length cap',.int .i64 ver]:Array Value)[i]?:=fun i=>by
     rw [hb.cell (p:=⟨w.heap.size+1,i,none⟩) (by simp only [];omega)];exact G2.o i
    have D0:=Zab d0;have D1:=Zab d1;have D2:=Zab d2;have D3:=Zab d3;have D4:=Zab d4;clear hb d0 d1 d2 d3 d4;have HX:Hd (ZaQ Fs nm team V Ho ver=(0,0)):=by unfold Hd ZaQ ZlD;rw [D0.o,D1.o,D2.o,D3.o];exact D4.o
    clear D0 D1 D2 D3 D4;go_wp2;go_ret;exact⟨by rw [HX.o];rfl,HBr.o⟩
end
end
section
open Go.RowKit Go.Deep
variable {k:Nat}
theorem ZpF {L:List Zy_}{p:Zy_->Bool} (h:k < L.length) (hp:p L[k]=false):L.all p=false:=by
 rw [List.all_eq_false];exact⟨L[k],List.getElem_mem h,by simp [hp]⟩
theorem ZrI {L:List Zy_}{p:Zy_->Bool} (h:∀ i (h:i < L.length),p L[i]=true):L.all p=true:=by
 rw [List.all_eq_true];intro x hx;obtain⟨i,hi,rfl⟩:=List.getElem_of_mem hx;exact h i hi
theorem Zkt (rv wv:Value) (row L:List Zy_) (w:World) (hr:Zaf w rv row) (hv:Zaf w wv L) :
 Calls prog 286 #[rv,wv] w fun e w'=>e=.returned (.bool (L.all (Ze8 row)))/\w'=w:=by
 have HR:=Zab hr;obtain⟨ra,rn,rcap,rfl⟩:=hr.form;clear hr
 rcases hv with ⟨a,cap,rfl,rfl⟩ | ⟨b,off,cap,rfl,hne,hm,hbw,hc,hsz⟩
 . go_enter func286,ntmps286
   go_wp2
   go_loop [9] (fun i=>i=.int .i64 0) (fun _=>0)
   case atStart=>rfl
   case round=>
    subst hrel;go_wp2;go_ret;exact⟨rfl,rfl⟩
 . unfold maxLen at hm
   go_enter func286,ntmps286;go_wp2
   go_loop [9] (fun i=>∃ k:Nat,i=.int .i64 k/\k<=L.length/\∀ i (h:i < L.length),i < k->Ze8 row L[i]=true) (fun i=>L.length - (intOf i).toNat)
   case atStart=>exact⟨0,rfl,by omega,fun i _ h=>by omega⟩
   case round=>
    obtain⟨k,rfl,hk,hall⟩:=hrel;have HA:=Zab hall;clear hall
    by_cases hlt:k < L.length
    . have hck:=hc k hlt
      go_wp2_with fail;refine (ZeN _ row L[k] _ HR.o).mono ?_;rintro e w1 ⟨rfl,rfl⟩
      cases hh:Ze8 row L[k] with
      | false=>
       go_wp2;go_ret;exact⟨Zaa (ZpF hlt hh).symm,rfl⟩
      | true=>
       go_wp2
       go_round
       case rel=>exact⟨k+1,by go_num,by omega,fun i h h'=>by
                  by_cases e:i=k
                  . subst e;exact hh
                  . exact HA.o i h (by omega)⟩
       . simp [intOf];omega
    . go_wp2
      go_ret;exact⟨Zaa (ZrI fun i h=>HA.o i h (by omega)).symm,rfl⟩
def rdP (m:Md) (j:Nat):List Zy_:=if j=0 then [] else if j=1 then (if m.wh.toList.isEmpty=true then [] else [m.wh]) else Zj9 m
theorem Zto (m:Md) (j:Nat):(rdP m j).length<=2:=by
 unfold rdP Zj9
 split
 . simp
 . split
   . split <;> simp
   . rw [List.length_append];split <;> split <;> simp
theorem ZoK (kind field:Zy_) (m:Md) (Ms:List Md):Zam kind (m :: Ms) field=(if Zdk kind field m=true then Zj9 m else []) ++ Zam kind Ms field:=by
 unfold Zam
 by_cases h:Zdk kind field m=true <;> simp [h]
theorem ZqP (kind field:Zy_) (Ms:List Md):(Zam kind Ms field).length<=2*Ms.length:=by
 induction Ms with
 | nil=>simp [ZuC]
 | cons m Ms ih=>
  have h2:(Zj9 m).length<=2:=by unfold Zj9;rw [List.length_append];split <;> split <;> simp
  rw [ZoK,List.length_append,List.length_cons]
  by_cases h:Zdk kind field m=true
  . rw [if_pos h];omega
  . rw [if_neg h];simp only [List.length_nil];omega
theorem Zjc {base:Nat}{W:World}{v:Value}{R R':List Zy_} (h:Zd7 base W v R) (e:R=R'):Zd7 base W v R':=e ▸ h
theorem ZoL {kind field:Zy_}{Ms:List Md} (hk:k < Ms.length):Zam kind (Ms.take (k+1)) field=Zam kind (Ms.take k) field ++ (if Zdk kind field Ms[k]=true then Zj9 Ms[k] else []):=by
 rw [List.take_succ_eq_append_getElem hk,Zlj]
theorem Zoq (W:World) (x y:Zy_):(Instr.index 338 (.agg #[.string x,.string y]) (.int .i64 0)).run prog W=.ok (.string x) W:=by
 kernel_rfl
theorem Zqp (W:World) (x y:Zy_):(Instr.index 338 (.agg #[.string x,.string y]) (.int .i64 1)).run prog W=.ok (.string y) W:=by
 kernel_rfl
theorem Zmv (lo:Nat) (v:Value) (Ms:List Md) (kind field:Zy_) (w:World) (hv:Zbe lo w v Ms) (hn:Ms.length<=1048576) :
 Calls prog 269 #[.string kind,.string field,v] w fun e w'=>∃ v',e=.returned v'/\Zw_ w w'/\Zd7 w.heap.size w' v' (Zam kind Ms field):=by
 obtain⟨i0,hi,hz0,hz1,hz2⟩:=info_parts Tryz.info9;have HI:=Zab (And.intro hi (And.intro hz0 (And.intro hz1 hz2)));clear hi hz0 hz1 hz2;have HV:=Zab hv;obtain⟨a,cap,rfl⟩:=hv.form;clear hv;go_enter func269,ntmps269;go_wp2
 go_loopw [7,14] (fun r i wr=>∃ k:Nat,i=.int .i64 k/\k<=Ms.length/\Zw_ w wr/\Zd7 w.heap.size wr r (Zam kind (Ms.take k) field)) (fun _ i _=>Ms.length - (intOf i).toNat)
 case atStart=>exact⟨0,rfl,by omega,Below.refl _ _,Zd7.nil _ _⟩
 case round=>
  obtain⟨k,rfl,hk,hb,hown⟩:=hrel;have HB:=Zab hb;have HO:=Zab hown;obtain⟨ra,rcap,rfl⟩:=hown.form;clear hb hown
  by_cases hlt:k < Ms.length
  . obtain⟨b,off,rfl,hbw,hc⟩:=HV.o.full' (by omega)
    obtain⟨hsz,hcell⟩:=hc k hlt;obtain⟨c0,c1,c2,c3,c4,c5⟩:=hcell.below HB.o hbw;clear hcell hc;have HST:=Zab (ZoL (kind:=kind) (field:=field) hlt)
    cases hk1:(Ms[k].kind.toList == kind.toList) with
    | false=>
     have HF:Hd (Zam kind (Ms.take (k+1)) field=Zam kind (Ms.take k) field):=by unfold Hd;rw [HST.o,if_neg (by unfold Zdk;simp [hk1]),List.append_nil]
     go_wp2;go_roundw
     . exact⟨k+1,by go_num,by omega,HB.o.alloc HB.o.size _,by rw [HF.o];exact HO.o.below (Zb_.alloc Zl_ _)⟩
     . simp [intOf];omega
    | true=>
     cases hf1:(Ms[k].field.toList == field.toList) with
     | false=>
      have HF:Hd (Zam kind (Ms.take (k+1)) field=Zam kind (Ms.take k) field):=by unfold Hd;rw [HST.o,if_neg (by unfold Zdk;simp [hf1]),List.append_nil]
      go_wp2;go_roundw
      . exact⟨k+1,by go_num,by omega,HB.o.alloc HB.o.size _,by rw [HF.o];exact HO.o.below (Zb_.alloc Zl_ _)⟩
      . simp [intOf];omega
     | true=>
      have HF:Hd (Zam kind (Ms.take (k+1)) field=Zam kind (Ms.take k) field ++ Zj9 Ms[k]):=by unfold Hd;rw [HST.o,if_pos (by unfold Zdk;simp [hk1,hf1])]
      have HRL:Hd ((Zam kind (Ms.take k) field).length<=2097152):=by
       have:=ZqP kind field (Ms.take k);rw [List.length_take] at this;unfold Hd;omega
      clear HST;generalize Zam kind (Ms.take k) field=R0 at*;have HSZ:=Zab hsz;go_wp2;generalize hW2:wr.alloc _=W2;have HB2:Hd (Zw_ w W2):=by rw [<- hW2];exact HB.o.alloc HB.o.size _
      have HO2:Hd (Zd7 w.heap.size W2 (.slice ra R0.length rcap) R0):=by rw [<- hW2];exact HO.o.below (Zb_.alloc Zl_ _)
      clear hW2 HB HO c0 c1 c2 c3 c4 c5 hk1 hf1;have hx0:=fun W=>Zoq W Ms[k].wh Ms[k].fr
      have hx1:=fun W=>Zqp W Ms[k].wh Ms[k].fr
      go_loopw [7,33] (fun r i wr=>∃ j:Nat,j<=2/\i=.int .i64 j/\Zw_ w wr/\Zd7 w.heap.size wr r (R0 ++ rdP Ms[k] j)) (fun _ i _=>2 - (intOf i).toNat)
      case atStart=>exact⟨0,by omega,rfl,HB2.o,by unfold rdP;simpa using HO2.o⟩
      case round=>
       obtain⟨j,hj2,rfl,hbj,hoj⟩:=hrel;have HBj:=Zab hbj;have HOj:=Zab hoj
       have HLj:Hd ((R0 ++ rdP Ms[k] j).length<=2097154):=by
        have:=Zto Ms[k] j;have:=HRL.o;unfold Hd;rw [List.length_append];omega
       obtain⟨ja,jcap,rfl⟩:=hoj.form;clear hbj hoj HB2 HO2
       by_cases hj0:j=0
       . subst hj0
         cases hwe:Ms[k].wh.toList.isEmpty with
         | true=>
          go_wp2;go_roundw
          . exact⟨1,by omega,rfl,HBj.o,Zjc HOj.o (by unfold rdP;simp [hwe])⟩
          . simp [intOf]
         | false=>
          generalize hR1:R0 ++ rdP Ms[k] 0=R1 at*;go_wp2_with (at_builtin;refine wpList_append_lies _ rfl (.tmp 38) (.tmp 40) 111 rfl w.heap.size 9 i0 (.string ⟨#[]⟩) 1 16 underlying111 HI.o.1 HI.o.2.1 HI.o.2.2.1 HI.o.2.2.2 rfl (by decide) _ _ _ rfl (HOj.o.below (Zb_.alloc Zl_ _)).row ⟨wr.heap.size,0,none⟩ 1 1 [.string Ms[k].wh] rfl rfl (Zf3 _ _ _ _ rfl) (Zeh _) (by decide) (by have:=HLj.o;unfold maxLen;omega) (by have:=HLj.o;omega) (by have:=HBj.o.size;simp;omega) _ rfl ?_;intro g cap1 w3 hown3 hgrow3 hat3 hlt3);go_roundw
          . exact⟨1,by omega,rfl,(HBj.o.alloc HBj.o.size _).trans ((HOj.o.below (Zb_.alloc Zl_ _)).grown hgrow3 (by have:=HBj.o.size;simp;omega)),Zjc (HOj.o.snoc hown3 HSZ.o.s2) (by rw [<- hR1];unfold rdP Zj9;simp [hwe])⟩
          . simp [intOf]
       . by_cases hj1:j=1
         . subst hj1
           cases hfe:Ms[k].fr.toList.isEmpty with
           | true=>
            go_wp2;go_roundw
            . exact⟨2,by omega,rfl,HBj.o,Zjc HOj.o (by unfold rdP Zj9;simp [hfe])⟩
            . simp [intOf]
           | false=>
            generalize hR1:R0 ++ rdP Ms[k] 1=R1 at*;go_wp2_with (at_builtin;refine wpList_append_lies _ rfl (.tmp 38) (.tmp 40) 111 rfl w.heap.size 9 i0 (.string ⟨#[]⟩) 1 16 underlying111 HI.o.1 HI.o.2.1 HI.o.2.2.1 HI.o.2.2.2 rfl (by decide) _ _ _ rfl (HOj.o.below (Zb_.alloc Zl_ _)).row ⟨wr.heap.size,0,none⟩ 1 1 [.string Ms[k].fr] rfl rfl (Zf3 _ _ _ _ rfl) (Zeh _) (by decide) (by have:=HLj.o;unfold maxLen;omega) (by have:=HLj.o;omega) (by have:=HBj.o.size;simp;omega) _ rfl ?_;intro g cap1 w3 hown3 hgrow3 hat3 hlt3);go_roundw
            . exact⟨2,by omega,rfl,(HBj.o.alloc HBj.o.size _).trans ((HOj.o.below (Zb_.alloc Zl_ _)).grown hgrow3 (by have:=HBj.o.size;simp;omega)),Zjc (HOj.o.snoc hown3 HSZ.o.s5) (by rw [<- hR1];unfold rdP Zj9;simp [hfe])⟩
            . simp [intOf]
         . have e:j=2:=by omega
           subst e;go_wp2;exact⟨⟨k+1,by go_num,by omega,HBj.o,Zjc HOj.o (by rw [HF.o];rfl)⟩,by simp [intOf];omega⟩
  . have e:k=Ms.length:=by omega
    subst e;have HE:Hd (Zam kind (Ms.take Ms.length) field=Zam kind Ms field):=by unfold Hd;rw [List.take_length]
    go_wp2;go_ret;exact⟨_,rfl,HB.o,Zjc HO.o HE.o⟩
theorem Zmw (lo:Nat) (mv:Value) (Ms:List Md) (kind name:Zy_) (B1 B2:Nat) (w:World) (h1:w.cell? ⟨B1,0,none⟩=some (.string kind)) (h2:w.cell? ⟨B2,0,none⟩=some mv) (hv:Zbe lo w mv Ms) (hn:Ms.length<=1048576) :
 Calls prog 268 #[.string name,.pointer (some ⟨B1,0,none⟩),.pointer (some ⟨B2,0,none⟩)] w fun e w'=>∃ v',e=.returned v'/\Zw_ w w'/\Zd7 w.heap.size w' v' (Zam kind Ms name):=by
 have HV:=Zab hv;obtain⟨a,cap,rfl⟩:=hv.form;clear hv;go_enter func268,ntmps268;go_wp2_with fail;refine (Zmv lo _ Ms kind name _ HV.o hn).mono ?_;rintro e w1 ⟨v1,rfl,hb1,ho1⟩;have HB1:=Zab hb1;have HO1:=Zab ho1;clear hb1 ho1;go_wp2;go_ret;exact⟨_,rfl,HB1.o,HO1.o⟩
end
open Go.ChangeShapes Go.WideShapes Go.ChangeAt Go.RowKit Go.Deep
variable {fuel:Nat}
theorem Tryz.cells109:prog.cellsOf 109=2:=by kernel_rfl
section
variable {H:Type} {enc:TypeId×Value->H} {W:World}
theorem Ztk {cs:List Value}{x:DataW H×List MemPlace} (h:DataW.trod enc prog W 0 (fun _=>true) true fuel 109 cs=some x) :
 ∃ (m:Tm),cs=[.string m.nm,.string m.ov]/\Zfq m:=by
 obtain⟨xs,n,_,_,hl,hlen,hfld⟩:=DataW.trod_struct underlying109 h;obtain⟨c0,c1,rfl⟩:=ZtU (hl.trans Tryz.cells109);simp only [Array.size,List.length_cons,List.length_nil] at hlen;have g0:DataW.trod enc prog W 0 (fun _=>true) true n 9 ((([c0,c1]:List Value).drop 0).take (prog.cellsOf 9))=xs[0]?:=hfld 0 _ rfl;have g1:DataW.trod enc prog W 0 (fun _=>true) true n 9 ((([c0,c1]:List Value).drop 1).take (prog.cellsOf 9))=xs[1]?:=hfld 1 _ rfl;simp only [Tryz.cells9,List.drop_succ_cons,List.drop_zero,List.take_succ_cons,List.take_zero] at g0 g1;rw [List.getElem?_eq_getElem (by omega)] at g0 g1;obtain⟨k,e0,_,s0⟩:=DataW.trod_string underlying9 g0;obtain⟨f,e1,_,s1⟩:=DataW.trod_string underlying9 g1;simp only [List.cons.injEq,and_true] at e0 e1;subst e0 e1;exact⟨⟨k,f⟩,rfl,⟨s0,s1⟩⟩
theorem Zr7 {c:Value}{x:DataW H×List MemPlace} (h:DataW.trod enc prog W 0 (fun _=>true) true fuel 24 [c]=some x):∃ Ts,Zbn 0 W c Ts:=by
 rcases open_slice underlying24 h with ⟨hcs,_⟩ | ⟨a,len,cap,m,n,D,Pl,hcs,_,hl,hm,hmm,_,hx⟩
 . simp only [List.cons.injEq,and_true] at hcs
   exact⟨[],Or.inl ⟨_,_,hcs,rfl⟩⟩
 . simp only [List.cons.injEq,and_true] at hcs
   simp only [if_true] at hmm;subst hmm;rw [Tryz.cells109] at hx
   by_cases h0:len=0
   . subst h0
     exact⟨[],Or.inl ⟨_,_,hcs,rfl⟩⟩
   . obtain⟨Ts,hF,hall⟩:=ZbK (p:=fun i (m:Tm)=>Zfq m/\W.cells? 0 (a.add (i*2)) 2=some [.string m.nm,.string m.ov]) len (fun i hi=>by
      obtain⟨cs',h1,h2⟩:=hx i (by omega);obtain⟨md,e,hz⟩:=Ztk h2;rw [e] at h1;exact⟨md,hz,h1⟩)
     obtain⟨b,off,spot⟩:=a
     have hspot:spot=none:=by
      obtain⟨_,h1⟩:=hall 0 (by omega);have:=(World.cells?_some h1).2.2 0 (by omega);rw [Nat.zero_mul] at this;have e0:((⟨b,off,spot⟩:Addr).add 0).add 0=⟨b,off,spot⟩:=by simp [Addr.add]
      rw [e0] at this
      simpa using World.cell?_spot (by simpa using this)
     subst hspot
     have hcell:∀ i (hi:i < Ts.length),W.cells? 0 ((⟨b,off,none⟩:Addr).add (i*2)) 2=some [.string Ts[i].nm,.string Ts[i].ov]->Zea W b (off+i*2) Ts[i]:=fun i hi h1=>by
      obtain⟨_,_,hc⟩:=World.cells?_some h1;rw [add_plain] at hc;have q:=fun j (hj:j < 2)=>(add_plain b (off+i*2) j) ▸ hc j hj
      exact⟨by simpa using q 0 (by omega),by simpa using q 1 (by omega)⟩
     have hbw:b < W.heap.size:=by
      obtain⟨_,h1⟩:=hall 0 (by omega);exact World.block_lt_of_cell? W _ (hcell 0 (by omega) h1).c0
     refine⟨Ts,Or.inr ⟨b,off,m,by rw [hcs,hF],?_,by omega,hbw,Nat.zero_le _,by omega,fun i hi=>?_⟩⟩
     . intro e;rw [e] at hF;simp at hF;omega
     . obtain⟨hz,h1⟩:=hall i hi
       exact⟨hz,hcell i hi h1⟩
end
end Go.Proofs.YtmappejlmapboaaGreat
