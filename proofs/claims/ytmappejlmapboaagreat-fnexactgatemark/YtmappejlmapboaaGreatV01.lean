import Derived.Test.YtmappejlmapboaaGreatV00
import Derived.Deep.OwnRows
import Derived.WideMake
import Derived.Deep.RegionWith
set_option maxHeartbeats 16000000
set_option maxRecDepth 100000
open Go.Proofs.Tryz
namespace Go.Proofs.YtmappejlmapboaaGreat
open Go.RowKit Go.Deep
section
variable {wr w:World} {B k lo:Nat} {v:Value}
theorem ZeP (v v':Value) (L:List Zy_) (w:World) (hv:Zaf w v L) (hv':Zaf w v' L) :
 Calls prog 147 #[v,v'] w fun e w'=>e=.returned (.bool true)/\Zw_ w w':=by
 by_cases hL:L=[]
 . subst hL
   obtain⟨a,cap,rfl⟩:∃ a cap,v=.slice a 0 cap:=by
    rcases hv with ⟨a,cap,h,_⟩ | ⟨b,off,cap,h,hne,_⟩
    . exact⟨a,cap,h⟩
    . exact absurd rfl hne
   obtain⟨a',cap',rfl⟩:∃ a cap,v'=.slice a 0 cap:=by
    rcases hv' with ⟨a,cap,h,_⟩ | ⟨b,off,cap,h,hne,_⟩
    . exact⟨a,cap,h⟩
    . exact absurd rfl hne
   clear hv hv';go_enter func147,ntmps147;go_wp2
   go_loop [5] (fun i=>i=.int .i64 0) (fun _=>0)
   case atStart=>rfl
   case round=>
    subst hrel;go_wp2;go_ret;exact⟨rfl,Below.refl _ _⟩
 . obtain⟨b,off,cap,rfl,hm,hbw,hc⟩:∃ b off cap,v=.slice (some ⟨b,off,none⟩) L.length cap/\L.length<=maxLen/\b < w.heap.size/\∀ i (h:i < L.length),w.cell? ⟨b,off+i,none⟩=some (.string L[i]):=by
    rcases hv with ⟨a,cap,h,h'⟩ | ⟨b,off,cap,h,hne,hm,hbw,hc,_⟩
    . exact absurd h' hL
    . exact⟨b,off,cap,h,hm,hbw,hc⟩
   obtain⟨b',off',cap',rfl,_,hbw',hc'⟩:∃ b off cap,v'=.slice (some ⟨b,off,none⟩) L.length cap/\L.length<=maxLen/\b < w.heap.size/\∀ i (h:i < L.length),w.cell? ⟨b,off+i,none⟩=some (.string L[i]):=by
    rcases hv' with ⟨a,cap,h,h'⟩ | ⟨b,off,cap,h,hne,hm,hbw,hc,_⟩
    . exact absurd h' hL
    . exact⟨b,off,cap,h,hm,hbw,hc⟩
   clear hv hv';unfold maxLen at hm;go_enter func147,ntmps147;go_wp2
   go_loopw [5] (fun i wr=>∃ k:Nat,i=.int .i64 k/\k<=L.length/\Zw_ w wr) (fun i _=>L.length - (intOf i).toNat)
   case atStart=>exact⟨0,rfl,by omega,Below.refl _ _⟩
   case round=>
    obtain⟨k,rfl,hk,hb⟩:=hrel
    by_cases hlt:k < L.length
    . have hck:wr.cell? ⟨b,off+k,none⟩=some (.string L[k]):=by rw [hb.cell (p:=⟨b,off+k,none⟩) hbw];exact hc k hlt
      have hck':wr.cell? ⟨b',off'+k,none⟩=some (.string L[k]):=by rw [hb.cell (p:=⟨b',off'+k,none⟩) hbw'];exact hc' k hlt
      go_wp2
      go_quiet (fail)
      go_wp2;go_roundw
      . exact⟨k+1,by go_num,by omega,below_drewN hb _⟩
      . simp [intOf];omega
    . go_wp2
      go_ret;exact⟨rfl,hb⟩
theorem Tryz.info9:(prog.info? 9).map (fun i=>(i.zero,i.size,i.bytes))=some (some (.string ⟨#[]⟩),1,16):=by kernel_rfl
def Zo8 (L:List Zy_) (k i:Nat):Value:=if i < k then .string (L.getD i ⟨#[]⟩) else .string ⟨#[]⟩
def ZbT (wr:World) (B:Nat) (L:List Zy_) (k:Nat):Prop:=wr.rowIs B 9 L.length (Zo8 L k)
theorem ZbT.step {L:List Zy_} (h:ZbT wr B L k) (hk:k < L.length):ZbT (wr.setCell ⟨B,k,none⟩ (.string L[k])) B L (k+1):=by
 unfold ZbT at*;refine (h.set k (.string L[k])).congr fun i hi=>?_
 unfold Zo8
 by_cases e:i=k
 . subst e;simp [hk]
 . by_cases e2:i < k
   . simp [e,e2,Nat.lt_succ_of_lt e2]
   . have:¬ i < k+1:=by omega
     simp [e,e2,this]
theorem ZbT.old {L:List Zy_} (h:ZbT wr B L k) (hk:k < L.length):∃ v,wr.cell? ⟨B,k,none⟩=some v:=⟨_,World.rowIs.cell h hk⟩
theorem ZbT.frozen {L:List Zy_} (h:ZbT wr B L k) (i:Nat):wr.frozen? ⟨B,i,none⟩=false:=World.rowIs.frozen h i
def Zaq (lo:Nat) (w:World) (v:Value) (L:List Zy_):Prop:=
 (∃ (a:Option Addr) (cap:Nat),v=.slice a 0 cap/\L=[])\/
 ∃ (b off cap:Nat),v=.slice (some ⟨b,off,none⟩) L.length cap/\L≠[]/\L.length<=maxLen/\b < w.heap.size/\
  (∀ i (h:i < L.length),w.cell? ⟨b,off+i,none⟩=some (.string L[i]))/\(∀ s ∈ L,s.size<=maxLen)/\lo<=b
theorem Zaq.at {L:List Zy_} (h:Zaq lo w v L):Zaf w v L:=by
 rcases h with h | ⟨b,off,cap,h1,h2,h3,h4,h5,h6,_⟩
 . exact Or.inl h
 . exact Or.inr ⟨b,off,cap,h1,h2,h3,h4,h5,h6⟩
theorem Zaq.mono {lo':Nat}{L:List Zy_} (h:Zaq lo w v L) (hl:lo'<=lo):Zaq lo' w v L:=by
 rcases h with h | ⟨b,off,cap,h1,h2,h3,h4,h5,h6,h7⟩
 . exact Or.inl h
 . exact Or.inr ⟨b,off,cap,h1,h2,h3,h4,h5,h6,Nat.le_trans hl h7⟩
theorem Zaq.below {w':World}{L:List Zy_} (h:Zaq lo w v L) (hb:Zw_ w w'):Zaq lo w' v L:=by
 rcases h with h | ⟨b,off,cap,h1,h2,h3,h4,h5,h6,h7⟩
 . exact Or.inl h
 . exact Or.inr ⟨b,off,cap,h1,h2,h3,Zk_ h4 hb.size,fun i hi=>by rw [hb.cell (p:=⟨b,off+i,none⟩) h4];exact h5 i hi,h6,h7⟩
theorem Zar (w:World) (p q:Addr) (u:Value) (h:q.block≠p.block):(w.setCell p u).cell? q=w.cell? q:=
 World.cell?_of_block (w:=w) (Below.heap_setCell w p u q.block h)
theorem Zaq.setCell {L:List Zy_} (h:Zaq lo w v L) {p:Addr} (hp:p.block < lo) (u:Value):Zaq lo (w.setCell p u) v L:=by
 rcases h with h | ⟨b,off,cap,h1,h2,h3,h4,h5,h6,h7⟩
 . exact Or.inl h
 . exact Or.inr ⟨b,off,cap,h1,h2,h3,by simpa [World.setCell] using h4,fun i hi=>by rw [Zar _ _ _ _ (by show b≠p.block;omega)];exact h5 i hi,h6,h7⟩
theorem Zaq.form {L:List Zy_} (h:Zaq lo w v L):∃ a n cap,v=.slice a n cap:=by
 rcases h with ⟨a,cap,h,_⟩ | ⟨b,off,cap,h,_⟩
 . exact⟨a,_,cap,h⟩
 . exact⟨_,_,cap,h⟩
theorem Zaf.form {L:List Zy_} (h:Zaf w v L):∃ a n cap,v=.slice a n cap:=by
 rcases h with ⟨a,cap,h,_⟩ | ⟨b,off,cap,h,_⟩
 . exact⟨a,_,cap,h⟩
 . exact⟨_,_,cap,h⟩
theorem ZbT.done {L:List Zy_} (h:ZbT wr B L k) (hk:L.length<=k) (hne:L≠[]) (hm:L.length<=maxLen) (hs:∀ s ∈ L,s.size<=maxLen):Zaq B wr (.slice (some ⟨B,0,none⟩) L.length L.length) L:=by
 refine Or.inr ⟨B,0,L.length,rfl,hne,hm,World.rowIs.lt h,fun i hi=>?_,hs,Nat.le_refl _⟩;rw [Nat.zero_add,World.rowIs.cell h hi];unfold Zo8;rw [if_pos (by omega),List.getD_eq_getElem?_getD,List.getElem?_eq_getElem hi];rfl
theorem ZfQ (v:Value) (L:List Zy_) (w:World) (hv:Zaf w v L) (hn:L.length<=1048576) :
 Calls prog 139 #[v] w fun e w'=>∃ v',e=.returned v'/\Zw_ w w'/\Zaq w.heap.size w' v' L:=by
 rcases hv with ⟨a,cap,rfl,rfl⟩ | ⟨b,off,cap,rfl,hne,hm,hbw,hc,hsz⟩
 . have hmk:∀ u:World,(Instr.makeSlice 111 (.int .i64 0) (.int .i64 0)).run prog u=.ok (.slice (some ⟨u.heap.size,0,none⟩) 0 0) (u.alloc (.cells (madeCells #[.string ⟨#[]⟩] 0) 9)):=
    fun u=>run_make_row' 111 9 (.string ⟨#[]⟩) 16 underlying111 Tryz.info9 rfl .i64 .i64 0 (by omega) (by omega) u
   go_enter func139,ntmps139;go_wp2
   go_loop [4] (fun i=>i=.int .i64 0) (fun _=>0)
   case atStart=>rfl
   case round=>
    subst hrel;go_wp2;go_ret;exact⟨_,rfl,Zb_.alloc Zl_ _,Or.inl ⟨_,_,rfl,rfl⟩⟩
 . have HM:Hd (L.length<=maxLen):=hm
   unfold maxLen at hm
   have hmk:∀ u:World,(Instr.makeSlice 111 (.int .i64 (L.length:Int)) (.int .i64 (L.length:Int))).run prog u=.ok (.slice (some ⟨u.heap.size,0,none⟩) L.length L.length) (u.alloc (.cells (madeCells #[.string ⟨#[]⟩] L.length) 9)):=
    fun u=>run_make_row' 111 9 (.string ⟨#[]⟩) 16 underlying111 Tryz.info9 rfl .i64 .i64 L.length (by omega) (by omega) u
   go_enter func139,ntmps139;go_wp2;clear hmk
   go_loopw [4] (fun i wr=>∃ k:Nat,i=.int .i64 k/\k<=L.length/\Zw_ w wr/\ZbT wr w.heap.size L k) (fun i _=>L.length - (intOf i).toNat)
   case atStart=>exact⟨0,rfl,by omega,Zb_.alloc Zl_ _,World.rowIs_made w (.string ⟨#[]⟩) L.length 9⟩
   case round=>
    obtain⟨k,rfl,hk,hb,hf⟩:=hrel
    by_cases hlt:k < L.length
    . have hck:wr.cell? ⟨b,off+k,none⟩=some (.string L[k]):=by rw [hb.cell (p:=⟨b,off+k,none⟩) hbw];exact hc k hlt
      obtain⟨old,hold⟩:=hf.old hlt;have hfz:=hf.frozen k;go_wp2;go_roundw
      . exact⟨k+1,by go_num,by omega,hb.setCell Zl_ _,hf.step hlt⟩
      . simp [intOf];omega
    . go_wp2
      go_ret;exact⟨_,rfl,hb,hf.done (by omega) hne HM.o hsz⟩
end
theorem ZfC {W w1:World} (hb:Below W.heap.size W w1):(∀ b o,b < W.heap.size->w1.cell? ⟨b,o,none⟩=W.cell? ⟨b,o,none⟩)/\(∀ b o,b < W.heap.size->w1.frozen? ⟨b,o,none⟩=W.frozen? ⟨b,o,none⟩):=
 ⟨fun b o h=>hb.cell (p:=⟨b,o,none⟩) h,fun b o h=>hb.frozen (p:=⟨b,o,none⟩) h⟩
theorem ZkQ (nm to df we:Zy_) (kd le mo ro:Int) (mu fx:Bool) (wv:Value) (L:List Zy_) (w:World) (hv:Zaf w wv L) (hn:L.length<=1048576) :
 Calls prog 176 #[.agg #[.string nm,.int .i64 kd,.int .i64 le,.int .i64 mo,wv,.string to,.int .i64 ro,.bool mu,.bool fx,.string df,.string we]] w
  fun e w'=>∃ wv',e=.returned (.agg #[.string nm,.int .i64 kd,.int .i64 le,.int .i64 mo,wv',.string to,.int .i64 ro,.bool mu,.bool fx,.string df,.string we])/\Zw_ w w'/\Zaq w.heap.size w' wv' L:=by
 have HV:Hd (Zaf w wv L):=hv;obtain⟨a,n,cap,rfl⟩:=hv.form;clear hv;go_enter func176,ntmps176;go_wp2_with fail;refine (ZfQ _ L _ (HV.o.below ?_) hn).mono ?_
 . exact ((Zb_.alloc Zl_ _).alloc (by simp) _).alloc (by simp;omega) _
 rintro e w1 ⟨wv',rfl,hb,hs⟩;obtain⟨a',n',cap',rfl⟩:=hs.form;have HS:Hd (Zaq (w.heap.size+3) w1 (.slice a' n' cap') L):=hs.mono (by simp);clear hs;have hz:w.heap.size+2 < w1.heap.size:=by have:=hb.size;simp at this;omega
 obtain⟨hc,hf⟩:=ZfC hb;have HB:Hd (Zw_ w w1):=(((Zb_.alloc Zl_ _).alloc (by simp) _).alloc (by simp;omega) _).trans (hb.mono (by simp;omega));clear hb;go_wp2;refine bodyPost_ret (v:=.agg #[.string nm,.int .i64 kd,.int .i64 le,.int .i64 mo,.slice a' n' cap',.string to,.int .i64 ro,.bool mu,.bool fx,.string df,.string we]) (by simp [results,results176,go_sem,hc]) rfl ⟨_,rfl,?_,?_⟩
 . repeat (refine Below.setCell ?_ (by simp only [];omega) _)
   exact HB.o
 . refine Zaq.mono (lo:=w.heap.size+3) ?_ (by omega)
   repeat (refine Zaq.setCell ?_ (by simp only [];omega) _)
   exact HS.o
theorem ZkL (nm to df we:Zy_) (kd le mo ro:Int) (mu fx:Bool) (wv:Value) (L:List Zy_) (left:Int) (w:World) (hv:Zaf w wv L) (h0:0<=left) (h1:left<=1048576)
 (s1:nm.size<=maxLen) (s2:to.size<=maxLen) (s3:df.size<=maxLen) (s4:we.size<=maxLen) :
 Calls prog 164 #[.agg #[.string nm,.int .i64 kd,.int .i64 le,.int .i64 mo,wv,.string to,.int .i64 ro,.bool mu,.bool fx,.string df,.string we],.int .i64 left] w
  fun e w'=>∃ r:Int,e=.returned (.int .i64 r)/\Zw_ w w'/\Zro L.length left r:=by
 have HV:Hd (Zaf w wv L):=hv;obtain⟨a,n,cap,rfl⟩:=hv.form;clear hv;unfold maxLen at s1 s2 s3 s4;have HW:∀ o,Hd (Zw_ w (w.alloc o)):=fun o=>Zb_.alloc Zl_ _
 by_cases c1:(nm.size:Int)<=left
 . go_enter func164,ntmps164
   go_wp2_with fail;refine (ZfO _ L _ _ (by omega) (by omega) (HV.o.below (HW _).o)).mono ?_;rintro e w1 ⟨r,rfl,rfl,hr0,hr1,hr2⟩;go_wp2
   all_goals go_ret
   all_goals refine⟨_,rfl,(HW _).o,by omega,by omega,fun _=>?_⟩
   all_goals have:=hr2 (by omega)
   all_goals omega
 . go_enter func164,ntmps164
   go_wp2;go_ret;exact⟨-1,rfl,(HW _).o,by omega,by omega,fun h=>by omega⟩
theorem Zi7 (nm to df we:Zy_) (kd le mo ro:Int) (mu fx:Bool) (wv wv':Value) (L:List Zy_) (w:World) (hv:Zaf w wv L) (hv':Zaf w wv' L) :
 Calls prog 191 #[.agg #[.string nm,.int .i64 kd,.int .i64 le,.int .i64 mo,wv,.string to,.int .i64 ro,.bool mu,.bool fx,.string df,.string we],
  .agg #[.string nm,.int .i64 kd,.int .i64 le,.int .i64 mo,wv',.string to,.int .i64 ro,.bool mu,.bool fx,.string df,.string we]] w
  fun e w'=>e=.returned (.bool true)/\Zw_ w w':=by
 have HV:=Zab hv;have HV':=Zab hv';obtain⟨a,n,cap,rfl⟩:=hv.form;obtain⟨a',n',cap',rfl⟩:=hv'.form;clear hv hv';have HW:∀ o o',Hd (Zw_ w ((w.alloc o).alloc o')):=fun o o'=>(Zb_.alloc Zl_ _).alloc (by simp) _
 go_enter func191,ntmps191;go_wp2_with fail;refine (ZeP _ _ L _ (HV.o.below (HW _ _).o) (HV'.o.below (HW _ _).o)).mono ?_;rintro e w1 ⟨rfl,hb⟩;have hz:w.heap.size+1 < w1.heap.size:=by have:=hb.size;simp at this;omega
 have HB:Hd (Zw_ w w1):=(HW _ _).o.trans (hb.mono (by simp;omega));obtain⟨hc,hf⟩:=ZfC hb;clear hb;go_wp2;go_ret;exact⟨rfl,HB.o⟩
section
def ZaL (kd le mo:Int) (L:List Zy_) (s:Zy_):Bool:=
 if kd=1 then Zd6 s&&inB le mo (Zns s) else if kd=2 then decide (0 < s.size)&&Zen L s else if kd=3 then Zfr le mo s else if kd=4 then Zap s else false
theorem Zqr {le mo:Int}{L:List Zy_}{s:Zy_}:ZaL 1 le mo L s=(Zd6 s&&inB le mo (Zns s)):=by simp [ZaL]
theorem Zqs {le mo:Int}{L:List Zy_}{s:Zy_}:ZaL 2 le mo L s=(decide (0 < s.size)&&Zen L s):=by simp [ZaL]
theorem Zqt {le mo:Int}{L:List Zy_}{s:Zy_}:ZaL 3 le mo L s=Zfr le mo s:=by simp [ZaL]
theorem Zqu {le mo:Int}{L:List Zy_}{s:Zy_}:ZaL 4 le mo L s=Zap s:=by simp [ZaL]
theorem Zqq {kd le mo:Int}{L:List Zy_}{s:Zy_} (h1:kd≠1) (h2:kd≠2) (h3:kd≠3) (h4:kd≠4):ZaL kd le mo L s=false:=by simp [ZaL,h1,h2,h3,h4]
theorem Zj2 {s:Zy_} (h:Zd6 s=true):0<=Zns s:=by
 have h3:Zfv ZcG s=true:=by unfold Zd6 at h;simp at h;exact h.2
 have:=ZeL s s.size Zl_ (by rw [List.take_of_length_le (by simp)];exact h3);rw [Zdh Zl_] at this;exact this.1
theorem ZkX (c:UInt8):wrap64 (c.toNat:Int)=c.toNat:=by
 have:=c.toNat_lt;unfold wrap64
 omega
theorem ZoB {lo hi:Int}{s:Zy_} (h:Zfv ZbH s=false):Zfr lo hi s=false:=by unfold Zfr;simp [h]
section
variable (nm to df we:Zy_) (le mo ro:Int) (mu fx:Bool) (wv:Value) (L:List Zy_) (s:Zy_) (w:World)
theorem Zol (hv:Zaf w wv L) (hs:s.size<=maxLen) :
 Calls prog 171 #[.agg #[.string nm,.int .i64 1,.int .i64 le,.int .i64 mo,wv,.string to,.int .i64 ro,.bool mu,.bool fx,.string df,.string we],.string s] w
  fun e w'=>e=.returned (.bool (ZaL 1 le mo L s))/\Zw_ w w':=by
 obtain⟨a,n,cap,rfl⟩:=hv.form;clear hv;have HW:∀ o,Hd (Zw_ w (w.alloc o)):=fun o=>Zb_.alloc Zl_ _
 rw [Zqr];have hnum:=fun u=>Zba s u hs
 by_cases hd:Zd6 s=true
 . have h0:=Zj2 hd
   have HN:=Zab (Ziy hd);go_enter func171,ntmps171;go_wp2_with fail;refine (hnum _).mono ?_;rintro e w1 ⟨rfl,rfl⟩;rw [HN.o];go_wp2_with fail;refine (Zao _ _ _ _).mono ?_;rintro e w1 ⟨rfl,rfl⟩;go_wp2;go_ret;exact⟨Zaa (by rw [hd];rfl),(HW _).o⟩
 . have hd':Zd6 s=false:=by simpa using hd
   have HN:=Zab (ZgX hd');go_enter func171,ntmps171;go_wp2_with fail;refine (hnum _).mono ?_;rintro e w1 ⟨rfl,rfl⟩;rw [HN.o];go_wp2;go_ret;exact⟨Zaa (by rw [hd'];rfl),(HW _).o⟩
theorem Zom (hv:Zaf w wv L) (_hs:s.size<=maxLen) :
 Calls prog 171 #[.agg #[.string nm,.int .i64 2,.int .i64 le,.int .i64 mo,wv,.string to,.int .i64 ro,.bool mu,.bool fx,.string df,.string we],.string s] w
  fun e w'=>e=.returned (.bool (ZaL 2 le mo L s))/\Zw_ w w':=by
 have HV:=Zab hv;obtain⟨a,n,cap,rfl⟩:=hv.form;clear hv;have HW:∀ o,Hd (Zw_ w (w.alloc o)):=fun o=>Zb_.alloc Zl_ _
 rw [Zqs]
 by_cases hb0:0 < s.size
 . have he:=ZcH hb0
   go_enter func171,ntmps171;go_wp2_with fail;refine (Zec _ L _ _ (HV.o.below (HW _).o)).mono ?_;rintro e w1 ⟨rfl,rfl⟩;go_wp2;go_ret;exact⟨Zaa (by simp [hb0]),(HW _).o⟩
 . have he:=Zd9 (s:=s) (by omega)
   go_enter func171,ntmps171;go_wp2;go_ret;exact⟨Zaa (by simp [hb0]),(HW _).o⟩
theorem Zon (hv:Zaf w wv L) (hs:s.size<=maxLen) :
 Calls prog 171 #[.agg #[.string nm,.int .i64 3,.int .i64 le,.int .i64 mo,wv,.string to,.int .i64 ro,.bool mu,.bool fx,.string df,.string we],.string s] w
  fun e w'=>e=.returned (.bool (ZaL 3 le mo L s))/\Zw_ w w':=by
 obtain⟨a,n,cap,rfl⟩:=hv.form;clear hv;have HW:∀ o,Hd (Zw_ w (w.alloc o)):=fun o=>Zb_.alloc Zl_ _
 rw [Zqt];unfold maxLen at hs;go_enter func171,ntmps171;go_wp2_with fail
 go_loop [6] (fun i=>∃ k:Nat,k<=s.size/\i=.int .i64 k/\(s.data.toList.take k).all ZbH=true) (fun i=>s.size - (intOf i).toNat)
 case atStart=>exact⟨0,Nat.zero_le _,rfl,rfl⟩
 case round=>
  obtain⟨k,hk,rfl,hall⟩:=hrel;have HA:Hd ((s.data.toList.take k).all ZbH=true):=hall;clear hall
  by_cases hlt:k < s.size
  . have HS:Hd (ZbH s[k]=true↔(33<=(s[k].toNat:Int)/\(s[k].toNat:Int)<=126)):=Zga s[k]
    go_wp2_with fail;simp only [ZkX];refine (Zao _ _ _ _).mono ?_;rintro e w1 ⟨rfl,rfl⟩
    by_cases hin:inB 33 126 (s[k].toNat:Int)=true
    . go_wp2
      go_round
      . exact⟨k+1,by omega,by go_num,ZbZ HA.o hlt (HS.o.2 (by unfold inB at hin;simpa using hin))⟩
      . simp [intOf];omega
    . have hin':inB 33 126 (s[k].toNat:Int)=false:=by simpa using hin
      go_wp2;go_ret;exact⟨Zaa (ZoB (Zb0 hlt (Bool.eq_false_iff.2 fun h=>by have:=HS.o.1 h;unfold inB at hin;simp at hin;omega))).symm,(HW _).o⟩
  . have HE:Hd (Zfv ZbH s=true):=ZcA HA.o (by omega)
    by_cases hb0:0 < s.size
    . have he:=ZcH hb0
      go_wp2_with fail;refine (Zao _ _ _ _).mono ?_;rintro e w1 ⟨rfl,rfl⟩;go_wp2;go_ret;exact⟨Zaa (by unfold Zfr;rw [HE.o];simp [hb0]),(HW _).o⟩
    . have he:=Zd9 (s:=s) (by omega)
      go_wp2;go_ret;exact⟨Zaa (Zet (by omega)).symm,(HW _).o⟩
theorem Zoo (hv:Zaf w wv L) (hs:s.size<=maxLen) :
 Calls prog 171 #[.agg #[.string nm,.int .i64 4,.int .i64 le,.int .i64 mo,wv,.string to,.int .i64 ro,.bool mu,.bool fx,.string df,.string we],.string s] w
  fun e w'=>e=.returned (.bool (ZaL 4 le mo L s))/\Zw_ w w':=by
 obtain⟨a,n,cap,rfl⟩:=hv.form;clear hv;have HW:∀ o,Hd (Zw_ w (w.alloc o)):=fun o=>Zb_.alloc Zl_ _
 rw [Zqu];go_enter func171,ntmps171;go_wp2_with fail;refine (Zae _ _ hs).mono ?_;rintro e w1 ⟨rfl,rfl⟩;go_wp2;go_ret;exact⟨rfl,(HW _).o⟩
theorem Zok (kd:Int) (hv:Zaf w wv L) (h1:kd≠1) (h2:kd≠2) (h3:kd≠3) (h4:kd≠4) :
 Calls prog 171 #[.agg #[.string nm,.int .i64 kd,.int .i64 le,.int .i64 mo,wv,.string to,.int .i64 ro,.bool mu,.bool fx,.string df,.string we],.string s] w
  fun e w'=>e=.returned (.bool (ZaL kd le mo L s))/\Zw_ w w':=by
 obtain⟨a,n,cap,rfl⟩:=hv.form;clear hv;have HW:∀ o,Hd (Zw_ w (w.alloc o)):=fun o=>Zb_.alloc Zl_ _
 rw [Zqq h1 h2 h3 h4];have b1:(kd == 1)=false:=beq_eq_false_iff_ne.2 h1;have b2:(kd == 2)=false:=beq_eq_false_iff_ne.2 h2;have b3:(kd == 3)=false:=beq_eq_false_iff_ne.2 h3;have b4:(kd == 4)=false:=beq_eq_false_iff_ne.2 h4;clear h1 h2 h3 h4;go_enter func171,ntmps171;go_wp2;go_ret;exact⟨rfl,(HW _).o⟩
end
end
section
theorem ZpV {α:Type} (a:Array α) (x y:α):(a.push x).setIfInBounds a.size y=a.push y:=by
 apply Array.ext';simp
theorem ZiR (u:World) (es:Array MapEntry) (c:Nat) (k:Int) (v:Value) (hf:Instr.findNow (.int .i64) (.int .i64 k) es.toList 0=some none) :
 (Instr.mapUpdate 278 (.map (some u.heap.size)) (.int .i64 k) v).run prog (u.alloc (.map es c))=.ok () (u.alloc (.map (es.push { key:=.int .i64 k,val:=v,born:=c }) (c+1))):=by
 have hb:(u.alloc (.map es c)).heap[u.heap.size]?=some (.map es c):=(MapKept.heap_alloc u _).1;have hc:(Instr.checkKey false 10000 3 (.int .i64 k)).run prog (u.alloc (.map es c))=.ok () (u.alloc (.map es c)):=MapKept.run_checkKey (k:=.int .i64 k) underlying3 (by simp [MapKept.IsKey]) false 9999;simp [Instr.mapUpdate,run_underlying underlying278,MapKept.run_getObj_map hb,hc,MapKept.run_findKey underlying3 hf,MapKept.run_setObj_map _ hb,Result.andThen]
 show ({ u with heap:=(u.heap.push (.map es c)).setIfInBounds u.heap.size (.map (es.push { key:=.int .i64 k,val:=v,born:=c }) (c+1)) }:World)=_
 rw [ZpV]
 rfl
def Zak:Array MapEntry:=#[⟨.int .i64 1,.func (.func 258) #[] #[],0⟩,⟨.int .i64 2,.func (.func 259) #[] #[],1⟩,⟨.int .i64 3,.func (.func 260) #[] #[],2⟩,⟨.int .i64 4,.func (.func 261) #[] #[],3⟩]
theorem Zep (w:World) :
 Calls prog 232 #[] w fun e w'=>e=.returned (.map (some w.heap.size))/\w'=w.alloc (.map Zak 4):=by
 have hmm:=@run_makeMap prog;have h1:=ZiR w #[] 0 1 (.func (.func 258) #[] #[]) rfl;have h2:=ZiR w #[⟨.int .i64 1,.func (.func 258) #[] #[],0⟩] 1 2 (.func (.func 259) #[] #[]) rfl;have h3:=ZiR w #[⟨.int .i64 1,.func (.func 258) #[] #[],0⟩,⟨.int .i64 2,.func (.func 259) #[] #[],1⟩] 2 3 (.func (.func 260) #[] #[]) rfl;have h4:=ZiR w #[⟨.int .i64 1,.func (.func 258) #[] #[],0⟩,⟨.int .i64 2,.func (.func 259) #[] #[],1⟩,⟨.int .i64 3,.func (.func 260) #[] #[],2⟩] 3 4 (.func (.func 261) #[] #[]) rfl;go_enter func232,ntmps232;go_wp2;go_ret;exact⟨rfl,rfl⟩
theorem Zdd (W:World) (r:Nat) (k:Int) (a:Option (Nat×Value)) (hb:W.heap[r]?=some (.map Zak 4)) (hf:Instr.findNow (.int .i64) (.int .i64 k) Zak.toList 0=some a) :
 (Instr.lookup 278 (.map (some r)) (.int .i64 k) true).run prog W=.ok (.tuple (match a with | some (_,v)=>#[v,.bool true] | none=>#[.nilFunc,.bool false])) W:=by
 have hc:(Instr.checkKey Zak.isEmpty 10000 3 (.int .i64 k)).run prog W=.ok () W:=MapKept.run_checkKey (k:=.int .i64 k) underlying3 (by simp [MapKept.IsKey]) _ 9999;have hz:(zeroValue 306).run prog W=.ok .nilFunc W:=by kernel_rfl
 rcases a with _ | ⟨i,v⟩ <;>
 simp [Instr.lookup,run_underlying underlying278,MapKept.run_getObj_map hb,hc,MapKept.run_findKey underlying3 hf,Result.andThen,hz]
theorem ZrD:Instr.findNow (.int .i64) (.int .i64 1) Zak.toList 0=some (some (0,.func (.func 258) #[] #[])):=by kernel_rfl
theorem ZrE:Instr.findNow (.int .i64) (.int .i64 2) Zak.toList 0=some (some (1,.func (.func 259) #[] #[])):=by kernel_rfl
theorem ZrF:Instr.findNow (.int .i64) (.int .i64 3) Zak.toList 0=some (some (2,.func (.func 260) #[] #[])):=by kernel_rfl
theorem ZrG:Instr.findNow (.int .i64) (.int .i64 4) Zak.toList 0=some (some (3,.func (.func 261) #[] #[])):=by kernel_rfl
theorem ZrC {k:Int} (h1:k≠1) (h2:k≠2) (h3:k≠3) (h4:k≠4):Instr.findNow (.int .i64) (.int .i64 k) Zak.toList 0=some none:=by
 simp [Zak,Instr.findNow,Instr.sameNow,beq_eq_false_iff_ne.2 h1,beq_eq_false_iff_ne.2 h2,beq_eq_false_iff_ne.2 h3,beq_eq_false_iff_ne.2 h4]
section
variable (nm to df we:Zy_) (kd le mo ro:Int) (mu fx:Bool) (a:Option Addr) (n cap:Nat) (s:Zy_) (w:World)
theorem ZrK:Calls prog 258 #[.agg #[.string nm,.int .i64 kd,.int .i64 le,.int .i64 mo,.slice a n cap,.string to,.int .i64 ro,.bool mu,.bool fx,.string df,.string we]] w
 fun e w'=>e=.returned (.iface 327 (.agg #[.int .i64 le,.int .i64 mo,.string we]))/\Zw_ w w':=by
 go_enter func258,ntmps258;go_wp2;go_ret;exact⟨rfl,Zb_.alloc Zl_ _⟩
theorem ZrL:Calls prog 259 #[.agg #[.string nm,.int .i64 kd,.int .i64 le,.int .i64 mo,.slice a n cap,.string to,.int .i64 ro,.bool mu,.bool fx,.string df,.string we]] w
 fun e w'=>e=.returned (.iface 329 (.agg #[.slice a n cap]))/\Zw_ w w':=by
 go_enter func259,ntmps259;go_wp2;go_ret;exact⟨rfl,Zb_.alloc Zl_ _⟩
theorem ZrM:Calls prog 260 #[.agg #[.string nm,.int .i64 kd,.int .i64 le,.int .i64 mo,.slice a n cap,.string to,.int .i64 ro,.bool mu,.bool fx,.string df,.string we]] w
 fun e w'=>e=.returned (.iface 331 (.agg #[.int .i64 le,.int .i64 mo]))/\Zw_ w w':=by
 go_enter func260,ntmps260;go_wp2;go_ret;exact⟨rfl,Zb_.alloc Zl_ _⟩
theorem ZrN:Calls prog 261 #[.agg #[.string nm,.int .i64 kd,.int .i64 le,.int .i64 mo,.slice a n cap,.string to,.int .i64 ro,.bool mu,.bool fx,.string df,.string we]] w
 fun e w'=>e=.returned (.iface 333 (.agg #[.string to,.int .i64 ro,.bool mu,.string df]))/\Zw_ w w':=by
 go_enter func261,ntmps261;go_wp2;go_ret;exact⟨rfl,Zb_.alloc Zl_ _⟩
theorem Zn1 (hs:s.size<=maxLen):Calls prog 315 #[.agg #[.int .i64 le,.int .i64 mo,.string we],.string s] w
 fun e w'=>e=.returned (.bool (Zd6 s&&inB le mo (Zns s)))/\Zw_ w w':=by
 have HW:∀ o,Hd (Zw_ w (w.alloc o)):=fun o=>Zb_.alloc Zl_ _
 have hdec:=fun u=>ZcR s u hs
 by_cases hd:Zd6 s=true
 . have HR:=Zab (Zif hd)
   rw [Zf2];generalize Zns s=v at*
   by_cases h1:le<=v
   . by_cases h2:v<=mo
     all_goals
      go_enter func315,ntmps315;go_wp2_with fail;refine (hdec _).mono ?_;rintro e w1 ⟨rfl,rfl⟩;rw [HR.o,hd];go_wp2;go_ret;exact⟨Zaa (by simp [h1,h2,hd]),(HW _).o⟩
   . go_enter func315,ntmps315
     go_wp2_with fail;refine (hdec _).mono ?_;rintro e w1 ⟨rfl,rfl⟩;rw [HR.o,hd];go_wp2;go_ret;exact⟨Zaa (by rw [Bool.eq_iff_iff];simp;omega),(HW _).o⟩
 . have hd':Zd6 s=false:=by simpa using hd
   go_enter func315,ntmps315;go_wp2_with fail;refine (hdec _).mono ?_;rintro e w1 ⟨rfl,rfl⟩;rw [hd'];go_wp2;go_ret;exact⟨Zaa (by simp [hd']),(HW _).o⟩
theorem Zlt (L:List Zy_) (hv:Zaf w (.slice a n cap) L):Calls prog 318 #[.agg #[.slice a n cap],.string s] w
 fun e w'=>e=.returned (.bool (decide (0 < s.size)&&Zen L s))/\Zw_ w w':=by
 have HV:=Zab hv;clear hv;have HW:∀ o,Hd (Zw_ w (w.alloc o)):=fun o=>Zb_.alloc Zl_ _
 by_cases hb0:0 < s.size
 . have he:=ZcH hb0
   go_enter func318,ntmps318;go_wp2_with fail;refine (Zd2 _ L _ _ (HV.o.below (HW _).o)).mono ?_;rintro e w1 ⟨rfl,rfl⟩;go_wp2;go_ret;exact⟨Zaa (by simp [hb0]),(HW _).o⟩
 . have he:=Zd9 (s:=s) (by omega)
   go_enter func318,ntmps318;go_wp2;go_ret;exact⟨Zaa (by simp [hb0]),(HW _).o⟩
theorem Zk4 (hs:s.size<=maxLen):Calls prog 324 #[.agg #[.string to,.int .i64 ro,.bool mu,.string df],.string s] w
 fun e w'=>e=.returned (.bool (Zap s))/\Zw_ w w':=by
 have HW:∀ o,Hd (Zw_ w (w.alloc o)):=fun o=>Zb_.alloc Zl_ _
 go_enter func324,ntmps324;go_wp2_with fail;refine (Zan _ _ hs).mono ?_;rintro e w1 ⟨rfl,rfl⟩;go_wp2;go_ret;exact⟨rfl,(HW _).o⟩
end
end
section
section
variable (nm to df we:Zy_) (le mo ro:Int) (mu fx:Bool) (wv:Value) (L:List Zy_) (s:Zy_) (w:World) (r:Nat)
theorem Zqw (hr:w.heap[r]?=some (.map Zak 4)) (hv:Zaf w wv L) (hs:s.size<=maxLen) :
 Calls prog 284 #[.map (some r),.agg #[.string nm,.int .i64 1,.int .i64 le,.int .i64 mo,wv,.string to,.int .i64 ro,.bool mu,.bool fx,.string df,.string we],.string s] w
  fun e w'=>e=.returned (.bool (ZaL 1 le mo L s))/\Zw_ w w':=by
 have HV:=Zab hv;have HS:=Zab hs;obtain⟨a,n,cap,rfl⟩:=hv.form;have HW:∀ o,Hd (Zw_ w (w.alloc o)):=fun o=>Zb_.alloc Zl_ _
 have hlk:=fun o=>Zdd (w.alloc o) r 1 _ (by rw [(HW o).o.block r (Array.getElem?_eq_some_iff.1 hr).1];exact hr) ZrD
 clear hv hr hs;rw [Zqr];have hm:∀ W:World,(method 465 327 (.agg #[.int .i64 le,.int .i64 mo,.string we]) "loop.example/wharfhall/impl.fits").run prog W=.ok (315,.agg #[.int .i64 le,.int .i64 mo,.string we]) W:=fun _=>by kernel_rfl
 go_enter func284,ntmps284;go_wp2_with fail;refine (ZrK _ _ _ _ _ _ _ _ _ _ _ _ _ _).mono ?_;rintro e w1 ⟨rfl,hb1⟩;have HB1:Hd (Zw_ w w1):=(HW _).o.trans (hb1.mono (by simp));clear hb1;go_wp2_with fail;refine (Zn1 _ _ _ _ _ HS.o).mono ?_;rintro e w2 ⟨rfl,hb2⟩;have HB2:Hd (Zw_ w w2):=HB1.o.trans (hb2.mono HB1.o.size);clear hb2;go_wp2;go_ret;exact⟨rfl,HB2.o⟩
theorem Zqx (hr:w.heap[r]?=some (.map Zak 4)) (hv:Zaf w wv L) (hs:s.size<=maxLen) :
 Calls prog 284 #[.map (some r),.agg #[.string nm,.int .i64 2,.int .i64 le,.int .i64 mo,wv,.string to,.int .i64 ro,.bool mu,.bool fx,.string df,.string we],.string s] w
  fun e w'=>e=.returned (.bool (ZaL 2 le mo L s))/\Zw_ w w':=by
 have HV:=Zab hv;have HS:=Zab hs;obtain⟨a,n,cap,rfl⟩:=hv.form;have HW:∀ o,Hd (Zw_ w (w.alloc o)):=fun o=>Zb_.alloc Zl_ _
 have hlk:=fun o=>Zdd (w.alloc o) r 2 _ (by rw [(HW o).o.block r (Array.getElem?_eq_some_iff.1 hr).1];exact hr) ZrE
 clear hv hr hs;rw [Zqs];have hm:∀ W:World,(method 465 329 (.agg #[.slice a n cap]) "loop.example/wharfhall/impl.fits").run prog W=.ok (318,.agg #[.slice a n cap]) W:=fun _=>by kernel_rfl
 go_enter func284,ntmps284;go_wp2_with fail;refine (ZrL _ _ _ _ _ _ _ _ _ _ _ _ _ _).mono ?_;rintro e w1 ⟨rfl,hb1⟩;have HB1:Hd (Zw_ w w1):=(HW _).o.trans (hb1.mono (by simp));clear hb1;go_wp2_with fail;refine (Zlt _ _ _ _ _ L (HV.o.below HB1.o)).mono ?_;rintro e w2 ⟨rfl,hb2⟩;have HB2:Hd (Zw_ w w2):=HB1.o.trans (hb2.mono HB1.o.size);clear hb2;go_wp2;go_ret;exact⟨rfl,HB2.o⟩
theorem Zqy (hr:w.heap[r]?=some (.map Zak 4)) (hv:Zaf w wv L) (hs:s.size<=maxLen) :
 Calls prog 284 #[.map (some r),.agg #[.string nm,.int .i64 3,.int .i64 le,.int .i64 mo,wv,.string to,.int .i64 ro,.bool mu,.bool fx,.string df,.string we],.string s] w
  fun e w'=>e=.returned (.bool (ZaL 3 le mo L s))/\Zw_ w w':=by
 have HV:=Zab hv;have HS:=Zab hs;obtain⟨a,n,cap,rfl⟩:=hv.form;have HW:∀ o,Hd (Zw_ w (w.alloc o)):=fun o=>Zb_.alloc Zl_ _
 have hlk:=fun o=>Zdd (w.alloc o) r 3 _ (by rw [(HW o).o.block r (Array.getElem?_eq_some_iff.1 hr).1];exact hr) ZrF
 clear hv hr hs;rw [Zqt];have hm:∀ W:World,(method 465 331 (.agg #[.int .i64 le,.int .i64 mo]) "loop.example/wharfhall/impl.fits").run prog W=.ok (321,.agg #[.int .i64 le,.int .i64 mo]) W:=fun _=>by kernel_rfl
 go_enter func284,ntmps284;go_wp2_with fail;refine (ZrM _ _ _ _ _ _ _ _ _ _ _ _ _ _).mono ?_;rintro e w1 ⟨rfl,hb1⟩;have HB1:Hd (Zw_ w w1):=(HW _).o.trans (hb1.mono (by simp));clear hb1;go_wp2_with fail;refine (Zgb _ _ _ _ HS.o).mono ?_;rintro e w2 ⟨rfl,hb2⟩;have HB2:Hd (Zw_ w w2):=HB1.o.trans (hb2.mono HB1.o.size);clear hb2;go_wp2;go_ret;exact⟨rfl,HB2.o⟩
theorem Zqz (hr:w.heap[r]?=some (.map Zak 4)) (hv:Zaf w wv L) (hs:s.size<=maxLen) :
 Calls prog 284 #[.map (some r),.agg #[.string nm,.int .i64 4,.int .i64 le,.int .i64 mo,wv,.string to,.int .i64 ro,.bool mu,.bool fx,.string df,.string we],.string s] w
  fun e w'=>e=.returned (.bool (ZaL 4 le mo L s))/\Zw_ w w':=by
 have HV:=Zab hv;have HS:=Zab hs;obtain⟨a,n,cap,rfl⟩:=hv.form;have HW:∀ o,Hd (Zw_ w (w.alloc o)):=fun o=>Zb_.alloc Zl_ _
 have hlk:=fun o=>Zdd (w.alloc o) r 4 _ (by rw [(HW o).o.block r (Array.getElem?_eq_some_iff.1 hr).1];exact hr) ZrG
 clear hv hr hs;rw [Zqu];have hm:∀ W:World,(method 465 333 (.agg #[.string to,.int .i64 ro,.bool mu,.string df]) "loop.example/wharfhall/impl.fits").run prog W=.ok (324,.agg #[.string to,.int .i64 ro,.bool mu,.string df]) W:=fun _=>by kernel_rfl
 go_enter func284,ntmps284;go_wp2_with fail;refine (ZrN _ _ _ _ _ _ _ _ _ _ _ _ _ _).mono ?_;rintro e w1 ⟨rfl,hb1⟩;have HB1:Hd (Zw_ w w1):=(HW _).o.trans (hb1.mono (by simp));clear hb1;go_wp2_with fail;refine (Zk4 _ _ _ _ _ _ HS.o).mono ?_;rintro e w2 ⟨rfl,hb2⟩;have HB2:Hd (Zw_ w w2):=HB1.o.trans (hb2.mono HB1.o.size);clear hb2;go_wp2;go_ret;exact⟨rfl,HB2.o⟩
theorem Zqv (kd:Int) (hr:w.heap[r]?=some (.map Zak 4)) (hv:Zaf w wv L) (h1:kd≠1) (h2:kd≠2) (h3:kd≠3) (h4:kd≠4) :
 Calls prog 284 #[.map (some r),.agg #[.string nm,.int .i64 kd,.int .i64 le,.int .i64 mo,wv,.string to,.int .i64 ro,.bool mu,.bool fx,.string df,.string we],.string s] w
  fun e w'=>e=.returned (.bool (ZaL kd le mo L s))/\Zw_ w w':=by
 obtain⟨a,n,cap,rfl⟩:=hv.form;have HW:∀ o,Hd (Zw_ w (w.alloc o)):=fun o=>Zb_.alloc Zl_ _
 have hlk:∀ o,(Instr.lookup 278 (.map (some r)) (.int .i64 kd) true).run prog (w.alloc o)=.ok (.tuple #[.nilFunc,.bool false]) (w.alloc o):=
  fun o=>Zdd (w.alloc o) r kd _ (by rw [(HW o).o.block r (Array.getElem?_eq_some_iff.1 hr).1];exact hr) (ZrC h1 h2 h3 h4)
 rw [Zqq h1 h2 h3 h4];clear hv hr h1 h2 h3 h4;go_enter func284,ntmps284;go_wp2;go_ret;exact⟨rfl,(HW _).o⟩
theorem ZhD (kd:Int) (hr:w.heap[r]?=some (.map Zak 4)) (hv:Zaf w wv L) (hs:s.size<=maxLen) :
 Calls prog 284 #[.map (some r),.agg #[.string nm,.int .i64 kd,.int .i64 le,.int .i64 mo,wv,.string to,.int .i64 ro,.bool mu,.bool fx,.string df,.string we],.string s] w
  fun e w'=>e=.returned (.bool (ZaL kd le mo L s))/\Zw_ w w':=by
 by_cases h1:kd=1
 . subst h1;exact Zqw nm to df we le mo ro mu fx wv L s w r hr hv hs
 by_cases h2:kd=2
 . subst h2;exact Zqx nm to df we le mo ro mu fx wv L s w r hr hv hs
 by_cases h3:kd=3
 . subst h3;exact Zqy nm to df we le mo ro mu fx wv L s w r hr hv hs
 by_cases h4:kd=4
 . subst h4;exact Zqz nm to df we le mo ro mu fx wv L s w r hr hv hs
 exact Zqv nm to df we le mo ro mu fx wv L s w r kd hr hv h1 h2 h3 h4
theorem Zbn (kd:Int) (hv:Zaf w wv L) (hs:s.size<=maxLen) :
 Calls prog 171 #[.agg #[.string nm,.int .i64 kd,.int .i64 le,.int .i64 mo,wv,.string to,.int .i64 ro,.bool mu,.bool fx,.string df,.string we],.string s] w
  fun e w'=>e=.returned (.bool (ZaL kd le mo L s))/\Zw_ w w':=by
 by_cases h1:kd=1
 . subst h1;exact Zol nm to df we le mo ro mu fx wv L s w hv hs
 by_cases h2:kd=2
 . subst h2;exact Zom nm to df we le mo ro mu fx wv L s w hv hs
 by_cases h3:kd=3
 . subst h3;exact Zon nm to df we le mo ro mu fx wv L s w hv hs
 by_cases h4:kd=4
 . subst h4;exact Zoo nm to df we le mo ro mu fx wv L s w hv hs
 exact Zok nm to df we le mo ro mu fx wv L s w kd hv h1 h2 h3 h4
end
end
section
variable (nm to df we:Zy_) (le mo ro:Int) (mu fx:Bool) (wv:Value) (L:List Zy_) (s:Zy_) (w:World) (r:Nat)
theorem Zf4 (u:World) (o:Obj):(u.alloc o).heap[u.heap.size]?=some o:=(MapKept.heap_alloc u _).1
theorem Zf0 (kd:Int) (hv:Zaf w wv L) (hs:s.size<=maxLen) :
 Calls prog 266 #[.agg #[.string nm,.int .i64 kd,.int .i64 le,.int .i64 mo,wv,.string to,.int .i64 ro,.bool mu,.bool fx,.string df,.string we],.string s] w
  fun e w'=>e=.returned (.bool (ZaL kd le mo L s))/\Zw_ w w':=by
 have HV:=Zab hv;have HS:=Zab hs;obtain⟨a,n,cap,rfl⟩:=hv.form;clear hv hs;have HW:∀ o,Hd (Zw_ w (w.alloc o)):=fun o=>Zb_.alloc Zl_ _
 have hr0:∀ o,Hd ((((w.alloc o).alloc (.map Zak 4)).drew).heap[w.heap.size+1]?=some (.map Zak 4)):=fun o=>by
  have:=Zf4 (w.alloc o) (.map Zak 4);rw [World.size_alloc] at this;exact this
 have hbw:∀ o o',Hd (Zw_ w (((w.alloc o).alloc o').drew)):=fun o o'=>((HW o).o.alloc (by simp) o').drew
 go_enter func266,ntmps266;go_wp2
 go_region_with (first
  | (go_at_call 232;refine (Zep _).mono ?_;rintro e w' ⟨rfl,rfl⟩)
  | (go_at_call 284;refine (ZhD _ _ _ _ _ _ _ _ _ _ L _ _ _ _ (hr0 _).o (HV.o.below (hbw _ _).o) HS.o).mono ?_;rintro e w' ⟨rfl,hb⟩;have HB:Hd (Zw_ w w'):=(hbw _ _).o.trans (hb.mono (hbw _ _).o.size);clear hb))
 all_goals go_wp2
 all_goals go_ret
 all_goals exact⟨rfl,HB.o⟩
end
end Go.Proofs.YtmappejlmapboaaGreat
