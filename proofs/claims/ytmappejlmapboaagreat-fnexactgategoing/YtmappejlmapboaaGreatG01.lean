import Derived.Test.YtmappejlmapboaaGreatG00
import Derived.Deep.OwnRows
set_option maxHeartbeats 16000000
set_option maxRecDepth 100000
open Go.Proofs.Tryz
namespace Go.Proofs.YtmappejlmapboaaGreat
open Go.RowKit Go.Deep
section
variable {wr w:World} {B k lo:Nat} {v:Value}
theorem Zfm (v v':Value) (L:List Zy_) (w:World) (hv:Zaf w v L) (hv':Zaf w v' L) :
 Calls prog 147 #[v,v'] w fun e w'=>e=.returned (.bool true)/\Zw_ w w':=by
 by_cases hL:L=[]
 . subst hL
   obtain⟨a,cap,rfl⟩:∃ a cap,v=.slice a 0 cap:=by
    rcases hv with ⟨a,cap,h,_⟩ | ⟨b,off,cap,h,hne,_⟩
    . exact⟨a,cap,h⟩
    . exact absurd rfl hne
   obtain⟨a',cap',rfl⟩:∃ a cap,v'=.slice a 0 cap:=by
    rcases hv' with ⟨a,cap,h,_⟩ | ⟨b,off,cap,h,hne,_⟩
    . exact⟨a,cap,h⟩
    . exact absurd rfl hne
   clear hv hv';go_enter func147,ntmps147;go_wp2
   go_loop [5] (fun i=>i=.int .i64 0) (fun _=>0)
   case atStart=>rfl
   case round=>
    subst hrel;go_wp2;go_ret;exact⟨rfl,Below.refl _ _⟩
 . obtain⟨b,off,cap,rfl,hm,hbw,hc⟩:∃ b off cap,v=.slice (some ⟨b,off,none⟩) L.length cap/\L.length<=maxLen/\b < w.heap.size/\∀ i (h:i < L.length),w.cell? ⟨b,off+i,none⟩=some (.string L[i]):=by
    rcases hv with ⟨a,cap,h,h'⟩ | ⟨b,off,cap,h,hne,hm,hbw,hc,_⟩
    . exact absurd h' hL
    . exact⟨b,off,cap,h,hm,hbw,hc⟩
   obtain⟨b',off',cap',rfl,_,hbw',hc'⟩:∃ b off cap,v'=.slice (some ⟨b,off,none⟩) L.length cap/\L.length<=maxLen/\b < w.heap.size/\∀ i (h:i < L.length),w.cell? ⟨b,off+i,none⟩=some (.string L[i]):=by
    rcases hv' with ⟨a,cap,h,h'⟩ | ⟨b,off,cap,h,hne,hm,hbw,hc,_⟩
    . exact absurd h' hL
    . exact⟨b,off,cap,h,hm,hbw,hc⟩
   clear hv hv';unfold maxLen at hm;go_enter func147,ntmps147;go_wp2
   go_loopw [5] (fun i wr=>∃ k:Nat,i=.int .i64 k/\k<=L.length/\Zw_ w wr) (fun i _=>L.length - (intOf i).toNat)
   case atStart=>exact⟨0,rfl,by omega,Below.refl _ _⟩
   case round=>
    obtain⟨k,rfl,hk,hb⟩:=hrel
    by_cases hlt:k < L.length
    . have hck:wr.cell? ⟨b,off+k,none⟩=some (.string L[k]):=by rw [hb.cell (p:=⟨b,off+k,none⟩) hbw];exact hc k hlt
      have hck':wr.cell? ⟨b',off'+k,none⟩=some (.string L[k]):=by rw [hb.cell (p:=⟨b',off'+k,none⟩) hbw'];exact hc' k hlt
      go_wp2
      go_quiet (fail)
      go_wp2;go_roundw
      . exact⟨k+1,by go_num,by omega,below_drewN hb _⟩
      . simp [intOf];omega
    . go_wp2
      go_ret;exact⟨rfl,hb⟩
theorem Tryz.info9:(prog.info? 9).map (fun i=>(i.zero,i.size,i.bytes))=some (some (.string ⟨#[]⟩),1,16):=by kernel_rfl
def ZqR (L:List Zy_) (k i:Nat):Value:=if i < k then .string (L.getD i ⟨#[]⟩) else .string ⟨#[]⟩
def Zb5 (wr:World) (B:Nat) (L:List Zy_) (k:Nat):Prop:=wr.rowIs B 9 L.length (ZqR L k)
theorem Zb5.step {L:List Zy_} (h:Zb5 wr B L k) (hk:k < L.length):Zb5 (wr.setCell ⟨B,k,none⟩ (.string L[k])) B L (k+1):=by
 unfold Zb5 at*;refine (h.set k (.string L[k])).congr fun i hi=>?_
 unfold ZqR
 by_cases e:i=k
 . subst e;simp [hk]
 . by_cases e2:i < k
   . simp [e,e2,Nat.lt_succ_of_lt e2]
   . have:¬ i < k+1:=by omega
     simp [e,e2,this]
theorem Zb5.old {L:List Zy_} (h:Zb5 wr B L k) (hk:k < L.length):∃ v,wr.cell? ⟨B,k,none⟩=some v:=⟨_,World.rowIs.cell h hk⟩
theorem Zb5.frozen {L:List Zy_} (h:Zb5 wr B L k) (i:Nat):wr.frozen? ⟨B,i,none⟩=false:=World.rowIs.frozen h i
def Zaq (lo:Nat) (w:World) (v:Value) (L:List Zy_):Prop:=
 (∃ (a:Option Addr) (cap:Nat),v=.slice a 0 cap/\L=[])\/
 ∃ (b off cap:Nat),v=.slice (some ⟨b,off,none⟩) L.length cap/\L≠[]/\L.length<=maxLen/\b < w.heap.size/\
  (∀ i (h:i < L.length),w.cell? ⟨b,off+i,none⟩=some (.string L[i]))/\(∀ s ∈ L,s.size<=maxLen)/\lo<=b
theorem Zaq.at {L:List Zy_} (h:Zaq lo w v L):Zaf w v L:=by
 rcases h with h | ⟨b,off,cap,h1,h2,h3,h4,h5,h6,_⟩
 . exact Or.inl h
 . exact Or.inr ⟨b,off,cap,h1,h2,h3,h4,h5,h6⟩
theorem Zaq.mono {lo':Nat}{L:List Zy_} (h:Zaq lo w v L) (hl:lo'<=lo):Zaq lo' w v L:=by
 rcases h with h | ⟨b,off,cap,h1,h2,h3,h4,h5,h6,h7⟩
 . exact Or.inl h
 . exact Or.inr ⟨b,off,cap,h1,h2,h3,h4,h5,h6,Nat.le_trans hl h7⟩
theorem Zaq.below {w':World}{L:List Zy_} (h:Zaq lo w v L) (hb:Zw_ w w'):Zaq lo w' v L:=by
 rcases h with h | ⟨b,off,cap,h1,h2,h3,h4,h5,h6,h7⟩
 . exact Or.inl h
 . exact Or.inr ⟨b,off,cap,h1,h2,h3,Zk_ h4 hb.size,fun i hi=>by rw [hb.cell (p:=⟨b,off+i,none⟩) h4];exact h5 i hi,h6,h7⟩
theorem Zar (w:World) (p q:Addr) (u:Value) (h:q.block≠p.block):(w.setCell p u).cell? q=w.cell? q:=
 World.cell?_of_block (w:=w) (Below.heap_setCell w p u q.block h)
theorem Zaq.setCell {L:List Zy_} (h:Zaq lo w v L) {p:Addr} (hp:p.block < lo) (u:Value):Zaq lo (w.setCell p u) v L:=by
 rcases h with h | ⟨b,off,cap,h1,h2,h3,h4,h5,h6,h7⟩
 . exact Or.inl h
 . exact Or.inr ⟨b,off,cap,h1,h2,h3,by simpa [World.setCell] using h4,fun i hi=>by rw [Zar _ _ _ _ (by show b≠p.block;omega)];exact h5 i hi,h6,h7⟩
theorem Zaq.form {L:List Zy_} (h:Zaq lo w v L):∃ a n cap,v=.slice a n cap:=by
 rcases h with ⟨a,cap,h,_⟩ | ⟨b,off,cap,h,_⟩
 . exact⟨a,_,cap,h⟩
 . exact⟨_,_,cap,h⟩
theorem Zaf.form {L:List Zy_} (h:Zaf w v L):∃ a n cap,v=.slice a n cap:=by
 rcases h with ⟨a,cap,h,_⟩ | ⟨b,off,cap,h,_⟩
 . exact⟨a,_,cap,h⟩
 . exact⟨_,_,cap,h⟩
theorem Zb5.done {L:List Zy_} (h:Zb5 wr B L k) (hk:L.length<=k) (hne:L≠[]) (hm:L.length<=maxLen) (hs:∀ s ∈ L,s.size<=maxLen):Zaq B wr (.slice (some ⟨B,0,none⟩) L.length L.length) L:=by
 refine Or.inr ⟨B,0,L.length,rfl,hne,hm,World.rowIs.lt h,fun i hi=>?_,hs,Nat.le_refl _⟩;rw [Nat.zero_add,World.rowIs.cell h hi];unfold ZqR;rw [if_pos (by omega),List.getD_eq_getElem?_getD,List.getElem?_eq_getElem hi];rfl
theorem Zgp (v:Value) (L:List Zy_) (w:World) (hv:Zaf w v L) (hn:L.length<=1048576) :
 Calls prog 139 #[v] w fun e w'=>∃ v',e=.returned v'/\Zw_ w w'/\Zaq w.heap.size w' v' L:=by
 rcases hv with ⟨a,cap,rfl,rfl⟩ | ⟨b,off,cap,rfl,hne,hm,hbw,hc,hsz⟩
 . have hmk:∀ u:World,(Instr.makeSlice 111 (.int .i64 0) (.int .i64 0)).run prog u=.ok (.slice (some ⟨u.heap.size,0,none⟩) 0 0) (u.alloc (.cells (madeCells #[.string ⟨#[]⟩] 0) 9)):=
    fun u=>run_make_row' 111 9 (.string ⟨#[]⟩) 16 underlying111 Tryz.info9 rfl .i64 .i64 0 (by omega) (by omega) u
   go_enter func139,ntmps139;go_wp2
   go_loop [4] (fun i=>i=.int .i64 0) (fun _=>0)
   case atStart=>rfl
   case round=>
    subst hrel;go_wp2;go_ret;exact⟨_,rfl,Zb_.alloc Zl_ _,Or.inl ⟨_,_,rfl,rfl⟩⟩
 . have HM:Hd (L.length<=maxLen):=hm
   unfold maxLen at hm
   have hmk:∀ u:World,(Instr.makeSlice 111 (.int .i64 (L.length:Int)) (.int .i64 (L.length:Int))).run prog u=.ok (.slice (some ⟨u.heap.size,0,none⟩) L.length L.length) (u.alloc (.cells (madeCells #[.string ⟨#[]⟩] L.length) 9)):=
    fun u=>run_make_row' 111 9 (.string ⟨#[]⟩) 16 underlying111 Tryz.info9 rfl .i64 .i64 L.length (by omega) (by omega) u
   go_enter func139,ntmps139;go_wp2;clear hmk
   go_loopw [4] (fun i wr=>∃ k:Nat,i=.int .i64 k/\k<=L.length/\Zw_ w wr/\Zb5 wr w.heap.size L k) (fun i _=>L.length - (intOf i).toNat)
   case atStart=>exact⟨0,rfl,by omega,Zb_.alloc Zl_ _,World.rowIs_made w (.string ⟨#[]⟩) L.length 9⟩
   case round=>
    obtain⟨k,rfl,hk,hb,hf⟩:=hrel
    by_cases hlt:k < L.length
    . have hck:wr.cell? ⟨b,off+k,none⟩=some (.string L[k]):=by rw [hb.cell (p:=⟨b,off+k,none⟩) hbw];exact hc k hlt
      obtain⟨old,hold⟩:=hf.old hlt;have hfz:=hf.frozen k;go_wp2;go_roundw
      . exact⟨k+1,by go_num,by omega,hb.setCell Zl_ _,hf.step hlt⟩
      . simp [intOf];omega
    . go_wp2
      go_ret;exact⟨_,rfl,hb,hf.done (by omega) hne HM.o hsz⟩
end
theorem Zf8 {W w1:World} (hb:Below W.heap.size W w1):(∀ b o,b < W.heap.size->w1.cell? ⟨b,o,none⟩=W.cell? ⟨b,o,none⟩)/\(∀ b o,b < W.heap.size->w1.frozen? ⟨b,o,none⟩=W.frozen? ⟨b,o,none⟩):=
 ⟨fun b o h=>hb.cell (p:=⟨b,o,none⟩) h,fun b o h=>hb.frozen (p:=⟨b,o,none⟩) h⟩
theorem Zl3 (nm to df we:Zy_) (kd le mo ro:Int) (mu fx:Bool) (wv:Value) (L:List Zy_) (w:World) (hv:Zaf w wv L) (hn:L.length<=1048576) :
 Calls prog 176 #[.agg #[.string nm,.int .i64 kd,.int .i64 le,.int .i64 mo,wv,.string to,.int .i64 ro,.bool mu,.bool fx,.string df,.string we]] w
  fun e w'=>∃ wv',e=.returned (.agg #[.string nm,.int .i64 kd,.int .i64 le,.int .i64 mo,wv',.string to,.int .i64 ro,.bool mu,.bool fx,.string df,.string we])/\Zw_ w w'/\Zaq w.heap.size w' wv' L:=by
 have HV:Hd (Zaf w wv L):=hv;obtain⟨a,n,cap,rfl⟩:=hv.form;clear hv;go_enter func176,ntmps176;go_wp2_with fail;refine (Zgp _ L _ (HV.o.below ?_) hn).mono ?_
 . exact ((Zb_.alloc Zl_ _).alloc (by simp) _).alloc (by simp;omega) _
 rintro e w1 ⟨wv',rfl,hb,hs⟩;obtain⟨a',n',cap',rfl⟩:=hs.form;have HS:Hd (Zaq (w.heap.size+3) w1 (.slice a' n' cap') L):=hs.mono (by simp);clear hs;have hz:w.heap.size+2 < w1.heap.size:=by have:=hb.size;simp at this;omega
 obtain⟨hc,hf⟩:=Zf8 hb;have HB:Hd (Zw_ w w1):=(((Zb_.alloc Zl_ _).alloc (by simp) _).alloc (by simp;omega) _).trans (hb.mono (by simp;omega));clear hb;go_wp2;refine bodyPost_ret (v:=.agg #[.string nm,.int .i64 kd,.int .i64 le,.int .i64 mo,.slice a' n' cap',.string to,.int .i64 ro,.bool mu,.bool fx,.string df,.string we]) (by simp [results,results176,go_sem,hc]) rfl ⟨_,rfl,?_,?_⟩
 . repeat (refine Below.setCell ?_ (by simp only [];omega) _)
   exact HB.o
 . refine Zaq.mono (lo:=w.heap.size+3) ?_ (by omega)
   repeat (refine Zaq.setCell ?_ (by simp only [];omega) _)
   exact HS.o
theorem ZlZ (nm to df we:Zy_) (kd le mo ro:Int) (mu fx:Bool) (wv:Value) (L:List Zy_) (left:Int) (w:World) (hv:Zaf w wv L) (h0:0<=left) (h1:left<=1048576)
 (s1:nm.size<=maxLen) (s2:to.size<=maxLen) (s3:df.size<=maxLen) (s4:we.size<=maxLen) :
 Calls prog 164 #[.agg #[.string nm,.int .i64 kd,.int .i64 le,.int .i64 mo,wv,.string to,.int .i64 ro,.bool mu,.bool fx,.string df,.string we],.int .i64 left] w
  fun e w'=>∃ r:Int,e=.returned (.int .i64 r)/\Zw_ w w'/\ZsN L.length left r:=by
 have HV:Hd (Zaf w wv L):=hv;obtain⟨a,n,cap,rfl⟩:=hv.form;clear hv;unfold maxLen at s1 s2 s3 s4;have HW:∀ o,Hd (Zw_ w (w.alloc o)):=fun o=>Zb_.alloc Zl_ _
 by_cases c1:(nm.size:Int)<=left
 . go_enter func164,ntmps164
   go_wp2_with fail;refine (Zgn _ L _ _ (by omega) (by omega) (HV.o.below (HW _).o)).mono ?_;rintro e w1 ⟨r,rfl,rfl,hr0,hr1,hr2⟩;go_wp2
   all_goals go_ret
   all_goals refine⟨_,rfl,(HW _).o,by omega,by omega,fun _=>?_⟩
   all_goals have:=hr2 (by omega)
   all_goals omega
 . go_enter func164,ntmps164
   go_wp2;go_ret;exact⟨-1,rfl,(HW _).o,by omega,by omega,fun h=>by omega⟩
theorem Zj1 (nm to df we:Zy_) (kd le mo ro:Int) (mu fx:Bool) (wv wv':Value) (L:List Zy_) (w:World) (hv:Zaf w wv L) (hv':Zaf w wv' L) :
 Calls prog 191 #[.agg #[.string nm,.int .i64 kd,.int .i64 le,.int .i64 mo,wv,.string to,.int .i64 ro,.bool mu,.bool fx,.string df,.string we],
  .agg #[.string nm,.int .i64 kd,.int .i64 le,.int .i64 mo,wv',.string to,.int .i64 ro,.bool mu,.bool fx,.string df,.string we]] w
  fun e w'=>e=.returned (.bool true)/\Zw_ w w':=by
 have HV:=Zab hv;have HV':=Zab hv';obtain⟨a,n,cap,rfl⟩:=hv.form;obtain⟨a',n',cap',rfl⟩:=hv'.form;clear hv hv';have HW:∀ o o',Hd (Zw_ w ((w.alloc o).alloc o')):=fun o o'=>(Zb_.alloc Zl_ _).alloc (by simp) _
 go_enter func191,ntmps191;go_wp2_with fail;refine (Zfm _ _ L _ (HV.o.below (HW _ _).o) (HV'.o.below (HW _ _).o)).mono ?_;rintro e w1 ⟨rfl,hb⟩;have hz:w.heap.size+1 < w1.heap.size:=by have:=hb.size;simp at this;omega
 have HB:Hd (Zw_ w w1):=(HW _ _).o.trans (hb.mono (by simp;omega));obtain⟨hc,hf⟩:=Zf8 hb;clear hb;go_wp2;go_ret;exact⟨rfl,HB.o⟩
def ZaL (kd le mo:Int) (L:List Zy_) (s:Zy_):Bool:=
 if kd=1 then ZeA s&&inB le mo (ZoN s) else if kd=2 then decide (0 < s.size)&&ZeS L s else if kd=3 then ZfX le mo s else if kd=4 then Zap s else false
theorem Zr0 {le mo:Int}{L:List Zy_}{s:Zy_}:ZaL 1 le mo L s=(ZeA s&&inB le mo (ZoN s)):=by simp [ZaL]
theorem Zr1 {le mo:Int}{L:List Zy_}{s:Zy_}:ZaL 2 le mo L s=(decide (0 < s.size)&&ZeS L s):=by simp [ZaL]
theorem Zr2 {le mo:Int}{L:List Zy_}{s:Zy_}:ZaL 3 le mo L s=ZfX le mo s:=by simp [ZaL]
theorem Zr3 {le mo:Int}{L:List Zy_}{s:Zy_}:ZaL 4 le mo L s=Zap s:=by simp [ZaL]
theorem ZrZ {kd le mo:Int}{L:List Zy_}{s:Zy_} (h1:kd≠1) (h2:kd≠2) (h3:kd≠3) (h4:kd≠4):ZaL kd le mo L s=false:=by simp [ZaL,h1,h2,h3,h4]
theorem Zk8 {s:Zy_} (h:ZeA s=true):0<=ZoN s:=by
 have h3:Zf1 ZcX s=true:=by unfold ZeA at h;simp at h;exact h.2
 have:=Zfi s s.size Zl_ (by rw [List.take_of_length_le (by simp)];exact h3);rw [ZdE Zl_] at this;exact this.1
theorem Zma (c:UInt8):wrap64 (c.toNat:Int)=c.toNat:=by
 have:=c.toNat_lt;unfold wrap64
 omega
theorem Zqi {lo hi:Int}{s:Zy_} (h:Zf1 ZbS s=false):ZfX lo hi s=false:=by unfold ZfX;simp [h]
section
variable (nm to df we:Zy_) (le mo ro:Int) (mu fx:Bool) (wv:Value) (L:List Zy_) (s:Zy_) (w:World)
theorem Zp2 (hv:Zaf w wv L) (hs:s.size<=maxLen) :
 Calls prog 171 #[.agg #[.string nm,.int .i64 1,.int .i64 le,.int .i64 mo,wv,.string to,.int .i64 ro,.bool mu,.bool fx,.string df,.string we],.string s] w
  fun e w'=>e=.returned (.bool (ZaL 1 le mo L s))/\Zw_ w w':=by
 obtain⟨a,n,cap,rfl⟩:=hv.form;clear hv;have HW:∀ o,Hd (Zw_ w (w.alloc o)):=fun o=>Zb_.alloc Zl_ _
 rw [Zr0];have hnum:=fun u=>Zbf s u hs
 by_cases hd:ZeA s=true
 . have h0:=Zk8 hd
   have HN:=Zab (Zjs hd);go_enter func171,ntmps171;go_wp2_with fail;refine (hnum _).mono ?_;rintro e w1 ⟨rfl,rfl⟩;rw [HN.o];go_wp2_with fail;refine (Zao _ _ _ _).mono ?_;rintro e w1 ⟨rfl,rfl⟩;go_wp2;go_ret;exact⟨Zaa (by rw [hd];rfl),(HW _).o⟩
 . have hd':ZeA s=false:=by simpa using hd
   have HN:=Zab (Zhz hd');go_enter func171,ntmps171;go_wp2_with fail;refine (hnum _).mono ?_;rintro e w1 ⟨rfl,rfl⟩;rw [HN.o];go_wp2;go_ret;exact⟨Zaa (by rw [hd'];rfl),(HW _).o⟩
theorem Zp3 (hv:Zaf w wv L) (_hs:s.size<=maxLen) :
 Calls prog 171 #[.agg #[.string nm,.int .i64 2,.int .i64 le,.int .i64 mo,wv,.string to,.int .i64 ro,.bool mu,.bool fx,.string df,.string we],.string s] w
  fun e w'=>e=.returned (.bool (ZaL 2 le mo L s))/\Zw_ w w':=by
 have HV:=Zab hv;obtain⟨a,n,cap,rfl⟩:=hv.form;clear hv;have HW:∀ o,Hd (Zw_ w (w.alloc o)):=fun o=>Zb_.alloc Zl_ _
 rw [Zr1]
 by_cases hb0:0 < s.size
 . have he:=ZcY hb0
   go_enter func171,ntmps171;go_wp2_with fail;refine (ZeH _ L _ _ (HV.o.below (HW _).o)).mono ?_;rintro e w1 ⟨rfl,rfl⟩;go_wp2;go_ret;exact⟨Zaa (by simp [hb0]),(HW _).o⟩
 . have he:=ZeD (s:=s) (by omega)
   go_enter func171,ntmps171;go_wp2;go_ret;exact⟨Zaa (by simp [hb0]),(HW _).o⟩
theorem Zp4 (hv:Zaf w wv L) (hs:s.size<=maxLen) :
 Calls prog 171 #[.agg #[.string nm,.int .i64 3,.int .i64 le,.int .i64 mo,wv,.string to,.int .i64 ro,.bool mu,.bool fx,.string df,.string we],.string s] w
  fun e w'=>e=.returned (.bool (ZaL 3 le mo L s))/\Zw_ w w':=by
 obtain⟨a,n,cap,rfl⟩:=hv.form;clear hv;have HW:∀ o,Hd (Zw_ w (w.alloc o)):=fun o=>Zb_.alloc Zl_ _
 rw [Zr2];unfold maxLen at hs;go_enter func171,ntmps171;go_wp2_with fail
 go_loop [6] (fun i=>∃ k:Nat,k<=s.size/\i=.int .i64 k/\(s.data.toList.take k).all ZbS=true) (fun i=>s.size - (intOf i).toNat)
 case atStart=>exact⟨0,Nat.zero_le _,rfl,rfl⟩
 case round=>
  obtain⟨k,hk,rfl,hall⟩:=hrel;have HA:Hd ((s.data.toList.take k).all ZbS=true):=hall;clear hall
  by_cases hlt:k < s.size
  . have HS:Hd (ZbS s[k]=true↔(33<=(s[k].toNat:Int)/\(s[k].toNat:Int)<=126)):=ZgL s[k]
    go_wp2_with fail;simp only [Zma];refine (Zao _ _ _ _).mono ?_;rintro e w1 ⟨rfl,rfl⟩
    by_cases hin:inB 33 126 (s[k].toNat:Int)=true
    . go_wp2
      go_round
      . exact⟨k+1,by omega,by go_num,Zcb HA.o hlt (HS.o.2 (by unfold inB at hin;simpa using hin))⟩
      . simp [intOf];omega
    . have hin':inB 33 126 (s[k].toNat:Int)=false:=by simpa using hin
      go_wp2;go_ret;exact⟨Zaa (Zqi (Zcc hlt (Bool.eq_false_iff.2 fun h=>by have:=HS.o.1 h;unfold inB at hin;simp at hin;omega))).symm,(HW _).o⟩
  . have HE:Hd (Zf1 ZbS s=true):=ZcP HA.o (by omega)
    by_cases hb0:0 < s.size
    . have he:=ZcY hb0
      go_wp2_with fail;refine (Zao _ _ _ _).mono ?_;rintro e w1 ⟨rfl,rfl⟩;go_wp2;go_ret;exact⟨Zaa (by unfold ZfX;rw [HE.o];simp [hb0]),(HW _).o⟩
    . have he:=ZeD (s:=s) (by omega)
      go_wp2;go_ret;exact⟨Zaa (ZeZ (by omega)).symm,(HW _).o⟩
theorem Zp5 (hv:Zaf w wv L) (hs:s.size<=maxLen) :
 Calls prog 171 #[.agg #[.string nm,.int .i64 4,.int .i64 le,.int .i64 mo,wv,.string to,.int .i64 ro,.bool mu,.bool fx,.string df,.string we],.string s] w
  fun e w'=>e=.returned (.bool (ZaL 4 le mo L s))/\Zw_ w w':=by
 obtain⟨a,n,cap,rfl⟩:=hv.form;clear hv;have HW:∀ o,Hd (Zw_ w (w.alloc o)):=fun o=>Zb_.alloc Zl_ _
 rw [Zr3];go_enter func171,ntmps171;go_wp2_with fail;refine (Zae _ _ hs).mono ?_;rintro e w1 ⟨rfl,rfl⟩;go_wp2;go_ret;exact⟨rfl,(HW _).o⟩
theorem Zp1 (kd:Int) (hv:Zaf w wv L) (h1:kd≠1) (h2:kd≠2) (h3:kd≠3) (h4:kd≠4) :
 Calls prog 171 #[.agg #[.string nm,.int .i64 kd,.int .i64 le,.int .i64 mo,wv,.string to,.int .i64 ro,.bool mu,.bool fx,.string df,.string we],.string s] w
  fun e w'=>e=.returned (.bool (ZaL kd le mo L s))/\Zw_ w w':=by
 obtain⟨a,n,cap,rfl⟩:=hv.form;clear hv;have HW:∀ o,Hd (Zw_ w (w.alloc o)):=fun o=>Zb_.alloc Zl_ _
 rw [ZrZ h1 h2 h3 h4];have b1:(kd == 1)=false:=beq_eq_false_iff_ne.2 h1;have b2:(kd == 2)=false:=beq_eq_false_iff_ne.2 h2;have b3:(kd == 3)=false:=beq_eq_false_iff_ne.2 h3;have b4:(kd == 4)=false:=beq_eq_false_iff_ne.2 h4;clear h1 h2 h3 h4;go_enter func171,ntmps171;go_wp2;go_ret;exact⟨rfl,(HW _).o⟩
end
end Go.Proofs.YtmappejlmapboaaGreat
