import Derived.Test.YtfohnageehneoaaGreatVA1
import Derived.WideMake
import Derived.Deep.RegionWith
set_option maxHeartbeats 16000000
set_option maxRecDepth 100000
open Go.Proofs.Tryz
namespace Go.Proofs.YtfohnageehneoaaGreat
open Go.RowKit Go.Deep
theorem Zf4 {W w1:World} (hb:Below W.heap.size W w1):(∀ b o,b < W.heap.size→w1.cell? ⟨b,o,none⟩=W.cell? ⟨b,o,none⟩)∧(∀ b o,b < W.heap.size→w1.frozen? ⟨b,o,none⟩=W.frozen? ⟨b,o,none⟩):=
 ⟨fun b o h=>hb.cell (p:=⟨b,o,none⟩) h,fun b o h=>hb.frozen (p:=⟨b,o,none⟩) h⟩
theorem ZlD (nm to df we:Zy_) (kd le mo ro:Int) (mu fx:Bool) (wv:Value) (L:List Zy_) (w:World) (hv:Zag w wv L) (hn:L.length≤1048576) :
 Calls prog 202 #[.agg #[.string nm,.int .i64 kd,.int .i64 le,.int .i64 mo,wv,.string to,.int .i64 ro,.bool mu,.bool fx,.string df,.string we]] w
  fun e w'=>∃ wv',e=.returned (.agg #[.string nm,.int .i64 kd,.int .i64 le,.int .i64 mo,wv',.string to,.int .i64 ro,.bool mu,.bool fx,.string df,.string we])∧Zw_ w w'∧Zao w.heap.size w' wv' L:=by
 have HV:Hid (Zag w wv L):=hv;obtain⟨a,n,cap,rfl⟩:=hv.form;clear hv;go_enter func202,ntmps202;go_wp2_with fail;refine (Zf2 _ L _ (HV.out.below ?_) hn).mono ?_
 · exact ((Zb_.alloc Zl_ _).alloc (by simp) _).alloc (by simp;omega) _
 rintro e w1 ⟨wv',rfl,hb,hs⟩;obtain⟨a',n',cap',rfl⟩:=hs.form;have HS:Hid (Zao (w.heap.size+3) w1 (.slice a' n' cap') L):=hs.mono (by simp);clear hs;have hz:w.heap.size+2 < w1.heap.size:=by have:=hb.size;simp at this;omega
 obtain⟨hc,hf⟩:=Zf4 hb;have HB:Hid (Zw_ w w1):=(((Zb_.alloc Zl_ _).alloc (by simp) _).alloc (by simp;omega) _).trans (hb.mono (by simp;omega));clear hb;go_wp2;refine bodyPost_ret (v:=.agg #[.string nm,.int .i64 kd,.int .i64 le,.int .i64 mo,.slice a' n' cap',.string to,.int .i64 ro,.bool mu,.bool fx,.string df,.string we]) (by simp [results,results202,go_sem,hc]) rfl ⟨_,rfl,?_,?_⟩
 · repeat (refine Below.setCell ?_ (by simp only [];omega) _)
   exact HB.out
 · refine Zao.mono (lo:=w.heap.size+3) ?_ (by omega)
   repeat (refine Zao.setCell ?_ (by simp only [];omega) _)
   exact HS.out
theorem Zlg (nm to df we:Zy_) (kd le mo ro:Int) (mu fx:Bool) (wv:Value) (L:List Zy_) (left:Int) (w:World) (hv:Zag w wv L) (h0:0≤left) (h1:left≤1048576)
 (s1:nm.size≤maxLen) (s2:to.size≤maxLen) (s3:df.size≤maxLen) (s4:we.size≤maxLen) :
 Calls prog 198 #[.agg #[.string nm,.int .i64 kd,.int .i64 le,.int .i64 mo,wv,.string to,.int .i64 ro,.bool mu,.bool fx,.string df,.string we],.int .i64 left] w
  fun e w'=>∃ r:Int,e=.returned (.int .i64 r)∧Zw_ w w'∧Zsj L.length left r:=by
 have HV:Hid (Zag w wv L):=hv;obtain⟨a,n,cap,rfl⟩:=hv.form;clear hv;unfold maxLen at s1 s2 s3 s4;have HW:∀ o,Hid (Zw_ w (w.alloc o)):=fun o=>Zb_.alloc Zl_ _
 by_cases c1:(nm.size:Int)≤left
 · go_enter func198,ntmps198
   go_wp2_with fail;refine (ZfH _ L _ _ (by omega) (by omega) (HV.out.below (HW _).out)).mono ?_;rintro e w1 ⟨r,rfl,rfl,hr0,hr1,hr2⟩;go_wp2
   all_goals go_ret
   all_goals refine⟨_,rfl,(HW _).out,by omega,by omega,fun _=>?_⟩
   all_goals have:=hr2 (by omega)
   all_goals omega
 · go_enter func198,ntmps198
   go_wp2;go_ret;exact⟨-1,rfl,(HW _).out,by omega,by omega,fun h=>by omega⟩
theorem Zjs (nm to df we:Zy_) (kd le mo ro:Int) (mu fx:Bool) (wv wv':Value) (L:List Zy_) (w:World) (hv:Zag w wv L) (hv':Zag w wv' L) :
 Calls prog 215 #[.agg #[.string nm,.int .i64 kd,.int .i64 le,.int .i64 mo,wv,.string to,.int .i64 ro,.bool mu,.bool fx,.string df,.string we],
  .agg #[.string nm,.int .i64 kd,.int .i64 le,.int .i64 mo,wv',.string to,.int .i64 ro,.bool mu,.bool fx,.string df,.string we]] w
  fun e w'=>e=.returned (.bool true)∧Zw_ w w':=by
 have HV:=Zab hv;have HV':=Zab hv';obtain⟨a,n,cap,rfl⟩:=hv.form;obtain⟨a',n',cap',rfl⟩:=hv'.form;clear hv hv';have HW:∀ o o',Hid (Zw_ w ((w.alloc o).alloc o')):=fun o o'=>(Zb_.alloc Zl_ _).alloc (by simp) _
 go_enter func215,ntmps215;go_wp2_with fail;refine (Ze4 _ _ L _ (HV.out.below (HW _ _).out) (HV'.out.below (HW _ _).out)).mono ?_;rintro e w1 ⟨rfl,hb⟩;have hz:w.heap.size+1 < w1.heap.size:=by have:=hb.size;simp at this;omega
 have HB:Hid (Zw_ w w1):=(HW _ _).out.trans (hb.mono (by simp;omega));obtain⟨hc,hf⟩:=Zf4 hb;clear hb;go_wp2;go_ret;exact⟨rfl,HB.out⟩
def ZaM (kd le mo:Int) (L:List Zy_) (s:Zy_):Bool:=
 if kd=1 then Zer s&&inB le mo (ZoJ s) else if kd=2 then decide (0 < s.size)&&ZeJ L s else if kd=3 then Zfu le mo s else if kd=4 then Zas s else false
theorem ZrG {le mo:Int} {L:List Zy_} {s:Zy_}:ZaM 1 le mo L s=(Zer s&&inB le mo (ZoJ s)):=by simp [ZaM]
theorem Zr9 {le mo:Int} {L:List Zy_} {s:Zy_}:ZaM 2 le mo L s=(decide (0 < s.size)&&ZeJ L s):=by simp [ZaM]
theorem Zr4 {le mo:Int} {L:List Zy_} {s:Zy_}:ZaM 3 le mo L s=Zfu le mo s:=by simp [ZaM]
theorem Zrv {le mo:Int} {L:List Zy_} {s:Zy_}:ZaM 4 le mo L s=Zas s:=by simp [ZaM]
theorem Zrr {kd le mo:Int} {L:List Zy_} {s:Zy_} (h1:kd≠1) (h2:kd≠2) (h3:kd≠3) (h4:kd≠4):ZaM kd le mo L s=false:=by simp [ZaM,h1,h2,h3,h4]
theorem Zk4 {s:Zy_} (h:Zer s=true):0≤ZoJ s:=by
 have h3:ZfF Zc1 s=true:=by unfold Zer at h;simp at h;exact h.2
 have:=ZeZ s s.size Zl_ (by rw [List.take_of_length_le (by simp)];exact h3);rw [ZdL Zl_] at this;exact this.1
theorem Zk5 (c:UInt8):wrap64 (c.toNat:Int)=c.toNat:=by
 have:=c.toNat_lt;unfold wrap64
 omega
theorem ZoM {lo hi:Int} {s:Zy_} (h:ZfF ZbX s=false):Zfu lo hi s=false:=by unfold Zfu;simp [h]
section
variable (nm to df we:Zy_) (le mo ro:Int) (mu fx:Bool) (wv:Value) (L:List Zy_) (s:Zy_) (w:World)
theorem ZpC (hv:Zag w wv L) (hs:s.size≤maxLen) :
 Calls prog 199 #[.agg #[.string nm,.int .i64 1,.int .i64 le,.int .i64 mo,wv,.string to,.int .i64 ro,.bool mu,.bool fx,.string df,.string we],.string s] w
  fun e w'=>e=.returned (.bool (ZaM 1 le mo L s))∧Zw_ w w':=by
 obtain⟨a,n,cap,rfl⟩:=hv.form;clear hv;have HW:∀ o,Hid (Zw_ w (w.alloc o)):=fun o=>Zb_.alloc Zl_ _
 rw [ZrG];have hnum:=fun u=>Zbk s u hs
 by_cases hd:Zer s=true
 · have h0:=Zk4 hd
   have HN:=Zab (Ziz hd);go_enter func199,ntmps199;go_wp2_with fail;refine (hnum _).mono ?_;rintro e w1 ⟨rfl,rfl⟩;rw [HN.out];go_wp2_with fail;refine (Zar _ _ _ _).mono ?_;rintro e w1 ⟨rfl,rfl⟩;go_wp2;go_ret;exact⟨Zaa (by rw [hd];rfl),(HW _).out⟩
 · have hd':Zer s=false:=by simpa using hd
   have HN:=Zab (ZgZ hd');go_enter func199,ntmps199;go_wp2_with fail;refine (hnum _).mono ?_;rintro e w1 ⟨rfl,rfl⟩;rw [HN.out];go_wp2;go_ret;exact⟨Zaa (by rw [hd'];rfl),(HW _).out⟩
theorem Zow (hv:Zag w wv L) (_hs:s.size≤maxLen) :
 Calls prog 199 #[.agg #[.string nm,.int .i64 2,.int .i64 le,.int .i64 mo,wv,.string to,.int .i64 ro,.bool mu,.bool fx,.string df,.string we],.string s] w
  fun e w'=>e=.returned (.bool (ZaM 2 le mo L s))∧Zw_ w w':=by
 have HV:=Zab hv;obtain⟨a,n,cap,rfl⟩:=hv.form;clear hv;have HW:∀ o,Hid (Zw_ w (w.alloc o)):=fun o=>Zb_.alloc Zl_ _
 rw [Zr9]
 by_cases hb0:0 < s.size
 · have he:=Zc6 hb0
   go_enter func199,ntmps199;go_wp2_with fail;refine (Zep _ L _ _ (HV.out.below (HW _).out)).mono ?_;rintro e w1 ⟨rfl,rfl⟩;go_wp2;go_ret;exact⟨Zaa (by simp [hb0]),(HW _).out⟩
 · have he:=Zed (s:=s) (by omega)
   go_enter func199,ntmps199;go_wp2;go_ret;exact⟨Zaa (by simp [hb0]),(HW _).out⟩
theorem Zn7 (hv:Zag w wv L) (hs:s.size≤maxLen) :
 Calls prog 199 #[.agg #[.string nm,.int .i64 3,.int .i64 le,.int .i64 mo,wv,.string to,.int .i64 ro,.bool mu,.bool fx,.string df,.string we],.string s] w
  fun e w'=>e=.returned (.bool (ZaM 3 le mo L s))∧Zw_ w w':=by
 obtain⟨a,n,cap,rfl⟩:=hv.form;clear hv;have HW:∀ o,Hid (Zw_ w (w.alloc o)):=fun o=>Zb_.alloc Zl_ _
 rw [Zr4];unfold maxLen at hs;go_enter func199,ntmps199;go_wp2_with fail
 go_loop [6] (fun i=>∃ k:Nat,k≤s.size∧i=.int .i64 k∧(s.data.toList.take k).all ZbX=true) (fun i=>s.size - (intOf i).toNat)
 case atStart=>exact⟨0,Nat.zero_le _,rfl,rfl⟩
 case round=>
  obtain⟨k,hk,rfl,hall⟩:=hrel;have HA:Hid ((s.data.toList.take k).all ZbX=true):=hall;clear hall
  by_cases hlt:k < s.size
  · have HS:Hid (ZbX s[k]=true↔(33≤(s[k].toNat:Int)∧(s[k].toNat:Int)≤126)):=Zgk s[k]
    go_wp2_with fail;simp only [Zk5];refine (Zar _ _ _ _).mono ?_;rintro e w1 ⟨rfl,rfl⟩
    by_cases hin:inB 33 126 (s[k].toNat:Int)=true
    · go_wp2
      go_round
      case rel=>exact⟨k+1,by omega,by go_num,Zce HA.out hlt (HS.out.2 (by unfold inB at hin;simpa using hin))⟩
      case measure=>simp [intOf];omega
    · have hin':inB 33 126 (s[k].toNat:Int)=false:=by simpa using hin
      go_wp2;go_ret;exact⟨Zaa (ZoM (Zcd hlt (Bool.eq_false_iff.2 fun h=>by have:=HS.out.1 h;unfold inB at hin;simp at hin;omega))).symm,(HW _).out⟩
  · have HE:Hid (ZfF ZbX s=true):=ZcV HA.out (by omega)
    by_cases hb0:0 < s.size
    · have he:=Zc6 hb0
      go_wp2_with fail;refine (Zar _ _ _ _).mono ?_;rintro e w1 ⟨rfl,rfl⟩;go_wp2;go_ret;exact⟨Zaa (by unfold Zfu;rw [HE.out];simp [hb0]),(HW _).out⟩
    · have he:=Zed (s:=s) (by omega)
      go_wp2;go_ret;exact⟨Zaa (ZeB (by omega)).symm,(HW _).out⟩
theorem Zo2 (hv:Zag w wv L) (hs:s.size≤maxLen) :
 Calls prog 199 #[.agg #[.string nm,.int .i64 4,.int .i64 le,.int .i64 mo,wv,.string to,.int .i64 ro,.bool mu,.bool fx,.string df,.string we],.string s] w
  fun e w'=>e=.returned (.bool (ZaM 4 le mo L s))∧Zw_ w w':=by
 obtain⟨a,n,cap,rfl⟩:=hv.form;clear hv;have HW:∀ o,Hid (Zw_ w (w.alloc o)):=fun o=>Zb_.alloc Zl_ _
 rw [Zrv];go_enter func199,ntmps199;go_wp2_with fail;refine (Zaf _ _ hs).mono ?_;rintro e w1 ⟨rfl,rfl⟩;go_wp2;go_ret;exact⟨rfl,(HW _).out⟩
theorem Zpg (kd:Int) (hv:Zag w wv L) (h1:kd≠1) (h2:kd≠2) (h3:kd≠3) (h4:kd≠4) :
 Calls prog 199 #[.agg #[.string nm,.int .i64 kd,.int .i64 le,.int .i64 mo,wv,.string to,.int .i64 ro,.bool mu,.bool fx,.string df,.string we],.string s] w
  fun e w'=>e=.returned (.bool (ZaM kd le mo L s))∧Zw_ w w':=by
 obtain⟨a,n,cap,rfl⟩:=hv.form;clear hv;have HW:∀ o,Hid (Zw_ w (w.alloc o)):=fun o=>Zb_.alloc Zl_ _
 rw [Zrr h1 h2 h3 h4];have b1:(kd == 1)=false:=beq_eq_false_iff_ne.2 h1;have b2:(kd == 2)=false:=beq_eq_false_iff_ne.2 h2;have b3:(kd == 3)=false:=beq_eq_false_iff_ne.2 h3;have b4:(kd == 4)=false:=beq_eq_false_iff_ne.2 h4;clear h1 h2 h3 h4;go_enter func199,ntmps199;go_wp2;go_ret;exact⟨rfl,(HW _).out⟩
end
theorem ZqE {α:Type} (a:Array α) (x y:α):(a.push x).setIfInBounds a.size y=a.push y:=by
 apply Array.ext';simp
theorem ZiQ (u:World) (es:Array MapEntry) (c:Nat) (k:Int) (v:Value) (hf:Instr.findNow (.int .i64) (.int .i64 k) es.toList 0=some none) :
 (Instr.mapUpdate 274 (.map (some u.heap.size)) (.int .i64 k) v).run prog (u.alloc (.map es c))=.ok () (u.alloc (.map (es.push { key:=.int .i64 k,val:=v,born:=c }) (c+1))):=by
 have hb:(u.alloc (.map es c)).heap[u.heap.size]?=some (.map es c):=(MapKept.heap_alloc u _).1;have hc:(Instr.checkKey false 10000 3 (.int .i64 k)).run prog (u.alloc (.map es c))=.ok () (u.alloc (.map es c)):=MapKept.run_checkKey (k:=.int .i64 k) underlying3 (by simp [MapKept.IsKey]) false 9999;simp [Instr.mapUpdate,run_underlying underlying274,MapKept.run_getObj_map hb,hc,MapKept.run_findKey underlying3 hf,MapKept.run_setObj_map _ hb,Result.andThen]
 show ({ u with heap:=(u.heap.push (.map es c)).setIfInBounds u.heap.size (.map (es.push { key:=.int .i64 k,val:=v,born:=c }) (c+1)) }:World)=_
 rw [ZqE]
 rfl
def Zal:Array MapEntry:=#[⟨.int .i64 1,.func (.func 250) #[] #[],0⟩,⟨.int .i64 2,.func (.func 251) #[] #[],1⟩,⟨.int .i64 3,.func (.func 252) #[] #[],2⟩,⟨.int .i64 4,.func (.func 253) #[] #[],3⟩]
theorem ZeE (w:World) :
 Calls prog 224 #[] w fun e w'=>e=.returned (.map (some w.heap.size))∧w'=w.alloc (.map Zal 4):=by
 have hmm:=@run_makeMap prog;have h1:=ZiQ w #[] 0 1 (.func (.func 250) #[] #[]) rfl;have h2:=ZiQ w #[⟨.int .i64 1,.func (.func 250) #[] #[],0⟩] 1 2 (.func (.func 251) #[] #[]) rfl;have h3:=ZiQ w #[⟨.int .i64 1,.func (.func 250) #[] #[],0⟩,⟨.int .i64 2,.func (.func 251) #[] #[],1⟩] 2 3 (.func (.func 252) #[] #[]) rfl;have h4:=ZiQ w #[⟨.int .i64 1,.func (.func 250) #[] #[],0⟩,⟨.int .i64 2,.func (.func 251) #[] #[],1⟩,⟨.int .i64 3,.func (.func 252) #[] #[],2⟩] 3 4 (.func (.func 253) #[] #[]) rfl;go_enter func224,ntmps224;go_wp2;go_ret;exact⟨rfl,rfl⟩
theorem Zdy (W:World) (r:Nat) (k:Int) (a:Option (Nat×Value)) (hb:W.heap[r]?=some (.map Zal 4)) (hf:Instr.findNow (.int .i64) (.int .i64 k) Zal.toList 0=some a) :
 (Instr.lookup 274 (.map (some r)) (.int .i64 k) true).run prog W=.ok (.tuple (match a with | some (_,v)=>#[v,.bool true] | none=>#[.nilFunc,.bool false])) W:=by
 have hc:(Instr.checkKey Zal.isEmpty 10000 3 (.int .i64 k)).run prog W=.ok () W:=MapKept.run_checkKey (k:=.int .i64 k) underlying3 (by simp [MapKept.IsKey]) _ 9999;have hz:(zeroValue 305).run prog W=.ok .nilFunc W:=by kernel_rfl
 rcases a with _ | ⟨i,v⟩ <;>
 simp [Instr.lookup,run_underlying underlying274,MapKept.run_getObj_map hb,hc,MapKept.run_findKey underlying3 hf,Result.andThen,hz]
theorem ZsF:Instr.findNow (.int .i64) (.int .i64 1) Zal.toList 0=some (some (0,.func (.func 250) #[] #[])):=by kernel_rfl
theorem ZsJ:Instr.findNow (.int .i64) (.int .i64 2) Zal.toList 0=some (some (1,.func (.func 251) #[] #[])):=by kernel_rfl
theorem ZsS:Instr.findNow (.int .i64) (.int .i64 3) Zal.toList 0=some (some (2,.func (.func 252) #[] #[])):=by kernel_rfl
theorem ZsA:Instr.findNow (.int .i64) (.int .i64 4) Zal.toList 0=some (some (3,.func (.func 253) #[] #[])):=by kernel_rfl
theorem ZsQ {k:Int} (h1:k≠1) (h2:k≠2) (h3:k≠3) (h4:k≠4):Instr.findNow (.int .i64) (.int .i64 k) Zal.toList 0=some none:=by
 simp [Zal,Instr.findNow,Instr.sameNow,beq_eq_false_iff_ne.2 h1,beq_eq_false_iff_ne.2 h2,beq_eq_false_iff_ne.2 h3,beq_eq_false_iff_ne.2 h4]
section
variable (nm to df we:Zy_) (kd le mo ro:Int) (mu fx:Bool) (a:Option Addr) (n cap:Nat) (s:Zy_) (w:World)
theorem Zsu:Calls prog 250 #[.agg #[.string nm,.int .i64 kd,.int .i64 le,.int .i64 mo,.slice a n cap,.string to,.int .i64 ro,.bool mu,.bool fx,.string df,.string we]] w
 fun e w'=>e=.returned (.iface 332 (.agg #[.int .i64 le,.int .i64 mo,.string we]))∧Zw_ w w':=by
 go_enter func250,ntmps250;go_wp2;go_ret;exact⟨rfl,Zb_.alloc Zl_ _⟩
theorem Zst:Calls prog 251 #[.agg #[.string nm,.int .i64 kd,.int .i64 le,.int .i64 mo,.slice a n cap,.string to,.int .i64 ro,.bool mu,.bool fx,.string df,.string we]] w
 fun e w'=>e=.returned (.iface 334 (.agg #[.slice a n cap]))∧Zw_ w w':=by
 go_enter func251,ntmps251;go_wp2;go_ret;exact⟨rfl,Zb_.alloc Zl_ _⟩
theorem Zsz:Calls prog 252 #[.agg #[.string nm,.int .i64 kd,.int .i64 le,.int .i64 mo,.slice a n cap,.string to,.int .i64 ro,.bool mu,.bool fx,.string df,.string we]] w
 fun e w'=>e=.returned (.iface 336 (.agg #[.int .i64 le,.int .i64 mo]))∧Zw_ w w':=by
 go_enter func252,ntmps252;go_wp2;go_ret;exact⟨rfl,Zb_.alloc Zl_ _⟩
theorem ZsK:Calls prog 253 #[.agg #[.string nm,.int .i64 kd,.int .i64 le,.int .i64 mo,.slice a n cap,.string to,.int .i64 ro,.bool mu,.bool fx,.string df,.string we]] w
 fun e w'=>e=.returned (.iface 338 (.agg #[.string to,.int .i64 ro,.bool mu,.string df]))∧Zw_ w w':=by
 go_enter func253,ntmps253;go_wp2;go_ret;exact⟨rfl,Zb_.alloc Zl_ _⟩
theorem ZoN (hs:s.size≤maxLen):Calls prog 335 #[.agg #[.int .i64 le,.int .i64 mo,.string we],.string s] w
 fun e w'=>e=.returned (.bool (Zer s&&inB le mo (ZoJ s)))∧Zw_ w w':=by
 have HW:∀ o,Hid (Zw_ w (w.alloc o)):=fun o=>Zb_.alloc Zl_ _
 have hdec:=fun u=>Zdh s u hs
 by_cases hd:Zer s=true
 · have HR:=Zab (ZiZ hd)
   rw [Zej];generalize ZoJ s=v at*
   by_cases h1:le≤v
   · by_cases h2:v≤mo
     all_goals
      go_enter func335,ntmps335;go_wp2_with fail;refine (hdec _).mono ?_;rintro e w1 ⟨rfl,rfl⟩;rw [HR.out,hd];go_wp2;go_ret;exact⟨Zaa (by simp [h1,h2,hd]),(HW _).out⟩
   · go_enter func335,ntmps335
     go_wp2_with fail;refine (hdec _).mono ?_;rintro e w1 ⟨rfl,rfl⟩;rw [HR.out,hd];go_wp2;go_ret;exact⟨Zaa (by rw [Bool.eq_iff_iff];simp;omega),(HW _).out⟩
 · have hd':Zer s=false:=by simpa using hd
   go_enter func335,ntmps335;go_wp2_with fail;refine (hdec _).mono ?_;rintro e w1 ⟨rfl,rfl⟩;rw [hd'];go_wp2;go_ret;exact⟨Zaa (by simp [hd']),(HW _).out⟩
theorem ZlL (L:List Zy_) (hv:Zag w (.slice a n cap) L):Calls prog 338 #[.agg #[.slice a n cap],.string s] w
 fun e w'=>e=.returned (.bool (decide (0 < s.size)&&ZeJ L s))∧Zw_ w w':=by
 have HV:=Zab hv;clear hv;have HW:∀ o,Hid (Zw_ w (w.alloc o)):=fun o=>Zb_.alloc Zl_ _
 by_cases hb0:0 < s.size
 · have he:=Zc6 hb0
   go_enter func338,ntmps338;go_wp2_with fail;refine (Zeo _ L _ _ (HV.out.below (HW _).out)).mono ?_;rintro e w1 ⟨rfl,rfl⟩;go_wp2;go_ret;exact⟨Zaa (by simp [hb0]),(HW _).out⟩
 · have he:=Zed (s:=s) (by omega)
   go_enter func338,ntmps338;go_wp2;go_ret;exact⟨Zaa (by simp [hb0]),(HW _).out⟩
theorem ZlI (hs:s.size≤maxLen):Calls prog 344 #[.agg #[.string to,.int .i64 ro,.bool mu,.string df],.string s] w
 fun e w'=>e=.returned (.bool (Zas s))∧Zw_ w w':=by
 have HW:∀ o,Hid (Zw_ w (w.alloc o)):=fun o=>Zb_.alloc Zl_ _
 go_enter func344,ntmps344;go_wp2_with fail;refine (Zap _ _ hs).mono ?_;rintro e w1 ⟨rfl,rfl⟩;go_wp2;go_ret;exact⟨rfl,(HW _).out⟩
end
section
variable (nm to df we:Zy_) (le mo ro:Int) (mu fx:Bool) (wv:Value) (L:List Zy_) (s:Zy_) (w:World) (r:Nat)
theorem ZrQ (hr:w.heap[r]?=some (.map Zal 4)) (hv:Zag w wv L) (hs:s.size≤maxLen) :
 Calls prog 274 #[.map (some r),.agg #[.string nm,.int .i64 1,.int .i64 le,.int .i64 mo,wv,.string to,.int .i64 ro,.bool mu,.bool fx,.string df,.string we],.string s] w
  fun e w'=>e=.returned (.bool (ZaM 1 le mo L s))∧Zw_ w w':=by
 have HV:=Zab hv;have HS:=Zab hs;obtain⟨a,n,cap,rfl⟩:=hv.form;have HW:∀ o,Hid (Zw_ w (w.alloc o)):=fun o=>Zb_.alloc Zl_ _
 have hlk:=fun o=>Zdy (w.alloc o) r 1 _ (by rw [(HW o).out.block r (Array.getElem?_eq_some_iff.1 hr).1];exact hr) ZsF
 clear hv hr hs;rw [ZrG];have hm:∀ W:World,(method 479 332 (.agg #[.int .i64 le,.int .i64 mo,.string we]) "loop.example/wharfhall/impl.fits").run prog W=.ok (335,.agg #[.int .i64 le,.int .i64 mo,.string we]) W:=fun _=>by kernel_rfl
 go_enter func274,ntmps274;go_wp2_with fail;refine (Zsu _ _ _ _ _ _ _ _ _ _ _ _ _ _).mono ?_;rintro e w1 ⟨rfl,hb1⟩;have HB1:Hid (Zw_ w w1):=(HW _).out.trans (hb1.mono (by simp));clear hb1;go_wp2_with fail;refine (ZoN _ _ _ _ _ HS.out).mono ?_;rintro e w2 ⟨rfl,hb2⟩;have HB2:Hid (Zw_ w w2):=HB1.out.trans (hb2.mono HB1.out.size);clear hb2;go_wp2;go_ret;exact⟨rfl,HB2.out⟩
theorem Zsd (hr:w.heap[r]?=some (.map Zal 4)) (hv:Zag w wv L) (hs:s.size≤maxLen) :
 Calls prog 274 #[.map (some r),.agg #[.string nm,.int .i64 2,.int .i64 le,.int .i64 mo,wv,.string to,.int .i64 ro,.bool mu,.bool fx,.string df,.string we],.string s] w
  fun e w'=>e=.returned (.bool (ZaM 2 le mo L s))∧Zw_ w w':=by
 have HV:=Zab hv;have HS:=Zab hs;obtain⟨a,n,cap,rfl⟩:=hv.form;have HW:∀ o,Hid (Zw_ w (w.alloc o)):=fun o=>Zb_.alloc Zl_ _
 have hlk:=fun o=>Zdy (w.alloc o) r 2 _ (by rw [(HW o).out.block r (Array.getElem?_eq_some_iff.1 hr).1];exact hr) ZsJ
 clear hv hr hs;rw [Zr9];have hm:∀ W:World,(method 479 334 (.agg #[.slice a n cap]) "loop.example/wharfhall/impl.fits").run prog W=.ok (338,.agg #[.slice a n cap]) W:=fun _=>by kernel_rfl
 go_enter func274,ntmps274;go_wp2_with fail;refine (Zst _ _ _ _ _ _ _ _ _ _ _ _ _ _).mono ?_;rintro e w1 ⟨rfl,hb1⟩;have HB1:Hid (Zw_ w w1):=(HW _).out.trans (hb1.mono (by simp));clear hb1;go_wp2_with fail;refine (ZlL _ _ _ _ _ L (HV.out.below HB1.out)).mono ?_;rintro e w2 ⟨rfl,hb2⟩;have HB2:Hid (Zw_ w w2):=HB1.out.trans (hb2.mono HB1.out.size);clear hb2;go_wp2;go_ret;exact⟨rfl,HB2.out⟩
theorem ZrW (hr:w.heap[r]?=some (.map Zal 4)) (hv:Zag w wv L) (hs:s.size≤maxLen) :
 Calls prog 274 #[.map (some r),.agg #[.string nm,.int .i64 3,.int .i64 le,.int .i64 mo,wv,.string to,.int .i64 ro,.bool mu,.bool fx,.string df,.string we],.string s] w
  fun e w'=>e=.returned (.bool (ZaM 3 le mo L s))∧Zw_ w w':=by
 have HV:=Zab hv;have HS:=Zab hs;obtain⟨a,n,cap,rfl⟩:=hv.form;have HW:∀ o,Hid (Zw_ w (w.alloc o)):=fun o=>Zb_.alloc Zl_ _
 have hlk:=fun o=>Zdy (w.alloc o) r 3 _ (by rw [(HW o).out.block r (Array.getElem?_eq_some_iff.1 hr).1];exact hr) ZsS
 clear hv hr hs;rw [Zr4];have hm:∀ W:World,(method 479 336 (.agg #[.int .i64 le,.int .i64 mo]) "loop.example/wharfhall/impl.fits").run prog W=.ok (341,.agg #[.int .i64 le,.int .i64 mo]) W:=fun _=>by kernel_rfl
 go_enter func274,ntmps274;go_wp2_with fail;refine (Zsz _ _ _ _ _ _ _ _ _ _ _ _ _ _).mono ?_;rintro e w1 ⟨rfl,hb1⟩;have HB1:Hid (Zw_ w w1):=(HW _).out.trans (hb1.mono (by simp));clear hb1;go_wp2_with fail;refine (Zgj _ _ _ _ HS.out).mono ?_;rintro e w2 ⟨rfl,hb2⟩;have HB2:Hid (Zw_ w w2):=HB1.out.trans (hb2.mono HB1.out.size);clear hb2;go_wp2;go_ret;exact⟨rfl,HB2.out⟩
theorem Zrh (hr:w.heap[r]?=some (.map Zal 4)) (hv:Zag w wv L) (hs:s.size≤maxLen) :
 Calls prog 274 #[.map (some r),.agg #[.string nm,.int .i64 4,.int .i64 le,.int .i64 mo,wv,.string to,.int .i64 ro,.bool mu,.bool fx,.string df,.string we],.string s] w
  fun e w'=>e=.returned (.bool (ZaM 4 le mo L s))∧Zw_ w w':=by
 have HV:=Zab hv;have HS:=Zab hs;obtain⟨a,n,cap,rfl⟩:=hv.form;have HW:∀ o,Hid (Zw_ w (w.alloc o)):=fun o=>Zb_.alloc Zl_ _
 have hlk:=fun o=>Zdy (w.alloc o) r 4 _ (by rw [(HW o).out.block r (Array.getElem?_eq_some_iff.1 hr).1];exact hr) ZsA
 clear hv hr hs;rw [Zrv];have hm:∀ W:World,(method 479 338 (.agg #[.string to,.int .i64 ro,.bool mu,.string df]) "loop.example/wharfhall/impl.fits").run prog W=.ok (344,.agg #[.string to,.int .i64 ro,.bool mu,.string df]) W:=fun _=>by kernel_rfl
 go_enter func274,ntmps274;go_wp2_with fail;refine (ZsK _ _ _ _ _ _ _ _ _ _ _ _ _ _).mono ?_;rintro e w1 ⟨rfl,hb1⟩;have HB1:Hid (Zw_ w w1):=(HW _).out.trans (hb1.mono (by simp));clear hb1;go_wp2_with fail;refine (ZlI _ _ _ _ _ _ HS.out).mono ?_;rintro e w2 ⟨rfl,hb2⟩;have HB2:Hid (Zw_ w w2):=HB1.out.trans (hb2.mono HB1.out.size);clear hb2;go_wp2;go_ret;exact⟨rfl,HB2.out⟩
theorem ZrC (kd:Int) (hr:w.heap[r]?=some (.map Zal 4)) (hv:Zag w wv L) (h1:kd≠1) (h2:kd≠2) (h3:kd≠3) (h4:kd≠4) :
 Calls prog 274 #[.map (some r),.agg #[.string nm,.int .i64 kd,.int .i64 le,.int .i64 mo,wv,.string to,.int .i64 ro,.bool mu,.bool fx,.string df,.string we],.string s] w
  fun e w'=>e=.returned (.bool (ZaM kd le mo L s))∧Zw_ w w':=by
 obtain⟨a,n,cap,rfl⟩:=hv.form;have HW:∀ o,Hid (Zw_ w (w.alloc o)):=fun o=>Zb_.alloc Zl_ _
 have hlk:∀ o,(Instr.lookup 274 (.map (some r)) (.int .i64 kd) true).run prog (w.alloc o)=.ok (.tuple #[.nilFunc,.bool false]) (w.alloc o):=
  fun o=>Zdy (w.alloc o) r kd _ (by rw [(HW o).out.block r (Array.getElem?_eq_some_iff.1 hr).1];exact hr) (ZsQ h1 h2 h3 h4)
 rw [Zrr h1 h2 h3 h4];clear hv hr h1 h2 h3 h4;go_enter func274,ntmps274;go_wp2;go_ret;exact⟨rfl,(HW _).out⟩
theorem ZhQ (kd:Int) (hr:w.heap[r]?=some (.map Zal 4)) (hv:Zag w wv L) (hs:s.size≤maxLen) :
 Calls prog 274 #[.map (some r),.agg #[.string nm,.int .i64 kd,.int .i64 le,.int .i64 mo,wv,.string to,.int .i64 ro,.bool mu,.bool fx,.string df,.string we],.string s] w
  fun e w'=>e=.returned (.bool (ZaM kd le mo L s))∧Zw_ w w':=by
 by_cases h1:kd=1
 · subst h1;exact ZrQ nm to df we le mo ro mu fx wv L s w r hr hv hs
 by_cases h2:kd=2
 · subst h2;exact Zsd nm to df we le mo ro mu fx wv L s w r hr hv hs
 by_cases h3:kd=3
 · subst h3;exact ZrW nm to df we le mo ro mu fx wv L s w r hr hv hs
 by_cases h4:kd=4
 · subst h4;exact Zrh nm to df we le mo ro mu fx wv L s w r hr hv hs
 exact ZrC nm to df we le mo ro mu fx wv L s w r kd hr hv h1 h2 h3 h4
theorem Zbt (kd:Int) (hv:Zag w wv L) (hs:s.size≤maxLen) :
 Calls prog 199 #[.agg #[.string nm,.int .i64 kd,.int .i64 le,.int .i64 mo,wv,.string to,.int .i64 ro,.bool mu,.bool fx,.string df,.string we],.string s] w
  fun e w'=>e=.returned (.bool (ZaM kd le mo L s))∧Zw_ w w':=by
 by_cases h1:kd=1
 · subst h1;exact ZpC nm to df we le mo ro mu fx wv L s w hv hs
 by_cases h2:kd=2
 · subst h2;exact Zow nm to df we le mo ro mu fx wv L s w hv hs
 by_cases h3:kd=3
 · subst h3;exact Zn7 nm to df we le mo ro mu fx wv L s w hv hs
 by_cases h4:kd=4
 · subst h4;exact Zo2 nm to df we le mo ro mu fx wv L s w hv hs
 exact Zpg nm to df we le mo ro mu fx wv L s w kd hv h1 h2 h3 h4
end
section
variable (nm to df we:Zy_) (le mo ro:Int) (mu fx:Bool) (wv:Value) (L:List Zy_) (s:Zy_) (w:World) (r:Nat)
theorem Zf7 (u:World) (o:Obj):(u.alloc o).heap[u.heap.size]?=some o:=(MapKept.heap_alloc u _).1
theorem Zgr (kd:Int) (hv:Zag w wv L) (hs:s.size≤maxLen) :
 Calls prog 258 #[.agg #[.string nm,.int .i64 kd,.int .i64 le,.int .i64 mo,wv,.string to,.int .i64 ro,.bool mu,.bool fx,.string df,.string we],.string s] w
  fun e w'=>e=.returned (.bool (ZaM kd le mo L s))∧Zw_ w w':=by
 have HV:=Zab hv;have HS:=Zab hs;obtain⟨a,n,cap,rfl⟩:=hv.form;clear hv hs;have HW:∀ o,Hid (Zw_ w (w.alloc o)):=fun o=>Zb_.alloc Zl_ _
 have hr0:∀ o,Hid ((((w.alloc o).alloc (.map Zal 4)).drew).heap[w.heap.size+1]?=some (.map Zal 4)):=fun o=>by
  have:=Zf7 (w.alloc o) (.map Zal 4);rw [World.size_alloc] at this;exact this
 have hbw:∀ o o',Hid (Zw_ w (((w.alloc o).alloc o').drew)):=fun o o'=>((HW o).out.alloc (by simp) o').drew
 go_enter func258,ntmps258;go_wp2
 go_region_with (first
  | (go_at_call 224;refine (ZeE _).mono ?_;rintro e w' ⟨rfl,rfl⟩)
  | (go_at_call 274;refine (ZhQ _ _ _ _ _ _ _ _ _ _ L _ _ _ _ (hr0 _).out (HV.out.below (hbw _ _).out) HS.out).mono ?_;rintro e w' ⟨rfl,hb⟩;have HB:Hid (Zw_ w w'):=(hbw _ _).out.trans (hb.mono (hbw _ _).out.size);clear hb))
 all_goals go_wp2
 all_goals go_ret
 all_goals exact⟨rfl,HB.out⟩
end
end Go.Proofs.YtfohnageehneoaaGreat
