import Derived.Test.YtlmippkhpjcfcaaGreatVA1
import Derived.WideMake
import Derived.Deep.RegionWith
set_option maxHeartbeats 16000000
set_option maxRecDepth 100000
open Go.Proofs.Tryz
namespace Go.Proofs.YtlmippkhpjcfcaaGreat
open Go.RowKit Go.Deep
theorem Zgf {W w1:World} (hb:Below W.heap.size W w1):(∀ b o,b < W.heap.size→w1.cell? ⟨b,o,none⟩=W.cell? ⟨b,o,none⟩)∧(∀ b o,b < W.heap.size→w1.frozen? ⟨b,o,none⟩=W.frozen? ⟨b,o,none⟩):=
 ⟨fun b o h=>hb.cell (p:=⟨b,o,none⟩) h,fun b o h=>hb.frozen (p:=⟨b,o,none⟩) h⟩
theorem Zl1 (nm to df we:Zy_) (kd le mo ro:Int) (mu fx:Bool) (wv:Value) (L:List Zy_) (w:World) (hv:Zag w wv L) (hn:L.length≤1048576) :
 Calls prog 184 #[.agg #[.string nm,.int .i64 kd,.int .i64 le,.int .i64 mo,wv,.string to,.int .i64 ro,.bool mu,.bool fx,.string df,.string we]] w
  fun e w'=>∃ wv',e=.returned (.agg #[.string nm,.int .i64 kd,.int .i64 le,.int .i64 mo,wv',.string to,.int .i64 ro,.bool mu,.bool fx,.string df,.string we])∧Zw_ w w'∧Zaq w.heap.size w' wv' L:=by
 have HV:Hid (Zag w wv L):=hv;obtain⟨a,n,cap,rfl⟩:=hv.form;clear hv;go_enter func184,ntmps184;go_wp2_with fail;refine (ZdU _ L _ (HV.out.below ?_) hn).mono ?_
 · exact ((Zb_.alloc Zl_ _).alloc (by simp) _).alloc (by simp;omega) _
 rintro e w1 ⟨wv',rfl,hb,hs⟩;obtain⟨a',n',cap',rfl⟩:=hs.form;have HS:Hid (Zaq (w.heap.size+3) w1 (.slice a' n' cap') L):=hs.mono (by simp);clear hs;have hz:w.heap.size+2 < w1.heap.size:=by have:=hb.size;simp at this;omega
 obtain⟨hc,hf⟩:=Zgf hb;have HB:Hid (Zw_ w w1):=(((Zb_.alloc Zl_ _).alloc (by simp) _).alloc (by simp;omega) _).trans (hb.mono (by simp;omega));clear hb;go_wp2;refine bodyPost_ret (v:=.agg #[.string nm,.int .i64 kd,.int .i64 le,.int .i64 mo,.slice a' n' cap',.string to,.int .i64 ro,.bool mu,.bool fx,.string df,.string we]) (by simp [results,results184,go_sem,hc]) rfl ⟨_,rfl,?_,?_⟩
 · repeat (refine Below.setCell ?_ (by simp only [];omega) _)
   exact HB.out
 · refine Zaq.mono (lo:=w.heap.size+3) ?_ (by omega)
   repeat (refine Zaq.setCell ?_ (by simp only [];omega) _)
   exact HS.out
theorem Zl8 (nm to df we:Zy_) (kd le mo ro:Int) (mu fx:Bool) (wv:Value) (L:List Zy_) (left:Int) (w:World) (hv:Zag w wv L) (h0:0≤left) (h1:left≤1048576)
 (s1:nm.size≤maxLen) (s2:to.size≤maxLen) (s3:df.size≤maxLen) (s4:we.size≤maxLen) :
 Calls prog 177 #[.agg #[.string nm,.int .i64 kd,.int .i64 le,.int .i64 mo,wv,.string to,.int .i64 ro,.bool mu,.bool fx,.string df,.string we],.int .i64 left] w
  fun e w'=>∃ r:Int,e=.returned (.int .i64 r)∧Zw_ w w'∧ZsG L.length left r:=by
 have HV:Hid (Zag w wv L):=hv;obtain⟨a,n,cap,rfl⟩:=hv.form;clear hv;unfold maxLen at s1 s2 s3 s4;have HW:∀ o,Hid (Zw_ w (w.alloc o)):=fun o=>Zb_.alloc Zl_ _
 by_cases c1:(nm.size:Int)≤left
 · go_enter func177,ntmps177
   go_wp2_with fail;refine (Zd1 _ L _ _ (by omega) (by omega) (HV.out.below (HW _).out)).mono ?_;rintro e w1 ⟨r,rfl,rfl,hr0,hr1,hr2⟩;go_wp2
   all_goals go_ret
   all_goals refine⟨_,rfl,(HW _).out,by omega,by omega,fun _=>?_⟩
   all_goals have:=hr2 (by omega)
   all_goals omega
 · go_enter func177,ntmps177
   go_wp2;go_ret;exact⟨-1,rfl,(HW _).out,by omega,by omega,fun h=>by omega⟩
theorem ZkV (nm to df we:Zy_) (kd le mo ro:Int) (mu fx:Bool) (wv wv':Value) (L:List Zy_) (w:World) (hv:Zag w wv L) (hv':Zag w wv' L) :
 Calls prog 196 #[.agg #[.string nm,.int .i64 kd,.int .i64 le,.int .i64 mo,wv,.string to,.int .i64 ro,.bool mu,.bool fx,.string df,.string we],
  .agg #[.string nm,.int .i64 kd,.int .i64 le,.int .i64 mo,wv',.string to,.int .i64 ro,.bool mu,.bool fx,.string df,.string we]] w
  fun e w'=>e=.returned (.bool true)∧Zw_ w w':=by
 have HV:=Zab hv;have HV':=Zab hv';obtain⟨a,n,cap,rfl⟩:=hv.form;obtain⟨a',n',cap',rfl⟩:=hv'.form;clear hv hv';have HW:∀ o o',Hid (Zw_ w ((w.alloc o).alloc o')):=fun o o'=>(Zb_.alloc Zl_ _).alloc (by simp) _
 go_enter func196,ntmps196;go_wp2_with fail;refine (Zdn _ _ L _ (HV.out.below (HW _ _).out) (HV'.out.below (HW _ _).out)).mono ?_;rintro e w1 ⟨rfl,hb⟩;have hz:w.heap.size+1 < w1.heap.size:=by have:=hb.size;simp at this;omega
 have HB:Hid (Zw_ w w1):=(HW _ _).out.trans (hb.mono (by simp;omega));obtain⟨hc,hf⟩:=Zgf hb;clear hb;go_wp2;go_ret;exact⟨rfl,HB.out⟩
def ZaQ (kd le mo:Int) (L:List Zy_) (s:Zy_):Bool:=
 if kd=1 then ZeD s&&inB le mo (Zo8 s) else if kd=2 then decide (0 < s.size)&&ZeQ L s else if kd=3 then ZfE le mo s else if kd=4 then Zao s else false
theorem Zso {le mo:Int} {L:List Zy_} {s:Zy_}:ZaQ 1 le mo L s=(ZeD s&&inB le mo (Zo8 s)):=by simp [ZaQ]
theorem ZrZ {le mo:Int} {L:List Zy_} {s:Zy_}:ZaQ 2 le mo L s=(decide (0 < s.size)&&ZeQ L s):=by simp [ZaQ]
theorem Zsp {le mo:Int} {L:List Zy_} {s:Zy_}:ZaQ 3 le mo L s=ZfE le mo s:=by simp [ZaQ]
theorem ZrF {le mo:Int} {L:List Zy_} {s:Zy_}:ZaQ 4 le mo L s=Zao s:=by simp [ZaQ]
theorem Zsj {kd le mo:Int} {L:List Zy_} {s:Zy_} (h1:kd≠1) (h2:kd≠2) (h3:kd≠3) (h4:kd≠4):ZaQ kd le mo L s=false:=by simp [ZaQ,h1,h2,h3,h4]
theorem ZlV {s:Zy_} (h:ZeD s=true):0≤Zo8 s:=by
 have h3:ZfV Zc6 s=true:=by unfold ZeD at h;simp at h;exact h.2
 have:=Zff s s.size Zl_ (by rw [List.take_of_length_le (by simp)];exact h3);rw [ZdS Zl_] at this;exact this.1
theorem Zlo (c:UInt8):wrap64 (c.toNat:Int)=c.toNat:=by
 have:=c.toNat_lt;unfold wrap64
 omega
theorem Zo4 {lo hi:Int} {s:Zy_} (h:ZfV ZbX s=false):ZfE lo hi s=false:=by unfold ZfE;simp [h]
section
variable (nm to df we:Zy_) (le mo ro:Int) (mu fx:Bool) (wv:Value) (L:List Zy_) (s:Zy_) (w:World)
theorem Zp6 (hv:Zag w wv L) (hs:s.size≤maxLen) :
 Calls prog 178 #[.agg #[.string nm,.int .i64 1,.int .i64 le,.int .i64 mo,wv,.string to,.int .i64 ro,.bool mu,.bool fx,.string df,.string we],.string s] w
  fun e w'=>e=.returned (.bool (ZaQ 1 le mo L s))∧Zw_ w w':=by
 obtain⟨a,n,cap,rfl⟩:=hv.form;clear hv;have HW:∀ o,Hid (Zw_ w (w.alloc o)):=fun o=>Zb_.alloc Zl_ _
 rw [Zso];have hnum:=fun u=>Zbm s u hs
 by_cases hd:ZeD s=true
 · have h0:=ZlV hd
   have HN:=Zab (ZiO hd);go_enter func178,ntmps178;go_wp2_with fail;refine (hnum _).mono ?_;rintro e w1 ⟨rfl,rfl⟩;rw [HN.out];go_wp2_with fail;refine (Zam _ _ _ _).mono ?_;rintro e w1 ⟨rfl,rfl⟩;go_wp2;go_ret;exact⟨Zaa (by rw [hd];rfl),(HW _).out⟩
 · have hd':ZeD s=false:=by simpa using hd
   have HN:=Zab (Zg4 hd');go_enter func178,ntmps178;go_wp2_with fail;refine (hnum _).mono ?_;rintro e w1 ⟨rfl,rfl⟩;rw [HN.out];go_wp2;go_ret;exact⟨Zaa (by rw [hd'];rfl),(HW _).out⟩
theorem ZoF (hv:Zag w wv L) (_hs:s.size≤maxLen) :
 Calls prog 178 #[.agg #[.string nm,.int .i64 2,.int .i64 le,.int .i64 mo,wv,.string to,.int .i64 ro,.bool mu,.bool fx,.string df,.string we],.string s] w
  fun e w'=>e=.returned (.bool (ZaQ 2 le mo L s))∧Zw_ w w':=by
 have HV:=Zab hv;obtain⟨a,n,cap,rfl⟩:=hv.form;clear hv;have HW:∀ o,Hid (Zw_ w (w.alloc o)):=fun o=>Zb_.alloc Zl_ _
 rw [ZrZ]
 by_cases hb0:0 < s.size
 · have he:=Zc5 hb0
   go_enter func178,ntmps178;go_wp2_with fail;refine (Zez _ L _ _ (HV.out.below (HW _).out)).mono ?_;rintro e w1 ⟨rfl,rfl⟩;go_wp2;go_ret;exact⟨Zaa (by simp [hb0]),(HW _).out⟩
 · have he:=Zem (s:=s) (by omega)
   go_enter func178,ntmps178;go_wp2;go_ret;exact⟨Zaa (by simp [hb0]),(HW _).out⟩
theorem Zpx (hv:Zag w wv L) (hs:s.size≤maxLen) :
 Calls prog 178 #[.agg #[.string nm,.int .i64 3,.int .i64 le,.int .i64 mo,wv,.string to,.int .i64 ro,.bool mu,.bool fx,.string df,.string we],.string s] w
  fun e w'=>e=.returned (.bool (ZaQ 3 le mo L s))∧Zw_ w w':=by
 obtain⟨a,n,cap,rfl⟩:=hv.form;clear hv;have HW:∀ o,Hid (Zw_ w (w.alloc o)):=fun o=>Zb_.alloc Zl_ _
 rw [Zsp];unfold maxLen at hs;go_enter func178,ntmps178;go_wp2_with fail
 go_loop [6] (fun i=>∃ k:Nat,k≤s.size∧i=.int .i64 k∧(s.data.toList.take k).all ZbX=true) (fun i=>s.size - (intOf i).toNat)
 case atStart=>exact⟨0,Nat.zero_le _,rfl,rfl⟩
 case round=>
  obtain⟨k,hk,rfl,hall⟩:=hrel;have HA:Hid ((s.data.toList.take k).all ZbX=true):=hall;clear hall
  by_cases hlt:k < s.size
  · have HS:Hid (ZbX s[k]=true↔(33≤(s[k].toNat:Int)∧(s[k].toNat:Int)≤126)):=Zgq s[k]
    go_wp2_with fail;simp only [Zlo];refine (Zam _ _ _ _).mono ?_;rintro e w1 ⟨rfl,rfl⟩
    by_cases hin:inB 33 126 (s[k].toNat:Int)=true
    · go_wp2
      go_round
      case rel=>exact⟨k+1,by omega,by go_num,Zcm HA.out hlt (HS.out.2 (by unfold inB at hin;simpa using hin))⟩
      case measure=>simp [intOf];omega
    · have hin':inB 33 126 (s[k].toNat:Int)=false:=by simpa using hin
      go_wp2;go_ret;exact⟨Zaa (Zo4 (Zcl hlt (Bool.eq_false_iff.2 fun h=>by have:=HS.out.1 h;unfold inB at hin;simp at hin;omega))).symm,(HW _).out⟩
  · have HE:Hid (ZfV ZbX s=true):=ZcZ HA.out (by omega)
    by_cases hb0:0 < s.size
    · have he:=Zc5 hb0
      go_wp2_with fail;refine (Zam _ _ _ _).mono ?_;rintro e w1 ⟨rfl,rfl⟩;go_wp2;go_ret;exact⟨Zaa (by unfold ZfE;rw [HE.out];simp [hb0]),(HW _).out⟩
    · have he:=Zem (s:=s) (by omega)
      go_wp2;go_ret;exact⟨Zaa (ZeK (by omega)).symm,(HW _).out⟩
theorem ZpO (hv:Zag w wv L) (hs:s.size≤maxLen) :
 Calls prog 178 #[.agg #[.string nm,.int .i64 4,.int .i64 le,.int .i64 mo,wv,.string to,.int .i64 ro,.bool mu,.bool fx,.string df,.string we],.string s] w
  fun e w'=>e=.returned (.bool (ZaQ 4 le mo L s))∧Zw_ w w':=by
 obtain⟨a,n,cap,rfl⟩:=hv.form;clear hv;have HW:∀ o,Hid (Zw_ w (w.alloc o)):=fun o=>Zb_.alloc Zl_ _
 rw [ZrF];go_enter func178,ntmps178;go_wp2_with fail;refine (Zad _ _ hs).mono ?_;rintro e w1 ⟨rfl,rfl⟩;go_wp2;go_ret;exact⟨rfl,(HW _).out⟩
theorem Zpk (kd:Int) (hv:Zag w wv L) (h1:kd≠1) (h2:kd≠2) (h3:kd≠3) (h4:kd≠4) :
 Calls prog 178 #[.agg #[.string nm,.int .i64 kd,.int .i64 le,.int .i64 mo,wv,.string to,.int .i64 ro,.bool mu,.bool fx,.string df,.string we],.string s] w
  fun e w'=>e=.returned (.bool (ZaQ kd le mo L s))∧Zw_ w w':=by
 obtain⟨a,n,cap,rfl⟩:=hv.form;clear hv;have HW:∀ o,Hid (Zw_ w (w.alloc o)):=fun o=>Zb_.alloc Zl_ _
 rw [Zsj h1 h2 h3 h4];have b1:(kd == 1)=false:=beq_eq_false_iff_ne.2 h1;have b2:(kd == 2)=false:=beq_eq_false_iff_ne.2 h2;have b3:(kd == 3)=false:=beq_eq_false_iff_ne.2 h3;have b4:(kd == 4)=false:=beq_eq_false_iff_ne.2 h4;clear h1 h2 h3 h4;go_enter func178,ntmps178;go_wp2;go_ret;exact⟨rfl,(HW _).out⟩
end
theorem ZqL {α:Type} (a:Array α) (x y:α):(a.push x).setIfInBounds a.size y=a.push y:=by
 apply Array.ext';simp
theorem Zi9 (u:World) (es:Array MapEntry) (c:Nat) (k:Int) (v:Value) (hf:Instr.findNow (.int .i64) (.int .i64 k) es.toList 0=some none) :
 (Instr.mapUpdate 259 (.map (some u.heap.size)) (.int .i64 k) v).run prog (u.alloc (.map es c))=.ok () (u.alloc (.map (es.push { key:=.int .i64 k,val:=v,born:=c }) (c+1))):=by
 have hb:(u.alloc (.map es c)).heap[u.heap.size]?=some (.map es c):=(MapKept.heap_alloc u _).1;have hc:(Instr.checkKey false 10000 3 (.int .i64 k)).run prog (u.alloc (.map es c))=.ok () (u.alloc (.map es c)):=MapKept.run_checkKey (k:=.int .i64 k) underlying3 (by simp [MapKept.IsKey]) false 9999;simp [Instr.mapUpdate,run_underlying underlying259,MapKept.run_getObj_map hb,hc,MapKept.run_findKey underlying3 hf,MapKept.run_setObj_map _ hb,Result.andThen]
 show ({ u with heap:=(u.heap.push (.map es c)).setIfInBounds u.heap.size (.map (es.push { key:=.int .i64 k,val:=v,born:=c }) (c+1)) }:World)=_
 rw [ZqL]
 rfl
def Zap:Array MapEntry:=#[⟨.int .i64 1,.func (.func 227) #[] #[],0⟩,⟨.int .i64 2,.func (.func 228) #[] #[],1⟩,⟨.int .i64 3,.func (.func 229) #[] #[],2⟩,⟨.int .i64 4,.func (.func 230) #[] #[],3⟩]
theorem ZeT (w:World) :
 Calls prog 202 #[] w fun e w'=>e=.returned (.map (some w.heap.size))∧w'=w.alloc (.map Zap 4):=by
 have hmm:=@run_makeMap prog;have h1:=Zi9 w #[] 0 1 (.func (.func 227) #[] #[]) rfl;have h2:=Zi9 w #[⟨.int .i64 1,.func (.func 227) #[] #[],0⟩] 1 2 (.func (.func 228) #[] #[]) rfl;have h3:=Zi9 w #[⟨.int .i64 1,.func (.func 227) #[] #[],0⟩,⟨.int .i64 2,.func (.func 228) #[] #[],1⟩] 2 3 (.func (.func 229) #[] #[]) rfl;have h4:=Zi9 w #[⟨.int .i64 1,.func (.func 227) #[] #[],0⟩,⟨.int .i64 2,.func (.func 228) #[] #[],1⟩,⟨.int .i64 3,.func (.func 229) #[] #[],2⟩] 3 4 (.func (.func 230) #[] #[]) rfl;go_enter func202,ntmps202;go_wp2;go_ret;exact⟨rfl,rfl⟩
theorem ZdA (W:World) (r:Nat) (k:Int) (a:Option (Nat×Value)) (hb:W.heap[r]?=some (.map Zap 4)) (hf:Instr.findNow (.int .i64) (.int .i64 k) Zap.toList 0=some a) :
 (Instr.lookup 259 (.map (some r)) (.int .i64 k) true).run prog W=.ok (.tuple (match a with | some (_,v)=>#[v,.bool true] | none=>#[.nilFunc,.bool false])) W:=by
 have hc:(Instr.checkKey Zap.isEmpty 10000 3 (.int .i64 k)).run prog W=.ok () W:=MapKept.run_checkKey (k:=.int .i64 k) underlying3 (by simp [MapKept.IsKey]) _ 9999;have hz:(zeroValue 289).run prog W=.ok .nilFunc W:=by kernel_rfl
 rcases a with _ | ⟨i,v⟩ <;>
 simp [Instr.lookup,run_underlying underlying259,MapKept.run_getObj_map hb,hc,MapKept.run_findKey underlying3 hf,Result.andThen,hz]
theorem ZsV:Instr.findNow (.int .i64) (.int .i64 1) Zap.toList 0=some (some (0,.func (.func 227) #[] #[])):=by kernel_rfl
theorem ZsZ:Instr.findNow (.int .i64) (.int .i64 2) Zap.toList 0=some (some (1,.func (.func 228) #[] #[])):=by kernel_rfl
theorem ZsN:Instr.findNow (.int .i64) (.int .i64 3) Zap.toList 0=some (some (2,.func (.func 229) #[] #[])):=by kernel_rfl
theorem Ztc:Instr.findNow (.int .i64) (.int .i64 4) Zap.toList 0=some (some (3,.func (.func 230) #[] #[])):=by kernel_rfl
theorem ZsP {k:Int} (h1:k≠1) (h2:k≠2) (h3:k≠3) (h4:k≠4):Instr.findNow (.int .i64) (.int .i64 k) Zap.toList 0=some none:=by
 simp [Zap,Instr.findNow,Instr.sameNow,beq_eq_false_iff_ne.2 h1,beq_eq_false_iff_ne.2 h2,beq_eq_false_iff_ne.2 h3,beq_eq_false_iff_ne.2 h4]
section
variable (nm to df we:Zy_) (kd le mo ro:Int) (mu fx:Bool) (a:Option Addr) (n cap:Nat) (s:Zy_) (w:World)
theorem ZsO:Calls prog 227 #[.agg #[.string nm,.int .i64 kd,.int .i64 le,.int .i64 mo,.slice a n cap,.string to,.int .i64 ro,.bool mu,.bool fx,.string df,.string we]] w
 fun e w'=>e=.returned (.iface 318 (.agg #[.int .i64 le,.int .i64 mo,.string we]))∧Zw_ w w':=by
 go_enter func227,ntmps227;go_wp2;go_ret;exact⟨rfl,Zb_.alloc Zl_ _⟩
theorem Zs1:Calls prog 228 #[.agg #[.string nm,.int .i64 kd,.int .i64 le,.int .i64 mo,.slice a n cap,.string to,.int .i64 ro,.bool mu,.bool fx,.string df,.string we]] w
 fun e w'=>e=.returned (.iface 320 (.agg #[.slice a n cap]))∧Zw_ w w':=by
 go_enter func228,ntmps228;go_wp2;go_ret;exact⟨rfl,Zb_.alloc Zl_ _⟩
theorem ZsJ:Calls prog 229 #[.agg #[.string nm,.int .i64 kd,.int .i64 le,.int .i64 mo,.slice a n cap,.string to,.int .i64 ro,.bool mu,.bool fx,.string df,.string we]] w
 fun e w'=>e=.returned (.iface 322 (.agg #[.int .i64 le,.int .i64 mo]))∧Zw_ w w':=by
 go_enter func229,ntmps229;go_wp2;go_ret;exact⟨rfl,Zb_.alloc Zl_ _⟩
theorem ZsI:Calls prog 230 #[.agg #[.string nm,.int .i64 kd,.int .i64 le,.int .i64 mo,.slice a n cap,.string to,.int .i64 ro,.bool mu,.bool fx,.string df,.string we]] w
 fun e w'=>e=.returned (.iface 324 (.agg #[.string to,.int .i64 ro,.bool mu,.string df]))∧Zw_ w w':=by
 go_enter func230,ntmps230;go_wp2;go_ret;exact⟨rfl,Zb_.alloc Zl_ _⟩
theorem ZpC (hs:s.size≤maxLen):Calls prog 315 #[.agg #[.int .i64 le,.int .i64 mo,.string we],.string s] w
 fun e w'=>e=.returned (.bool (ZeD s&&inB le mo (Zo8 s)))∧Zw_ w w':=by
 have HW:∀ o,Hid (Zw_ w (w.alloc o)):=fun o=>Zb_.alloc Zl_ _
 have hdec:=fun u=>Zdh s u hs
 by_cases hd:ZeD s=true
 · have HR:=Zab (Zjl hd)
   rw [Zeh];generalize Zo8 s=v at*
   by_cases h1:le≤v
   · by_cases h2:v≤mo
     all_goals
      go_enter func315,ntmps315;go_wp2_with fail;refine (hdec _).mono ?_;rintro e w1 ⟨rfl,rfl⟩;rw [HR.out,hd];go_wp2;go_ret;exact⟨Zaa (by simp [h1,h2,hd]),(HW _).out⟩
   · go_enter func315,ntmps315
     go_wp2_with fail;refine (hdec _).mono ?_;rintro e w1 ⟨rfl,rfl⟩;rw [HR.out,hd];go_wp2;go_ret;exact⟨Zaa (by rw [Bool.eq_iff_iff];simp;omega),(HW _).out⟩
 · have hd':ZeD s=false:=by simpa using hd
   go_enter func315,ntmps315;go_wp2_with fail;refine (hdec _).mono ?_;rintro e w1 ⟨rfl,rfl⟩;rw [hd'];go_wp2;go_ret;exact⟨Zaa (by simp [hd']),(HW _).out⟩
theorem ZmS (L:List Zy_) (hv:Zag w (.slice a n cap) L):Calls prog 318 #[.agg #[.slice a n cap],.string s] w
 fun e w'=>e=.returned (.bool (decide (0 < s.size)&&ZeQ L s))∧Zw_ w w':=by
 have HV:=Zab hv;clear hv;have HW:∀ o,Hid (Zw_ w (w.alloc o)):=fun o=>Zb_.alloc Zl_ _
 by_cases hb0:0 < s.size
 · have he:=Zc5 hb0
   go_enter func318,ntmps318;go_wp2_with fail;refine (Zes _ L _ _ (HV.out.below (HW _).out)).mono ?_;rintro e w1 ⟨rfl,rfl⟩;go_wp2;go_ret;exact⟨Zaa (by simp [hb0]),(HW _).out⟩
 · have he:=Zem (s:=s) (by omega)
   go_enter func318,ntmps318;go_wp2;go_ret;exact⟨Zaa (by simp [hb0]),(HW _).out⟩
theorem ZmO (hs:s.size≤maxLen):Calls prog 324 #[.agg #[.string to,.int .i64 ro,.bool mu,.string df],.string s] w
 fun e w'=>e=.returned (.bool (Zao s))∧Zw_ w w':=by
 have HW:∀ o,Hid (Zw_ w (w.alloc o)):=fun o=>Zb_.alloc Zl_ _
 go_enter func324,ntmps324;go_wp2_with fail;refine (Zan _ _ hs).mono ?_;rintro e w1 ⟨rfl,rfl⟩;go_wp2;go_ret;exact⟨rfl,(HW _).out⟩
end
section
variable (nm to df we:Zy_) (le mo ro:Int) (mu fx:Bool) (wv:Value) (L:List Zy_) (s:Zy_) (w:World) (r:Nat)
theorem ZrH (hr:w.heap[r]?=some (.map Zap 4)) (hv:Zag w wv L) (hs:s.size≤maxLen) :
 Calls prog 252 #[.map (some r),.agg #[.string nm,.int .i64 1,.int .i64 le,.int .i64 mo,wv,.string to,.int .i64 ro,.bool mu,.bool fx,.string df,.string we],.string s] w
  fun e w'=>e=.returned (.bool (ZaQ 1 le mo L s))∧Zw_ w w':=by
 have HV:=Zab hv;have HS:=Zab hs;obtain⟨a,n,cap,rfl⟩:=hv.form;have HW:∀ o,Hid (Zw_ w (w.alloc o)):=fun o=>Zb_.alloc Zl_ _
 have hlk:=fun o=>ZdA (w.alloc o) r 1 _ (by rw [(HW o).out.block r (Array.getElem?_eq_some_iff.1 hr).1];exact hr) ZsV
 clear hv hr hs;rw [Zso];have hm:∀ W:World,(method 467 318 (.agg #[.int .i64 le,.int .i64 mo,.string we]) "loop.example/wharfhall/impl.fits").run prog W=.ok (315,.agg #[.int .i64 le,.int .i64 mo,.string we]) W:=fun _=>by kernel_rfl
 go_enter func252,ntmps252;go_wp2_with fail;refine (ZsO _ _ _ _ _ _ _ _ _ _ _ _ _ _).mono ?_;rintro e w1 ⟨rfl,hb1⟩;have HB1:Hid (Zw_ w w1):=(HW _).out.trans (hb1.mono (by simp));clear hb1;go_wp2_with fail;refine (ZpC _ _ _ _ _ HS.out).mono ?_;rintro e w2 ⟨rfl,hb2⟩;have HB2:Hid (Zw_ w w2):=HB1.out.trans (hb2.mono HB1.out.size);clear hb2;go_wp2;go_ret;exact⟨rfl,HB2.out⟩
theorem ZrV (hr:w.heap[r]?=some (.map Zap 4)) (hv:Zag w wv L) (hs:s.size≤maxLen) :
 Calls prog 252 #[.map (some r),.agg #[.string nm,.int .i64 2,.int .i64 le,.int .i64 mo,wv,.string to,.int .i64 ro,.bool mu,.bool fx,.string df,.string we],.string s] w
  fun e w'=>e=.returned (.bool (ZaQ 2 le mo L s))∧Zw_ w w':=by
 have HV:=Zab hv;have HS:=Zab hs;obtain⟨a,n,cap,rfl⟩:=hv.form;have HW:∀ o,Hid (Zw_ w (w.alloc o)):=fun o=>Zb_.alloc Zl_ _
 have hlk:=fun o=>ZdA (w.alloc o) r 2 _ (by rw [(HW o).out.block r (Array.getElem?_eq_some_iff.1 hr).1];exact hr) ZsZ
 clear hv hr hs;rw [ZrZ];have hm:∀ W:World,(method 467 320 (.agg #[.slice a n cap]) "loop.example/wharfhall/impl.fits").run prog W=.ok (318,.agg #[.slice a n cap]) W:=fun _=>by kernel_rfl
 go_enter func252,ntmps252;go_wp2_with fail;refine (Zs1 _ _ _ _ _ _ _ _ _ _ _ _ _ _).mono ?_;rintro e w1 ⟨rfl,hb1⟩;have HB1:Hid (Zw_ w w1):=(HW _).out.trans (hb1.mono (by simp));clear hb1;go_wp2_with fail;refine (ZmS _ _ _ _ _ L (HV.out.below HB1.out)).mono ?_;rintro e w2 ⟨rfl,hb2⟩;have HB2:Hid (Zw_ w w2):=HB1.out.trans (hb2.mono HB1.out.size);clear hb2;go_wp2;go_ret;exact⟨rfl,HB2.out⟩
theorem ZrR (hr:w.heap[r]?=some (.map Zap 4)) (hv:Zag w wv L) (hs:s.size≤maxLen) :
 Calls prog 252 #[.map (some r),.agg #[.string nm,.int .i64 3,.int .i64 le,.int .i64 mo,wv,.string to,.int .i64 ro,.bool mu,.bool fx,.string df,.string we],.string s] w
  fun e w'=>e=.returned (.bool (ZaQ 3 le mo L s))∧Zw_ w w':=by
 have HV:=Zab hv;have HS:=Zab hs;obtain⟨a,n,cap,rfl⟩:=hv.form;have HW:∀ o,Hid (Zw_ w (w.alloc o)):=fun o=>Zb_.alloc Zl_ _
 have hlk:=fun o=>ZdA (w.alloc o) r 3 _ (by rw [(HW o).out.block r (Array.getElem?_eq_some_iff.1 hr).1];exact hr) ZsN
 clear hv hr hs;rw [Zsp];have hm:∀ W:World,(method 467 322 (.agg #[.int .i64 le,.int .i64 mo]) "loop.example/wharfhall/impl.fits").run prog W=.ok (321,.agg #[.int .i64 le,.int .i64 mo]) W:=fun _=>by kernel_rfl
 go_enter func252,ntmps252;go_wp2_with fail;refine (ZsJ _ _ _ _ _ _ _ _ _ _ _ _ _ _).mono ?_;rintro e w1 ⟨rfl,hb1⟩;have HB1:Hid (Zw_ w w1):=(HW _).out.trans (hb1.mono (by simp));clear hb1;go_wp2_with fail;refine (Zgt _ _ _ _ HS.out).mono ?_;rintro e w2 ⟨rfl,hb2⟩;have HB2:Hid (Zw_ w w2):=HB1.out.trans (hb2.mono HB1.out.size);clear hb2;go_wp2;go_ret;exact⟨rfl,HB2.out⟩
theorem Zr9 (hr:w.heap[r]?=some (.map Zap 4)) (hv:Zag w wv L) (hs:s.size≤maxLen) :
 Calls prog 252 #[.map (some r),.agg #[.string nm,.int .i64 4,.int .i64 le,.int .i64 mo,wv,.string to,.int .i64 ro,.bool mu,.bool fx,.string df,.string we],.string s] w
  fun e w'=>e=.returned (.bool (ZaQ 4 le mo L s))∧Zw_ w w':=by
 have HV:=Zab hv;have HS:=Zab hs;obtain⟨a,n,cap,rfl⟩:=hv.form;have HW:∀ o,Hid (Zw_ w (w.alloc o)):=fun o=>Zb_.alloc Zl_ _
 have hlk:=fun o=>ZdA (w.alloc o) r 4 _ (by rw [(HW o).out.block r (Array.getElem?_eq_some_iff.1 hr).1];exact hr) Ztc
 clear hv hr hs;rw [ZrF];have hm:∀ W:World,(method 467 324 (.agg #[.string to,.int .i64 ro,.bool mu,.string df]) "loop.example/wharfhall/impl.fits").run prog W=.ok (324,.agg #[.string to,.int .i64 ro,.bool mu,.string df]) W:=fun _=>by kernel_rfl
 go_enter func252,ntmps252;go_wp2_with fail;refine (ZsI _ _ _ _ _ _ _ _ _ _ _ _ _ _).mono ?_;rintro e w1 ⟨rfl,hb1⟩;have HB1:Hid (Zw_ w w1):=(HW _).out.trans (hb1.mono (by simp));clear hb1;go_wp2_with fail;refine (ZmO _ _ _ _ _ _ HS.out).mono ?_;rintro e w2 ⟨rfl,hb2⟩;have HB2:Hid (Zw_ w w2):=HB1.out.trans (hb2.mono HB1.out.size);clear hb2;go_wp2;go_ret;exact⟨rfl,HB2.out⟩
theorem Zsd (kd:Int) (hr:w.heap[r]?=some (.map Zap 4)) (hv:Zag w wv L) (h1:kd≠1) (h2:kd≠2) (h3:kd≠3) (h4:kd≠4) :
 Calls prog 252 #[.map (some r),.agg #[.string nm,.int .i64 kd,.int .i64 le,.int .i64 mo,wv,.string to,.int .i64 ro,.bool mu,.bool fx,.string df,.string we],.string s] w
  fun e w'=>e=.returned (.bool (ZaQ kd le mo L s))∧Zw_ w w':=by
 obtain⟨a,n,cap,rfl⟩:=hv.form;have HW:∀ o,Hid (Zw_ w (w.alloc o)):=fun o=>Zb_.alloc Zl_ _
 have hlk:∀ o,(Instr.lookup 259 (.map (some r)) (.int .i64 kd) true).run prog (w.alloc o)=.ok (.tuple #[.nilFunc,.bool false]) (w.alloc o):=
  fun o=>ZdA (w.alloc o) r kd _ (by rw [(HW o).out.block r (Array.getElem?_eq_some_iff.1 hr).1];exact hr) (ZsP h1 h2 h3 h4)
 rw [Zsj h1 h2 h3 h4];clear hv hr h1 h2 h3 h4;go_enter func252,ntmps252;go_wp2;go_ret;exact⟨rfl,(HW _).out⟩
theorem Zio (kd:Int) (hr:w.heap[r]?=some (.map Zap 4)) (hv:Zag w wv L) (hs:s.size≤maxLen) :
 Calls prog 252 #[.map (some r),.agg #[.string nm,.int .i64 kd,.int .i64 le,.int .i64 mo,wv,.string to,.int .i64 ro,.bool mu,.bool fx,.string df,.string we],.string s] w
  fun e w'=>e=.returned (.bool (ZaQ kd le mo L s))∧Zw_ w w':=by
 by_cases h1:kd=1
 · subst h1;exact ZrH nm to df we le mo ro mu fx wv L s w r hr hv hs
 by_cases h2:kd=2
 · subst h2;exact ZrV nm to df we le mo ro mu fx wv L s w r hr hv hs
 by_cases h3:kd=3
 · subst h3;exact ZrR nm to df we le mo ro mu fx wv L s w r hr hv hs
 by_cases h4:kd=4
 · subst h4;exact Zr9 nm to df we le mo ro mu fx wv L s w r hr hv hs
 exact Zsd nm to df we le mo ro mu fx wv L s w r kd hr hv h1 h2 h3 h4
theorem Zbx (kd:Int) (hv:Zag w wv L) (hs:s.size≤maxLen) :
 Calls prog 178 #[.agg #[.string nm,.int .i64 kd,.int .i64 le,.int .i64 mo,wv,.string to,.int .i64 ro,.bool mu,.bool fx,.string df,.string we],.string s] w
  fun e w'=>e=.returned (.bool (ZaQ kd le mo L s))∧Zw_ w w':=by
 by_cases h1:kd=1
 · subst h1;exact Zp6 nm to df we le mo ro mu fx wv L s w hv hs
 by_cases h2:kd=2
 · subst h2;exact ZoF nm to df we le mo ro mu fx wv L s w hv hs
 by_cases h3:kd=3
 · subst h3;exact Zpx nm to df we le mo ro mu fx wv L s w hv hs
 by_cases h4:kd=4
 · subst h4;exact ZpO nm to df we le mo ro mu fx wv L s w hv hs
 exact Zpk nm to df we le mo ro mu fx wv L s w kd hv h1 h2 h3 h4
end
section
variable (nm to df we:Zy_) (le mo ro:Int) (mu fx:Bool) (wv:Value) (L:List Zy_) (s:Zy_) (w:World) (r:Nat)
theorem ZgE (u:World) (o:Obj):(u.alloc o).heap[u.heap.size]?=some o:=(MapKept.heap_alloc u _).1
theorem Zgo (kd:Int) (hv:Zag w wv L) (hs:s.size≤maxLen) :
 Calls prog 235 #[.agg #[.string nm,.int .i64 kd,.int .i64 le,.int .i64 mo,wv,.string to,.int .i64 ro,.bool mu,.bool fx,.string df,.string we],.string s] w
  fun e w'=>e=.returned (.bool (ZaQ kd le mo L s))∧Zw_ w w':=by
 have HV:=Zab hv;have HS:=Zab hs;obtain⟨a,n,cap,rfl⟩:=hv.form;clear hv hs;have HW:∀ o,Hid (Zw_ w (w.alloc o)):=fun o=>Zb_.alloc Zl_ _
 have hr0:∀ o,Hid ((((w.alloc o).alloc (.map Zap 4)).drew).heap[w.heap.size+1]?=some (.map Zap 4)):=fun o=>by
  have:=ZgE (w.alloc o) (.map Zap 4);rw [World.size_alloc] at this;exact this
 have hbw:∀ o o',Hid (Zw_ w (((w.alloc o).alloc o').drew)):=fun o o'=>((HW o).out.alloc (by simp) o').drew
 go_enter func235,ntmps235;go_wp2
 go_region_with (first
  | (go_at_call 202;refine (ZeT _).mono ?_;rintro e w' ⟨rfl,rfl⟩)
  | (go_at_call 252;refine (Zio _ _ _ _ _ _ _ _ _ _ L _ _ _ _ (hr0 _).out (HV.out.below (hbw _ _).out) HS.out).mono ?_;rintro e w' ⟨rfl,hb⟩;have HB:Hid (Zw_ w w'):=(hbw _ _).out.trans (hb.mono (hbw _ _).out.size);clear hb))
 all_goals go_wp2
 all_goals go_ret
 all_goals exact⟨rfl,HB.out⟩
end
end Go.Proofs.YtlmippkhpjcfcaaGreat
