import Derived.Test.YtcfjmagkinpaeaaGreatGA1
import Derived.WideMake
import Derived.Deep.RegionWith
set_option maxHeartbeats 16000000
set_option maxRecDepth 100000
open Go.Proofs.Tryz
namespace Go.Proofs.YtcfjmagkinpaeaaGreat
open Go.RowKit Go.Deep
theorem Zg7 {W w1:World} (hb:Below W.heap.size W w1):(∀ b o,b < W.heap.size→w1.cell? ⟨b,o,none⟩=W.cell? ⟨b,o,none⟩)∧(∀ b o,b < W.heap.size→w1.frozen? ⟨b,o,none⟩=W.frozen? ⟨b,o,none⟩):=
 ⟨fun b o h=>hb.cell (p:=⟨b,o,none⟩) h,fun b o h=>hb.frozen (p:=⟨b,o,none⟩) h⟩
theorem ZkK (nm to df we:Zy_) (kd le mo ro:Int) (mu fx:Bool) (wv:Value) (L:List Zy_) (w:World) (hv:Zaf w wv L) (hn:L.length≤1048576) :
 Calls prog 167 #[.agg #[.string nm,.int .i64 kd,.int .i64 le,.int .i64 mo,wv,.string to,.int .i64 ro,.bool mu,.bool fx,.string df,.string we]] w
  fun e w'=>∃ wv',e=.returned (.agg #[.string nm,.int .i64 kd,.int .i64 le,.int .i64 mo,wv',.string to,.int .i64 ro,.bool mu,.bool fx,.string df,.string we])∧Zw_ w w'∧Zan w.heap.size w' wv' L:=by
 have HV:Hid (Zaf w wv L):=hv;obtain⟨a,n,cap,rfl⟩:=hv.form;clear hv;go_enter func167,ntmps167;go_wp2_with fail;refine (ZdI _ L _ (HV.out.below ?_) hn).mono ?_
 · exact ((Zb_.alloc Zl_ _).alloc (by simp) _).alloc (by simp;omega) _
 rintro e w1 ⟨wv',rfl,hb,hs⟩;obtain⟨a',n',cap',rfl⟩:=hs.form;have HS:Hid (Zan (w.heap.size+3) w1 (.slice a' n' cap') L):=hs.mono (by simp);clear hs;have hz:w.heap.size+2 < w1.heap.size:=by have:=hb.size;simp at this;omega
 obtain⟨hc,hf⟩:=Zg7 hb;have HB:Hid (Zw_ w w1):=(((Zb_.alloc Zl_ _).alloc (by simp) _).alloc (by simp;omega) _).trans (hb.mono (by simp;omega));clear hb;go_wp2;refine bodyPost_ret (v:=.agg #[.string nm,.int .i64 kd,.int .i64 le,.int .i64 mo,.slice a' n' cap',.string to,.int .i64 ro,.bool mu,.bool fx,.string df,.string we]) (by simp [results,results167,go_sem,hc]) rfl ⟨_,rfl,?_,?_⟩
 · repeat (refine Below.setCell ?_ (by simp only [];omega) _)
   exact HB.out
 · refine Zan.mono (lo:=w.heap.size+3) ?_ (by omega)
   repeat (refine Zan.setCell ?_ (by simp only [];omega) _)
   exact HS.out
theorem ZkH (nm to df we:Zy_) (kd le mo ro:Int) (mu fx:Bool) (wv:Value) (L:List Zy_) (left:Int) (w:World) (hv:Zaf w wv L) (h0:0≤left) (h1:left≤1048576)
 (s1:nm.size≤maxLen) (s2:to.size≤maxLen) (s3:df.size≤maxLen) (s4:we.size≤maxLen) :
 Calls prog 153 #[.agg #[.string nm,.int .i64 kd,.int .i64 le,.int .i64 mo,wv,.string to,.int .i64 ro,.bool mu,.bool fx,.string df,.string we],.int .i64 left] w
  fun e w'=>∃ r:Int,e=.returned (.int .i64 r)∧Zw_ w w'∧Zsd L.length left r:=by
 have HV:Hid (Zaf w wv L):=hv;obtain⟨a,n,cap,rfl⟩:=hv.form;clear hv;unfold maxLen at s1 s2 s3 s4;have HW:∀ o,Hid (Zw_ w (w.alloc o)):=fun o=>Zb_.alloc Zl_ _
 by_cases c1:(nm.size:Int)≤left
 · go_enter func153,ntmps153
   go_wp2_with fail;refine (ZdE _ L _ _ (by omega) (by omega) (HV.out.below (HW _).out)).mono ?_;rintro e w1 ⟨r,rfl,rfl,hr0,hr1,hr2⟩;go_wp2
   all_goals go_ret
   all_goals refine⟨_,rfl,(HW _).out,by omega,by omega,fun _=>?_⟩
   all_goals have:=hr2 (by omega)
   all_goals omega
 · go_enter func153,ntmps153
   go_wp2;go_ret;exact⟨-1,rfl,(HW _).out,by omega,by omega,fun h=>by omega⟩
theorem Zi3 (nm to df we:Zy_) (kd le mo ro:Int) (mu fx:Bool) (wv wv':Value) (L:List Zy_) (w:World) (hv:Zaf w wv L) (hv':Zaf w wv' L) :
 Calls prog 179 #[.agg #[.string nm,.int .i64 kd,.int .i64 le,.int .i64 mo,wv,.string to,.int .i64 ro,.bool mu,.bool fx,.string df,.string we],
  .agg #[.string nm,.int .i64 kd,.int .i64 le,.int .i64 mo,wv',.string to,.int .i64 ro,.bool mu,.bool fx,.string df,.string we]] w
  fun e w'=>e=.returned (.bool true)∧Zw_ w w':=by
 have HV:=Zab hv;have HV':=Zab hv';obtain⟨a,n,cap,rfl⟩:=hv.form;obtain⟨a',n',cap',rfl⟩:=hv'.form;clear hv hv';have HW:∀ o o',Hid (Zw_ w ((w.alloc o).alloc o')):=fun o o'=>(Zb_.alloc Zl_ _).alloc (by simp) _
 go_enter func179,ntmps179;go_wp2_with fail;refine (Zc2 _ _ L _ (HV.out.below (HW _ _).out) (HV'.out.below (HW _ _).out)).mono ?_;rintro e w1 ⟨rfl,hb⟩;have hz:w.heap.size+1 < w1.heap.size:=by have:=hb.size;simp at this;omega
 have HB:Hid (Zw_ w w1):=(HW _ _).out.trans (hb.mono (by simp;omega));obtain⟨hc,hf⟩:=Zg7 hb;clear hb;go_wp2;go_ret;exact⟨rfl,HB.out⟩
def ZaL (kd le mo:Int) (L:List Zy_) (s:Zy_):Bool:=
 if kd=1 then Zea s&&inB le mo (Znh s) else if kd=2 then decide (0 < s.size)&&Zeq L s else if kd=3 then Zfp le mo s else if kd=4 then Zaj s else false
theorem Zrc {le mo:Int} {L:List Zy_} {s:Zy_}:ZaL 1 le mo L s=(Zea s&&inB le mo (Znh s)):=by simp [ZaL]
theorem Zrd {le mo:Int} {L:List Zy_} {s:Zy_}:ZaL 2 le mo L s=(decide (0 < s.size)&&Zeq L s):=by simp [ZaL]
theorem Zre {le mo:Int} {L:List Zy_} {s:Zy_}:ZaL 3 le mo L s=Zfp le mo s:=by simp [ZaL]
theorem Zrf {le mo:Int} {L:List Zy_} {s:Zy_}:ZaL 4 le mo L s=Zaj s:=by simp [ZaL]
theorem Zrb {kd le mo:Int} {L:List Zy_} {s:Zy_} (h1:kd≠1) (h2:kd≠2) (h3:kd≠3) (h4:kd≠4):ZaL kd le mo L s=false:=by simp [ZaL,h1,h2,h3,h4]
theorem Zj3 {s:Zy_} (h:Zea s=true):0≤Znh s:=by
 have h3:Zfs ZcP s=true:=by unfold Zea at h;simp at h;exact h.2
 have:=ZeP s s.size Zl_ (by rw [List.take_of_length_le (by simp)];exact h3);rw [Zdv Zl_] at this;exact this.1
theorem ZkT (c:UInt8):wrap64 (c.toNat:Int)=c.toNat:=by
 have:=c.toNat_lt;unfold wrap64
 omega
theorem ZoB {lo hi:Int} {s:Zy_} (h:Zfs ZbS s=false):Zfp lo hi s=false:=by unfold Zfp;simp [h]
section
variable (nm to df we:Zy_) (le mo ro:Int) (mu fx:Bool) (wv:Value) (L:List Zy_) (s:Zy_) (w:World)
theorem Zog (hv:Zaf w wv L) (hs:s.size≤maxLen) :
 Calls prog 159 #[.agg #[.string nm,.int .i64 1,.int .i64 le,.int .i64 mo,wv,.string to,.int .i64 ro,.bool mu,.bool fx,.string df,.string we],.string s] w
  fun e w'=>e=.returned (.bool (ZaL 1 le mo L s))∧Zw_ w w':=by
 obtain⟨a,n,cap,rfl⟩:=hv.form;clear hv;have HW:∀ o,Hid (Zw_ w (w.alloc o)):=fun o=>Zb_.alloc Zl_ _
 rw [Zrc];have hnum:=fun u=>Zbg s u hs
 by_cases hd:Zea s=true
 · have h0:=Zj3 hd
   have HN:=Zab (Ziz hd);go_enter func159,ntmps159;go_wp2_with fail;refine (hnum _).mono ?_;rintro e w1 ⟨rfl,rfl⟩;rw [HN.out];go_wp2_with fail;refine (Zal _ _ _ _).mono ?_;rintro e w1 ⟨rfl,rfl⟩;go_wp2;go_ret;exact⟨Zaa (by rw [hd];rfl),(HW _).out⟩
 · have hd':Zea s=false:=by simpa using hd
   have HN:=Zab (ZgM hd');go_enter func159,ntmps159;go_wp2_with fail;refine (hnum _).mono ?_;rintro e w1 ⟨rfl,rfl⟩;rw [HN.out];go_wp2;go_ret;exact⟨Zaa (by rw [hd'];rfl),(HW _).out⟩
theorem Zoh (hv:Zaf w wv L) (_hs:s.size≤maxLen) :
 Calls prog 159 #[.agg #[.string nm,.int .i64 2,.int .i64 le,.int .i64 mo,wv,.string to,.int .i64 ro,.bool mu,.bool fx,.string df,.string we],.string s] w
  fun e w'=>e=.returned (.bool (ZaL 2 le mo L s))∧Zw_ w w':=by
 have HV:=Zab hv;obtain⟨a,n,cap,rfl⟩:=hv.form;clear hv;have HW:∀ o,Hid (Zw_ w (w.alloc o)):=fun o=>Zb_.alloc Zl_ _
 rw [Zrd]
 by_cases hb0:0 < s.size
 · have he:=ZcQ hb0
   go_enter func159,ntmps159;go_wp2_with fail;refine (Zee _ L _ _ (HV.out.below (HW _).out)).mono ?_;rintro e w1 ⟨rfl,rfl⟩;go_wp2;go_ret;exact⟨Zaa (by simp [hb0]),(HW _).out⟩
 · have he:=Zdx (s:=s) (by omega)
   go_enter func159,ntmps159;go_wp2;go_ret;exact⟨Zaa (by simp [hb0]),(HW _).out⟩
theorem Zoi (hv:Zaf w wv L) (hs:s.size≤maxLen) :
 Calls prog 159 #[.agg #[.string nm,.int .i64 3,.int .i64 le,.int .i64 mo,wv,.string to,.int .i64 ro,.bool mu,.bool fx,.string df,.string we],.string s] w
  fun e w'=>e=.returned (.bool (ZaL 3 le mo L s))∧Zw_ w w':=by
 obtain⟨a,n,cap,rfl⟩:=hv.form;clear hv;have HW:∀ o,Hid (Zw_ w (w.alloc o)):=fun o=>Zb_.alloc Zl_ _
 rw [Zre];unfold maxLen at hs;go_enter func159,ntmps159;go_wp2_with fail
 go_loop [6] (fun i=>∃ k:Nat,k≤s.size∧i=.int .i64 k∧(s.data.toList.take k).all ZbS=true) (fun i=>s.size - (intOf i).toNat)
 case atStart=>exact⟨0,Nat.zero_le _,rfl,rfl⟩
 case round=>
  obtain⟨k,hk,rfl,hall⟩:=hrel;have HA:Hid ((s.data.toList.take k).all ZbS=true):=hall;clear hall
  by_cases hlt:k < s.size
  · have HS:Hid (ZbS s[k]=true↔(33≤(s[k].toNat:Int)∧(s[k].toNat:Int)≤126)):=ZfT s[k]
    go_wp2_with fail;simp only [ZkT];refine (Zal _ _ _ _).mono ?_;rintro e w1 ⟨rfl,rfl⟩
    by_cases hin:inB 33 126 (s[k].toNat:Int)=true
    · go_wp2
      go_round
      case rel=>exact⟨k+1,by omega,by go_num,Zb6 HA.out hlt (HS.out.2 (by unfold inB at hin;simpa using hin))⟩
      case measure=>simp [intOf];omega
    · have hin':inB 33 126 (s[k].toNat:Int)=false:=by simpa using hin
      go_wp2;go_ret;exact⟨Zaa (ZoB (Zb7 hlt (Bool.eq_false_iff.2 fun h=>by have:=HS.out.1 h;unfold inB at hin;simp at hin;omega))).symm,(HW _).out⟩
  · have HE:Hid (Zfs ZbS s=true):=ZcF HA.out (by omega)
    by_cases hb0:0 < s.size
    · have he:=ZcQ hb0
      go_wp2_with fail;refine (Zal _ _ _ _).mono ?_;rintro e w1 ⟨rfl,rfl⟩;go_wp2;go_ret;exact⟨Zaa (by unfold Zfp;rw [HE.out];simp [hb0]),(HW _).out⟩
    · have he:=Zdx (s:=s) (by omega)
      go_wp2;go_ret;exact⟨Zaa (Zew (by omega)).symm,(HW _).out⟩
theorem Zoj (hv:Zaf w wv L) (hs:s.size≤maxLen) :
 Calls prog 159 #[.agg #[.string nm,.int .i64 4,.int .i64 le,.int .i64 mo,wv,.string to,.int .i64 ro,.bool mu,.bool fx,.string df,.string we],.string s] w
  fun e w'=>e=.returned (.bool (ZaL 4 le mo L s))∧Zw_ w w':=by
 obtain⟨a,n,cap,rfl⟩:=hv.form;clear hv;have HW:∀ o,Hid (Zw_ w (w.alloc o)):=fun o=>Zb_.alloc Zl_ _
 rw [Zrf];go_enter func159,ntmps159;go_wp2_with fail;refine (Zad _ _ hs).mono ?_;rintro e w1 ⟨rfl,rfl⟩;go_wp2;go_ret;exact⟨rfl,(HW _).out⟩
theorem Zof (kd:Int) (hv:Zaf w wv L) (h1:kd≠1) (h2:kd≠2) (h3:kd≠3) (h4:kd≠4) :
 Calls prog 159 #[.agg #[.string nm,.int .i64 kd,.int .i64 le,.int .i64 mo,wv,.string to,.int .i64 ro,.bool mu,.bool fx,.string df,.string we],.string s] w
  fun e w'=>e=.returned (.bool (ZaL kd le mo L s))∧Zw_ w w':=by
 obtain⟨a,n,cap,rfl⟩:=hv.form;clear hv;have HW:∀ o,Hid (Zw_ w (w.alloc o)):=fun o=>Zb_.alloc Zl_ _
 rw [Zrb h1 h2 h3 h4];have b1:(kd == 1)=false:=beq_eq_false_iff_ne.2 h1;have b2:(kd == 2)=false:=beq_eq_false_iff_ne.2 h2;have b3:(kd == 3)=false:=beq_eq_false_iff_ne.2 h3;have b4:(kd == 4)=false:=beq_eq_false_iff_ne.2 h4;clear h1 h2 h3 h4;go_enter func159,ntmps159;go_wp2;go_ret;exact⟨rfl,(HW _).out⟩
end
theorem ZpX {α:Type} (a:Array α) (x y:α):(a.push x).setIfInBounds a.size y=a.push y:=by
 apply Array.ext';simp
theorem ZiQ (u:World) (es:Array MapEntry) (c:Nat) (k:Int) (v:Value) (hf:Instr.findNow (.int .i64) (.int .i64 k) es.toList 0=some none) :
 (Instr.mapUpdate 254 (.map (some u.heap.size)) (.int .i64 k) v).run prog (u.alloc (.map es c))=.ok () (u.alloc (.map (es.push { key:=.int .i64 k,val:=v,born:=c }) (c+1))):=by
 have hb:(u.alloc (.map es c)).heap[u.heap.size]?=some (.map es c):=(MapKept.heap_alloc u _).1;have hc:(Instr.checkKey false 10000 3 (.int .i64 k)).run prog (u.alloc (.map es c))=.ok () (u.alloc (.map es c)):=MapKept.run_checkKey (k:=.int .i64 k) underlying3 (by simp [MapKept.IsKey]) false 9999;simp [Instr.mapUpdate,run_underlying underlying254,MapKept.run_getObj_map hb,hc,MapKept.run_findKey underlying3 hf,MapKept.run_setObj_map _ hb,Result.andThen]
 show ({ u with heap:=(u.heap.push (.map es c)).setIfInBounds u.heap.size (.map (es.push { key:=.int .i64 k,val:=v,born:=c }) (c+1)) }:World)=_
 rw [ZpX]
 rfl
def Zam:Array MapEntry:=#[⟨.int .i64 1,.func (.func 208) #[] #[],0⟩,⟨.int .i64 2,.func (.func 209) #[] #[],1⟩,⟨.int .i64 3,.func (.func 210) #[] #[],2⟩,⟨.int .i64 4,.func (.func 211) #[] #[],3⟩]
theorem Zet (w:World) :
 Calls prog 169 #[] w fun e w'=>e=.returned (.map (some w.heap.size))∧w'=w.alloc (.map Zam 4):=by
 have hmm:=@run_makeMap prog;have h1:=ZiQ w #[] 0 1 (.func (.func 208) #[] #[]) rfl;have h2:=ZiQ w #[⟨.int .i64 1,.func (.func 208) #[] #[],0⟩] 1 2 (.func (.func 209) #[] #[]) rfl;have h3:=ZiQ w #[⟨.int .i64 1,.func (.func 208) #[] #[],0⟩,⟨.int .i64 2,.func (.func 209) #[] #[],1⟩] 2 3 (.func (.func 210) #[] #[]) rfl;have h4:=ZiQ w #[⟨.int .i64 1,.func (.func 208) #[] #[],0⟩,⟨.int .i64 2,.func (.func 209) #[] #[],1⟩,⟨.int .i64 3,.func (.func 210) #[] #[],2⟩] 3 4 (.func (.func 211) #[] #[]) rfl;go_enter func169,ntmps169;go_wp2;go_ret;exact⟨rfl,rfl⟩
theorem Zdu (W:World) (r:Nat) (k:Int) (a:Option (Nat×Value)) (hb:W.heap[r]?=some (.map Zam 4)) (hf:Instr.findNow (.int .i64) (.int .i64 k) Zam.toList 0=some a) :
 (Instr.lookup 254 (.map (some r)) (.int .i64 k) true).run prog W=.ok (.tuple (match a with | some (_,v)=>#[v,.bool true] | none=>#[.nilFunc,.bool false])) W:=by
 have hc:(Instr.checkKey Zam.isEmpty 10000 3 (.int .i64 k)).run prog W=.ok () W:=MapKept.run_checkKey (k:=.int .i64 k) underlying3 (by simp [MapKept.IsKey]) _ 9999;have hz:(zeroValue 298).run prog W=.ok .nilFunc W:=by kernel_rfl
 rcases a with _ | ⟨i,v⟩ <;>
 simp [Instr.lookup,run_underlying underlying254,MapKept.run_getObj_map hb,hc,MapKept.run_findKey underlying3 hf,Result.andThen,hz]
theorem Zsw:Instr.findNow (.int .i64) (.int .i64 1) Zam.toList 0=some (some (0,.func (.func 208) #[] #[])):=by kernel_rfl
theorem Zsx:Instr.findNow (.int .i64) (.int .i64 2) Zam.toList 0=some (some (1,.func (.func 209) #[] #[])):=by kernel_rfl
theorem Zsy:Instr.findNow (.int .i64) (.int .i64 3) Zam.toList 0=some (some (2,.func (.func 210) #[] #[])):=by kernel_rfl
theorem Zsz:Instr.findNow (.int .i64) (.int .i64 4) Zam.toList 0=some (some (3,.func (.func 211) #[] #[])):=by kernel_rfl
theorem Zsv {k:Int} (h1:k≠1) (h2:k≠2) (h3:k≠3) (h4:k≠4):Instr.findNow (.int .i64) (.int .i64 k) Zam.toList 0=some none:=by
 simp [Zam,Instr.findNow,Instr.sameNow,beq_eq_false_iff_ne.2 h1,beq_eq_false_iff_ne.2 h2,beq_eq_false_iff_ne.2 h3,beq_eq_false_iff_ne.2 h4]
section
variable (nm to df we:Zy_) (kd le mo ro:Int) (mu fx:Bool) (a:Option Addr) (n cap:Nat) (s:Zy_) (w:World)
theorem ZsE:Calls prog 208 #[.agg #[.string nm,.int .i64 kd,.int .i64 le,.int .i64 mo,.slice a n cap,.string to,.int .i64 ro,.bool mu,.bool fx,.string df,.string we]] w
 fun e w'=>e=.returned (.iface 325 (.agg #[.int .i64 le,.int .i64 mo,.string we]))∧Zw_ w w':=by
 go_enter func208,ntmps208;go_wp2;go_ret;exact⟨rfl,Zb_.alloc Zl_ _⟩
theorem ZsF:Calls prog 209 #[.agg #[.string nm,.int .i64 kd,.int .i64 le,.int .i64 mo,.slice a n cap,.string to,.int .i64 ro,.bool mu,.bool fx,.string df,.string we]] w
 fun e w'=>e=.returned (.iface 327 (.agg #[.slice a n cap]))∧Zw_ w w':=by
 go_enter func209,ntmps209;go_wp2;go_ret;exact⟨rfl,Zb_.alloc Zl_ _⟩
theorem ZsG:Calls prog 210 #[.agg #[.string nm,.int .i64 kd,.int .i64 le,.int .i64 mo,.slice a n cap,.string to,.int .i64 ro,.bool mu,.bool fx,.string df,.string we]] w
 fun e w'=>e=.returned (.iface 329 (.agg #[.int .i64 le,.int .i64 mo]))∧Zw_ w w':=by
 go_enter func210,ntmps210;go_wp2;go_ret;exact⟨rfl,Zb_.alloc Zl_ _⟩
theorem ZsH:Calls prog 211 #[.agg #[.string nm,.int .i64 kd,.int .i64 le,.int .i64 mo,.slice a n cap,.string to,.int .i64 ro,.bool mu,.bool fx,.string df,.string we]] w
 fun e w'=>e=.returned (.iface 331 (.agg #[.string to,.int .i64 ro,.bool mu,.string df]))∧Zw_ w w':=by
 go_enter func211,ntmps211;go_wp2;go_ret;exact⟨rfl,Zb_.alloc Zl_ _⟩
theorem ZnK (hs:s.size≤maxLen):Calls prog 276 #[.agg #[.int .i64 le,.int .i64 mo,.string we],.string s] w
 fun e w'=>e=.returned (.bool (Zea s&&inB le mo (Znh s)))∧Zw_ w w':=by
 have HW:∀ o,Hid (Zw_ w (w.alloc o)):=fun o=>Zb_.alloc Zl_ _
 have hdec:=fun u=>Zc4 s u hs
 by_cases hd:Zea s=true
 · have HR:=Zab (Zie hd)
   rw [ZeN];generalize Znh s=v at*
   by_cases h1:le≤v
   · by_cases h2:v≤mo
     all_goals
      go_enter func276,ntmps276;go_wp2_with fail;refine (hdec _).mono ?_;rintro e w1 ⟨rfl,rfl⟩;rw [HR.out,hd];go_wp2;go_ret;exact⟨Zaa (by simp [h1,h2,hd]),(HW _).out⟩
   · go_enter func276,ntmps276
     go_wp2_with fail;refine (hdec _).mono ?_;rintro e w1 ⟨rfl,rfl⟩;rw [HR.out,hd];go_wp2;go_ret;exact⟨Zaa (by rw [Bool.eq_iff_iff];simp;omega),(HW _).out⟩
 · have hd':Zea s=false:=by simpa using hd
   go_enter func276,ntmps276;go_wp2_with fail;refine (hdec _).mono ?_;rintro e w1 ⟨rfl,rfl⟩;rw [hd'];go_wp2;go_ret;exact⟨Zaa (by simp [hd']),(HW _).out⟩
theorem Zlv (L:List Zy_) (hv:Zaf w (.slice a n cap) L):Calls prog 279 #[.agg #[.slice a n cap],.string s] w
 fun e w'=>e=.returned (.bool (decide (0 < s.size)&&Zeq L s))∧Zw_ w w':=by
 have HV:=Zab hv;clear hv;have HW:∀ o,Hid (Zw_ w (w.alloc o)):=fun o=>Zb_.alloc Zl_ _
 by_cases hb0:0 < s.size
 · have he:=ZcQ hb0
   go_enter func279,ntmps279;go_wp2_with fail;refine (Zd8 _ L _ _ (HV.out.below (HW _).out)).mono ?_;rintro e w1 ⟨rfl,rfl⟩;go_wp2;go_ret;exact⟨Zaa (by simp [hb0]),(HW _).out⟩
 · have he:=Zdx (s:=s) (by omega)
   go_enter func279,ntmps279;go_wp2;go_ret;exact⟨Zaa (by simp [hb0]),(HW _).out⟩
theorem Zk6 (hs:s.size≤maxLen):Calls prog 285 #[.agg #[.string to,.int .i64 ro,.bool mu,.string df],.string s] w
 fun e w'=>e=.returned (.bool (Zaj s))∧Zw_ w w':=by
 have HW:∀ o,Hid (Zw_ w (w.alloc o)):=fun o=>Zb_.alloc Zl_ _
 go_enter func285,ntmps285;go_wp2_with fail;refine (Zag _ _ hs).mono ?_;rintro e w1 ⟨rfl,rfl⟩;go_wp2;go_ret;exact⟨rfl,(HW _).out⟩
end
section
variable (nm to df we:Zy_) (le mo ro:Int) (mu fx:Bool) (wv:Value) (L:List Zy_) (s:Zy_) (w:World) (r:Nat)
theorem Zrh (hr:w.heap[r]?=some (.map Zam 4)) (hv:Zaf w wv L) (hs:s.size≤maxLen) :
 Calls prog 239 #[.map (some r),.agg #[.string nm,.int .i64 1,.int .i64 le,.int .i64 mo,wv,.string to,.int .i64 ro,.bool mu,.bool fx,.string df,.string we],.string s] w
  fun e w'=>e=.returned (.bool (ZaL 1 le mo L s))∧Zw_ w w':=by
 have HV:=Zab hv;have HS:=Zab hs;obtain⟨a,n,cap,rfl⟩:=hv.form;have HW:∀ o,Hid (Zw_ w (w.alloc o)):=fun o=>Zb_.alloc Zl_ _
 have hlk:=fun o=>Zdu (w.alloc o) r 1 _ (by rw [(HW o).out.block r (Array.getElem?_eq_some_iff.1 hr).1];exact hr) Zsw
 clear hv hr hs;rw [Zrc];have hm:∀ W:World,(method 480 325 (.agg #[.int .i64 le,.int .i64 mo,.string we]) "loop.example/wharfhall/impl.fits").run prog W=.ok (276,.agg #[.int .i64 le,.int .i64 mo,.string we]) W:=fun _=>by kernel_rfl
 go_enter func239,ntmps239;go_wp2_with fail;refine (ZsE _ _ _ _ _ _ _ _ _ _ _ _ _ _).mono ?_;rintro e w1 ⟨rfl,hb1⟩;have HB1:Hid (Zw_ w w1):=(HW _).out.trans (hb1.mono (by simp));clear hb1;go_wp2_with fail;refine (ZnK _ _ _ _ _ HS.out).mono ?_;rintro e w2 ⟨rfl,hb2⟩;have HB2:Hid (Zw_ w w2):=HB1.out.trans (hb2.mono HB1.out.size);clear hb2;go_wp2;go_ret;exact⟨rfl,HB2.out⟩
theorem Zri (hr:w.heap[r]?=some (.map Zam 4)) (hv:Zaf w wv L) (hs:s.size≤maxLen) :
 Calls prog 239 #[.map (some r),.agg #[.string nm,.int .i64 2,.int .i64 le,.int .i64 mo,wv,.string to,.int .i64 ro,.bool mu,.bool fx,.string df,.string we],.string s] w
  fun e w'=>e=.returned (.bool (ZaL 2 le mo L s))∧Zw_ w w':=by
 have HV:=Zab hv;have HS:=Zab hs;obtain⟨a,n,cap,rfl⟩:=hv.form;have HW:∀ o,Hid (Zw_ w (w.alloc o)):=fun o=>Zb_.alloc Zl_ _
 have hlk:=fun o=>Zdu (w.alloc o) r 2 _ (by rw [(HW o).out.block r (Array.getElem?_eq_some_iff.1 hr).1];exact hr) Zsx
 clear hv hr hs;rw [Zrd];have hm:∀ W:World,(method 480 327 (.agg #[.slice a n cap]) "loop.example/wharfhall/impl.fits").run prog W=.ok (279,.agg #[.slice a n cap]) W:=fun _=>by kernel_rfl
 go_enter func239,ntmps239;go_wp2_with fail;refine (ZsF _ _ _ _ _ _ _ _ _ _ _ _ _ _).mono ?_;rintro e w1 ⟨rfl,hb1⟩;have HB1:Hid (Zw_ w w1):=(HW _).out.trans (hb1.mono (by simp));clear hb1;go_wp2_with fail;refine (Zlv _ _ _ _ _ L (HV.out.below HB1.out)).mono ?_;rintro e w2 ⟨rfl,hb2⟩;have HB2:Hid (Zw_ w w2):=HB1.out.trans (hb2.mono HB1.out.size);clear hb2;go_wp2;go_ret;exact⟨rfl,HB2.out⟩
theorem Zrj (hr:w.heap[r]?=some (.map Zam 4)) (hv:Zaf w wv L) (hs:s.size≤maxLen) :
 Calls prog 239 #[.map (some r),.agg #[.string nm,.int .i64 3,.int .i64 le,.int .i64 mo,wv,.string to,.int .i64 ro,.bool mu,.bool fx,.string df,.string we],.string s] w
  fun e w'=>e=.returned (.bool (ZaL 3 le mo L s))∧Zw_ w w':=by
 have HV:=Zab hv;have HS:=Zab hs;obtain⟨a,n,cap,rfl⟩:=hv.form;have HW:∀ o,Hid (Zw_ w (w.alloc o)):=fun o=>Zb_.alloc Zl_ _
 have hlk:=fun o=>Zdu (w.alloc o) r 3 _ (by rw [(HW o).out.block r (Array.getElem?_eq_some_iff.1 hr).1];exact hr) Zsy
 clear hv hr hs;rw [Zre];have hm:∀ W:World,(method 480 329 (.agg #[.int .i64 le,.int .i64 mo]) "loop.example/wharfhall/impl.fits").run prog W=.ok (282,.agg #[.int .i64 le,.int .i64 mo]) W:=fun _=>by kernel_rfl
 go_enter func239,ntmps239;go_wp2_with fail;refine (ZsG _ _ _ _ _ _ _ _ _ _ _ _ _ _).mono ?_;rintro e w1 ⟨rfl,hb1⟩;have HB1:Hid (Zw_ w w1):=(HW _).out.trans (hb1.mono (by simp));clear hb1;go_wp2_with fail;refine (ZfU _ _ _ _ HS.out).mono ?_;rintro e w2 ⟨rfl,hb2⟩;have HB2:Hid (Zw_ w w2):=HB1.out.trans (hb2.mono HB1.out.size);clear hb2;go_wp2;go_ret;exact⟨rfl,HB2.out⟩
theorem Zrk (hr:w.heap[r]?=some (.map Zam 4)) (hv:Zaf w wv L) (hs:s.size≤maxLen) :
 Calls prog 239 #[.map (some r),.agg #[.string nm,.int .i64 4,.int .i64 le,.int .i64 mo,wv,.string to,.int .i64 ro,.bool mu,.bool fx,.string df,.string we],.string s] w
  fun e w'=>e=.returned (.bool (ZaL 4 le mo L s))∧Zw_ w w':=by
 have HV:=Zab hv;have HS:=Zab hs;obtain⟨a,n,cap,rfl⟩:=hv.form;have HW:∀ o,Hid (Zw_ w (w.alloc o)):=fun o=>Zb_.alloc Zl_ _
 have hlk:=fun o=>Zdu (w.alloc o) r 4 _ (by rw [(HW o).out.block r (Array.getElem?_eq_some_iff.1 hr).1];exact hr) Zsz
 clear hv hr hs;rw [Zrf];have hm:∀ W:World,(method 480 331 (.agg #[.string to,.int .i64 ro,.bool mu,.string df]) "loop.example/wharfhall/impl.fits").run prog W=.ok (285,.agg #[.string to,.int .i64 ro,.bool mu,.string df]) W:=fun _=>by kernel_rfl
 go_enter func239,ntmps239;go_wp2_with fail;refine (ZsH _ _ _ _ _ _ _ _ _ _ _ _ _ _).mono ?_;rintro e w1 ⟨rfl,hb1⟩;have HB1:Hid (Zw_ w w1):=(HW _).out.trans (hb1.mono (by simp));clear hb1;go_wp2_with fail;refine (Zk6 _ _ _ _ _ _ HS.out).mono ?_;rintro e w2 ⟨rfl,hb2⟩;have HB2:Hid (Zw_ w w2):=HB1.out.trans (hb2.mono HB1.out.size);clear hb2;go_wp2;go_ret;exact⟨rfl,HB2.out⟩
theorem Zrg (kd:Int) (hr:w.heap[r]?=some (.map Zam 4)) (hv:Zaf w wv L) (h1:kd≠1) (h2:kd≠2) (h3:kd≠3) (h4:kd≠4) :
 Calls prog 239 #[.map (some r),.agg #[.string nm,.int .i64 kd,.int .i64 le,.int .i64 mo,wv,.string to,.int .i64 ro,.bool mu,.bool fx,.string df,.string we],.string s] w
  fun e w'=>e=.returned (.bool (ZaL kd le mo L s))∧Zw_ w w':=by
 obtain⟨a,n,cap,rfl⟩:=hv.form;have HW:∀ o,Hid (Zw_ w (w.alloc o)):=fun o=>Zb_.alloc Zl_ _
 have hlk:∀ o,(Instr.lookup 254 (.map (some r)) (.int .i64 kd) true).run prog (w.alloc o)=.ok (.tuple #[.nilFunc,.bool false]) (w.alloc o):=
  fun o=>Zdu (w.alloc o) r kd _ (by rw [(HW o).out.block r (Array.getElem?_eq_some_iff.1 hr).1];exact hr) (Zsv h1 h2 h3 h4)
 rw [Zrb h1 h2 h3 h4];clear hv hr h1 h2 h3 h4;go_enter func239,ntmps239;go_wp2;go_ret;exact⟨rfl,(HW _).out⟩
theorem Zhz (kd:Int) (hr:w.heap[r]?=some (.map Zam 4)) (hv:Zaf w wv L) (hs:s.size≤maxLen) :
 Calls prog 239 #[.map (some r),.agg #[.string nm,.int .i64 kd,.int .i64 le,.int .i64 mo,wv,.string to,.int .i64 ro,.bool mu,.bool fx,.string df,.string we],.string s] w
  fun e w'=>e=.returned (.bool (ZaL kd le mo L s))∧Zw_ w w':=by
 by_cases h1:kd=1
 · subst h1;exact Zrh nm to df we le mo ro mu fx wv L s w r hr hv hs
 by_cases h2:kd=2
 · subst h2;exact Zri nm to df we le mo ro mu fx wv L s w r hr hv hs
 by_cases h3:kd=3
 · subst h3;exact Zrj nm to df we le mo ro mu fx wv L s w r hr hv hs
 by_cases h4:kd=4
 · subst h4;exact Zrk nm to df we le mo ro mu fx wv L s w r hr hv hs
 exact Zrg nm to df we le mo ro mu fx wv L s w r kd hr hv h1 h2 h3 h4
theorem Zbu (kd:Int) (hv:Zaf w wv L) (hs:s.size≤maxLen) :
 Calls prog 159 #[.agg #[.string nm,.int .i64 kd,.int .i64 le,.int .i64 mo,wv,.string to,.int .i64 ro,.bool mu,.bool fx,.string df,.string we],.string s] w
  fun e w'=>e=.returned (.bool (ZaL kd le mo L s))∧Zw_ w w':=by
 by_cases h1:kd=1
 · subst h1;exact Zog nm to df we le mo ro mu fx wv L s w hv hs
 by_cases h2:kd=2
 · subst h2;exact Zoh nm to df we le mo ro mu fx wv L s w hv hs
 by_cases h3:kd=3
 · subst h3;exact Zoi nm to df we le mo ro mu fx wv L s w hv hs
 by_cases h4:kd=4
 · subst h4;exact Zoj nm to df we le mo ro mu fx wv L s w hv hs
 exact Zof nm to df we le mo ro mu fx wv L s w kd hv h1 h2 h3 h4
end
section
variable (nm to df we:Zy_) (le mo ro:Int) (mu fx:Bool) (wv:Value) (L:List Zy_) (s:Zy_) (w:World) (r:Nat)
theorem ZfQ (u:World) (o:Obj):(u.alloc o).heap[u.heap.size]?=some o:=(MapKept.heap_alloc u _).1
theorem ZfN (kd:Int) (hv:Zaf w wv L) (hs:s.size≤maxLen) :
 Calls prog 216 #[.agg #[.string nm,.int .i64 kd,.int .i64 le,.int .i64 mo,wv,.string to,.int .i64 ro,.bool mu,.bool fx,.string df,.string we],.string s] w
  fun e w'=>e=.returned (.bool (ZaL kd le mo L s))∧Zw_ w w':=by
 have HV:=Zab hv;have HS:=Zab hs;obtain⟨a,n,cap,rfl⟩:=hv.form;clear hv hs;have HW:∀ o,Hid (Zw_ w (w.alloc o)):=fun o=>Zb_.alloc Zl_ _
 have hr0:∀ o,Hid ((((w.alloc o).alloc (.map Zam 4)).drew).heap[w.heap.size+1]?=some (.map Zam 4)):=fun o=>by
  have:=ZfQ (w.alloc o) (.map Zam 4);rw [World.size_alloc] at this;exact this
 have hbw:∀ o o',Hid (Zw_ w (((w.alloc o).alloc o').drew)):=fun o o'=>((HW o).out.alloc (by simp) o').drew
 go_enter func216,ntmps216;go_wp2
 go_region_with (first
  | (go_at_call 169;refine (Zet _).mono ?_;rintro e w' ⟨rfl,rfl⟩)
  | (go_at_call 239;refine (Zhz _ _ _ _ _ _ _ _ _ _ L _ _ _ _ (hr0 _).out (HV.out.below (hbw _ _).out) HS.out).mono ?_;rintro e w' ⟨rfl,hb⟩;have HB:Hid (Zw_ w w'):=(hbw _ _).out.trans (hb.mono (hbw _ _).out.size);clear hb))
 all_goals go_wp2
 all_goals go_ret
 all_goals exact⟨rfl,HB.out⟩
end
end Go.Proofs.YtcfjmagkinpaeaaGreat
