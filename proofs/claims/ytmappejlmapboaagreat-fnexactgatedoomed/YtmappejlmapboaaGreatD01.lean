import Derived.Test.YtmappejlmapboaaGreatD00
import Derived.WideMake
import Derived.Deep.RegionWith
set_option maxHeartbeats 16000000
set_option maxRecDepth 100000
open Go.Proofs.Tryz
namespace Go.Proofs.YtmappejlmapboaaGreat
open Go.RowKit Go.Deep
section
theorem Zse {α:Type} (a:Array α) (x y:α):(a.push x).setIfInBounds a.size y=a.push y:=by
 apply Array.ext';simp
theorem Zkl (u:World) (es:Array MapEntry) (c:Nat) (k:Int) (v:Value) (hf:Instr.findNow (.int .i64) (.int .i64 k) es.toList 0=some none) :
 (Instr.mapUpdate 278 (.map (some u.heap.size)) (.int .i64 k) v).run prog (u.alloc (.map es c))=.ok () (u.alloc (.map (es.push { key:=.int .i64 k,val:=v,born:=c }) (c+1))):=by
 have hb:(u.alloc (.map es c)).heap[u.heap.size]?=some (.map es c):=(MapKept.heap_alloc u _).1;have hc:(Instr.checkKey false 10000 3 (.int .i64 k)).run prog (u.alloc (.map es c))=.ok () (u.alloc (.map es c)):=MapKept.run_checkKey (k:=.int .i64 k) underlying3 (by simp [MapKept.IsKey]) false 9999;simp [Instr.mapUpdate,run_underlying underlying278,MapKept.run_getObj_map hb,hc,MapKept.run_findKey underlying3 hf,MapKept.run_setObj_map _ hb,Result.andThen]
 show ({ u with heap:=(u.heap.push (.map es c)).setIfInBounds u.heap.size (.map (es.push { key:=.int .i64 k,val:=v,born:=c }) (c+1)) }:World)=_
 rw [Zse]
 rfl
def Zak:Array MapEntry:=#[⟨.int .i64 1,.func (.func 258) #[] #[],0⟩,⟨.int .i64 2,.func (.func 259) #[] #[],1⟩,⟨.int .i64 3,.func (.func 260) #[] #[],2⟩,⟨.int .i64 4,.func (.func 261) #[] #[],3⟩]
theorem Ze9 (w:World) :
 Calls prog 232 #[] w fun e w'=>e=.returned (.map (some w.heap.size))/\w'=w.alloc (.map Zak 4):=by
 have hmm:=@run_makeMap prog;have h1:=Zkl w #[] 0 1 (.func (.func 258) #[] #[]) rfl;have h2:=Zkl w #[⟨.int .i64 1,.func (.func 258) #[] #[],0⟩] 1 2 (.func (.func 259) #[] #[]) rfl;have h3:=Zkl w #[⟨.int .i64 1,.func (.func 258) #[] #[],0⟩,⟨.int .i64 2,.func (.func 259) #[] #[],1⟩] 2 3 (.func (.func 260) #[] #[]) rfl;have h4:=Zkl w #[⟨.int .i64 1,.func (.func 258) #[] #[],0⟩,⟨.int .i64 2,.func (.func 259) #[] #[],1⟩,⟨.int .i64 3,.func (.func 260) #[] #[],2⟩] 3 4 (.func (.func 261) #[] #[]) rfl;go_enter func232,ntmps232;go_wp2;go_ret;exact⟨rfl,rfl⟩
theorem ZdL (W:World) (r:Nat) (k:Int) (a:Option (Nat×Value)) (hb:W.heap[r]?=some (.map Zak 4)) (hf:Instr.findNow (.int .i64) (.int .i64 k) Zak.toList 0=some a) :
 (Instr.lookup 278 (.map (some r)) (.int .i64 k) true).run prog W=.ok (.tuple (match a with | some (_,v)=>#[v,.bool true] | none=>#[.nilFunc,.bool false])) W:=by
 have hc:(Instr.checkKey Zak.isEmpty 10000 3 (.int .i64 k)).run prog W=.ok () W:=MapKept.run_checkKey (k:=.int .i64 k) underlying3 (by simp [MapKept.IsKey]) _ 9999;have hz:(zeroValue 306).run prog W=.ok .nilFunc W:=by kernel_rfl
 rcases a with _ | ⟨i,v⟩ <;>
 simp [Instr.lookup,run_underlying underlying278,MapKept.run_getObj_map hb,hc,MapKept.run_findKey underlying3 hf,Result.andThen,hz]
theorem ZtO:Instr.findNow (.int .i64) (.int .i64 1) Zak.toList 0=some (some (0,.func (.func 258) #[] #[])):=by kernel_rfl
theorem ZtP:Instr.findNow (.int .i64) (.int .i64 2) Zak.toList 0=some (some (1,.func (.func 259) #[] #[])):=by kernel_rfl
theorem ZtQ:Instr.findNow (.int .i64) (.int .i64 3) Zak.toList 0=some (some (2,.func (.func 260) #[] #[])):=by kernel_rfl
theorem ZtR:Instr.findNow (.int .i64) (.int .i64 4) Zak.toList 0=some (some (3,.func (.func 261) #[] #[])):=by kernel_rfl
theorem ZtN {k:Int} (h1:k≠1) (h2:k≠2) (h3:k≠3) (h4:k≠4):Instr.findNow (.int .i64) (.int .i64 k) Zak.toList 0=some none:=by
 simp [Zak,Instr.findNow,Instr.sameNow,beq_eq_false_iff_ne.2 h1,beq_eq_false_iff_ne.2 h2,beq_eq_false_iff_ne.2 h3,beq_eq_false_iff_ne.2 h4]
section
variable (nm to df we:Zy_) (kd le mo ro:Int) (mu fx:Bool) (a:Option Addr) (n cap:Nat) (s:Zy_) (w:World)
theorem ZtV:Calls prog 258 #[.agg #[.string nm,.int .i64 kd,.int .i64 le,.int .i64 mo,.slice a n cap,.string to,.int .i64 ro,.bool mu,.bool fx,.string df,.string we]] w
 fun e w'=>e=.returned (.iface 327 (.agg #[.int .i64 le,.int .i64 mo,.string we]))/\Zw_ w w':=by
 go_enter func258,ntmps258;go_wp2;go_ret;exact⟨rfl,Zb_.alloc Zl_ _⟩
theorem ZtW:Calls prog 259 #[.agg #[.string nm,.int .i64 kd,.int .i64 le,.int .i64 mo,.slice a n cap,.string to,.int .i64 ro,.bool mu,.bool fx,.string df,.string we]] w
 fun e w'=>e=.returned (.iface 329 (.agg #[.slice a n cap]))/\Zw_ w w':=by
 go_enter func259,ntmps259;go_wp2;go_ret;exact⟨rfl,Zb_.alloc Zl_ _⟩
theorem ZtX:Calls prog 260 #[.agg #[.string nm,.int .i64 kd,.int .i64 le,.int .i64 mo,.slice a n cap,.string to,.int .i64 ro,.bool mu,.bool fx,.string df,.string we]] w
 fun e w'=>e=.returned (.iface 331 (.agg #[.int .i64 le,.int .i64 mo]))/\Zw_ w w':=by
 go_enter func260,ntmps260;go_wp2;go_ret;exact⟨rfl,Zb_.alloc Zl_ _⟩
theorem ZtY:Calls prog 261 #[.agg #[.string nm,.int .i64 kd,.int .i64 le,.int .i64 mo,.slice a n cap,.string to,.int .i64 ro,.bool mu,.bool fx,.string df,.string we]] w
 fun e w'=>e=.returned (.iface 333 (.agg #[.string to,.int .i64 ro,.bool mu,.string df]))/\Zw_ w w':=by
 go_enter func261,ntmps261;go_wp2;go_ret;exact⟨rfl,Zb_.alloc Zl_ _⟩
theorem ZqD (hs:s.size<=maxLen):Calls prog 315 #[.agg #[.int .i64 le,.int .i64 mo,.string we],.string s] w
 fun e w'=>e=.returned (.bool (ZeP s&&inB le mo (ZpR s)))/\Zw_ w w':=by
 have HW:∀ o,Hd (Zw_ w (w.alloc o)):=fun o=>Zb_.alloc Zl_ _
 have hdec:=fun u=>Zdl s u hs
 by_cases hd:ZeP s=true
 . have HR:=Zab (ZjH hd)
   rw [Zg0];generalize ZpR s=v at*
   by_cases h1:le<=v
   . by_cases h2:v<=mo
     all_goals
      go_enter func315,ntmps315;go_wp2_with fail;refine (hdec _).mono ?_;rintro e w1 ⟨rfl,rfl⟩;rw [HR.o,hd];go_wp2;go_ret;exact⟨Zaa (by simp [h1,h2,hd]),(HW _).o⟩
   . go_enter func315,ntmps315
     go_wp2_with fail;refine (hdec _).mono ?_;rintro e w1 ⟨rfl,rfl⟩;rw [HR.o,hd];go_wp2;go_ret;exact⟨Zaa (by rw [Bool.eq_iff_iff];simp;omega),(HW _).o⟩
 . have hd':ZeP s=false:=by simpa using hd
   go_enter func315,ntmps315;go_wp2_with fail;refine (hdec _).mono ?_;rintro e w1 ⟨rfl,rfl⟩;rw [hd'];go_wp2;go_ret;exact⟨Zaa (by simp [hd']),(HW _).o⟩
theorem Zns (L:List Zy_) (hv:Zaf w (.slice a n cap) L):Calls prog 318 #[.agg #[.slice a n cap],.string s] w
 fun e w'=>e=.returned (.bool (decide (0 < s.size)&&Ze8 L s))/\Zw_ w w':=by
 have HV:=Zab hv;clear hv;have HW:∀ o,Hd (Zw_ w (w.alloc o)):=fun o=>Zb_.alloc Zl_ _
 by_cases hb0:0 < s.size
 . have he:=Zc7 hb0
   go_enter func318,ntmps318;go_wp2_with fail;refine (ZeN _ L _ _ (HV.o.below (HW _).o)).mono ?_;rintro e w1 ⟨rfl,rfl⟩;go_wp2;go_ret;exact⟨Zaa (by simp [hb0]),(HW _).o⟩
 . have he:=ZeT (s:=s) (by omega)
   go_enter func318,ntmps318;go_wp2;go_ret;exact⟨Zaa (by simp [hb0]),(HW _).o⟩
theorem ZmZ (hs:s.size<=maxLen):Calls prog 324 #[.agg #[.string to,.int .i64 ro,.bool mu,.string df],.string s] w
 fun e w'=>e=.returned (.bool (Zap s))/\Zw_ w w':=by
 have HW:∀ o,Hd (Zw_ w (w.alloc o)):=fun o=>Zb_.alloc Zl_ _
 go_enter func324,ntmps324;go_wp2_with fail;refine (Zan _ _ hs).mono ?_;rintro e w1 ⟨rfl,rfl⟩;go_wp2;go_ret;exact⟨rfl,(HW _).o⟩
end
end
section
section
variable (nm to df we:Zy_) (le mo ro:Int) (mu fx:Bool) (wv:Value) (L:List Zy_) (s:Zy_) (w:World) (r:Nat)
theorem ZsR (hr:w.heap[r]?=some (.map Zak 4)) (hv:Zaf w wv L) (hs:s.size<=maxLen) :
 Calls prog 284 #[.map (some r),.agg #[.string nm,.int .i64 1,.int .i64 le,.int .i64 mo,wv,.string to,.int .i64 ro,.bool mu,.bool fx,.string df,.string we],.string s] w
  fun e w'=>e=.returned (.bool (ZaM 1 le mo L s))/\Zw_ w w':=by
 have HV:=Zab hv;have HS:=Zab hs;obtain⟨a,n,cap,rfl⟩:=hv.form;have HW:∀ o,Hd (Zw_ w (w.alloc o)):=fun o=>Zb_.alloc Zl_ _
 have hlk:=fun o=>ZdL (w.alloc o) r 1 _ (by rw [(HW o).o.block r (Array.getElem?_eq_some_iff.1 hr).1];exact hr) ZtO
 clear hv hr hs;rw [ZsM];have hm:∀ W:World,(method 465 327 (.agg #[.int .i64 le,.int .i64 mo,.string we]) "loop.example/wharfhall/impl.fits").run prog W=.ok (315,.agg #[.int .i64 le,.int .i64 mo,.string we]) W:=fun _=>by kernel_rfl
 go_enter func284,ntmps284;go_wp2_with fail;refine (ZtV _ _ _ _ _ _ _ _ _ _ _ _ _ _).mono ?_;rintro e w1 ⟨rfl,hb1⟩;have HB1:Hd (Zw_ w w1):=(HW _).o.trans (hb1.mono (by simp));clear hb1;go_wp2_with fail;refine (ZqD _ _ _ _ _ HS.o).mono ?_;rintro e w2 ⟨rfl,hb2⟩;have HB2:Hd (Zw_ w w2):=HB1.o.trans (hb2.mono HB1.o.size);clear hb2;go_wp2;go_ret;exact⟨rfl,HB2.o⟩
theorem ZsS (hr:w.heap[r]?=some (.map Zak 4)) (hv:Zaf w wv L) (hs:s.size<=maxLen) :
 Calls prog 284 #[.map (some r),.agg #[.string nm,.int .i64 2,.int .i64 le,.int .i64 mo,wv,.string to,.int .i64 ro,.bool mu,.bool fx,.string df,.string we],.string s] w
  fun e w'=>e=.returned (.bool (ZaM 2 le mo L s))/\Zw_ w w':=by
 have HV:=Zab hv;have HS:=Zab hs;obtain⟨a,n,cap,rfl⟩:=hv.form;have HW:∀ o,Hd (Zw_ w (w.alloc o)):=fun o=>Zb_.alloc Zl_ _
 have hlk:=fun o=>ZdL (w.alloc o) r 2 _ (by rw [(HW o).o.block r (Array.getElem?_eq_some_iff.1 hr).1];exact hr) ZtP
 clear hv hr hs;rw [ZsN];have hm:∀ W:World,(method 465 329 (.agg #[.slice a n cap]) "loop.example/wharfhall/impl.fits").run prog W=.ok (318,.agg #[.slice a n cap]) W:=fun _=>by kernel_rfl
 go_enter func284,ntmps284;go_wp2_with fail;refine (ZtW _ _ _ _ _ _ _ _ _ _ _ _ _ _).mono ?_;rintro e w1 ⟨rfl,hb1⟩;have HB1:Hd (Zw_ w w1):=(HW _).o.trans (hb1.mono (by simp));clear hb1;go_wp2_with fail;refine (Zns _ _ _ _ _ L (HV.o.below HB1.o)).mono ?_;rintro e w2 ⟨rfl,hb2⟩;have HB2:Hd (Zw_ w w2):=HB1.o.trans (hb2.mono HB1.o.size);clear hb2;go_wp2;go_ret;exact⟨rfl,HB2.o⟩
theorem ZsT (hr:w.heap[r]?=some (.map Zak 4)) (hv:Zaf w wv L) (hs:s.size<=maxLen) :
 Calls prog 284 #[.map (some r),.agg #[.string nm,.int .i64 3,.int .i64 le,.int .i64 mo,wv,.string to,.int .i64 ro,.bool mu,.bool fx,.string df,.string we],.string s] w
  fun e w'=>e=.returned (.bool (ZaM 3 le mo L s))/\Zw_ w w':=by
 have HV:=Zab hv;have HS:=Zab hs;obtain⟨a,n,cap,rfl⟩:=hv.form;have HW:∀ o,Hd (Zw_ w (w.alloc o)):=fun o=>Zb_.alloc Zl_ _
 have hlk:=fun o=>ZdL (w.alloc o) r 3 _ (by rw [(HW o).o.block r (Array.getElem?_eq_some_iff.1 hr).1];exact hr) ZtQ
 clear hv hr hs;rw [ZsO];have hm:∀ W:World,(method 465 331 (.agg #[.int .i64 le,.int .i64 mo]) "loop.example/wharfhall/impl.fits").run prog W=.ok (321,.agg #[.int .i64 le,.int .i64 mo]) W:=fun _=>by kernel_rfl
 go_enter func284,ntmps284;go_wp2_with fail;refine (ZtX _ _ _ _ _ _ _ _ _ _ _ _ _ _).mono ?_;rintro e w1 ⟨rfl,hb1⟩;have HB1:Hd (Zw_ w w1):=(HW _).o.trans (hb1.mono (by simp));clear hb1;go_wp2_with fail;refine (Zhd _ _ _ _ HS.o).mono ?_;rintro e w2 ⟨rfl,hb2⟩;have HB2:Hd (Zw_ w w2):=HB1.o.trans (hb2.mono HB1.o.size);clear hb2;go_wp2;go_ret;exact⟨rfl,HB2.o⟩
theorem ZsU (hr:w.heap[r]?=some (.map Zak 4)) (hv:Zaf w wv L) (hs:s.size<=maxLen) :
 Calls prog 284 #[.map (some r),.agg #[.string nm,.int .i64 4,.int .i64 le,.int .i64 mo,wv,.string to,.int .i64 ro,.bool mu,.bool fx,.string df,.string we],.string s] w
  fun e w'=>e=.returned (.bool (ZaM 4 le mo L s))/\Zw_ w w':=by
 have HV:=Zab hv;have HS:=Zab hs;obtain⟨a,n,cap,rfl⟩:=hv.form;have HW:∀ o,Hd (Zw_ w (w.alloc o)):=fun o=>Zb_.alloc Zl_ _
 have hlk:=fun o=>ZdL (w.alloc o) r 4 _ (by rw [(HW o).o.block r (Array.getElem?_eq_some_iff.1 hr).1];exact hr) ZtR
 clear hv hr hs;rw [ZsP];have hm:∀ W:World,(method 465 333 (.agg #[.string to,.int .i64 ro,.bool mu,.string df]) "loop.example/wharfhall/impl.fits").run prog W=.ok (324,.agg #[.string to,.int .i64 ro,.bool mu,.string df]) W:=fun _=>by kernel_rfl
 go_enter func284,ntmps284;go_wp2_with fail;refine (ZtY _ _ _ _ _ _ _ _ _ _ _ _ _ _).mono ?_;rintro e w1 ⟨rfl,hb1⟩;have HB1:Hd (Zw_ w w1):=(HW _).o.trans (hb1.mono (by simp));clear hb1;go_wp2_with fail;refine (ZmZ _ _ _ _ _ _ HS.o).mono ?_;rintro e w2 ⟨rfl,hb2⟩;have HB2:Hd (Zw_ w w2):=HB1.o.trans (hb2.mono HB1.o.size);clear hb2;go_wp2;go_ret;exact⟨rfl,HB2.o⟩
theorem ZsQ (kd:Int) (hr:w.heap[r]?=some (.map Zak 4)) (hv:Zaf w wv L) (h1:kd≠1) (h2:kd≠2) (h3:kd≠3) (h4:kd≠4) :
 Calls prog 284 #[.map (some r),.agg #[.string nm,.int .i64 kd,.int .i64 le,.int .i64 mo,wv,.string to,.int .i64 ro,.bool mu,.bool fx,.string df,.string we],.string s] w
  fun e w'=>e=.returned (.bool (ZaM kd le mo L s))/\Zw_ w w':=by
 obtain⟨a,n,cap,rfl⟩:=hv.form;have HW:∀ o,Hd (Zw_ w (w.alloc o)):=fun o=>Zb_.alloc Zl_ _
 have hlk:∀ o,(Instr.lookup 278 (.map (some r)) (.int .i64 kd) true).run prog (w.alloc o)=.ok (.tuple #[.nilFunc,.bool false]) (w.alloc o):=
  fun o=>ZdL (w.alloc o) r kd _ (by rw [(HW o).o.block r (Array.getElem?_eq_some_iff.1 hr).1];exact hr) (ZtN h1 h2 h3 h4)
 rw [ZsL h1 h2 h3 h4];clear hv hr h1 h2 h3 h4;go_enter func284,ntmps284;go_wp2;go_ret;exact⟨rfl,(HW _).o⟩
theorem ZiW (kd:Int) (hr:w.heap[r]?=some (.map Zak 4)) (hv:Zaf w wv L) (hs:s.size<=maxLen) :
 Calls prog 284 #[.map (some r),.agg #[.string nm,.int .i64 kd,.int .i64 le,.int .i64 mo,wv,.string to,.int .i64 ro,.bool mu,.bool fx,.string df,.string we],.string s] w
  fun e w'=>e=.returned (.bool (ZaM kd le mo L s))/\Zw_ w w':=by
 by_cases h1:kd=1
 . subst h1;exact ZsR nm to df we le mo ro mu fx wv L s w r hr hv hs
 by_cases h2:kd=2
 . subst h2;exact ZsS nm to df we le mo ro mu fx wv L s w r hr hv hs
 by_cases h3:kd=3
 . subst h3;exact ZsT nm to df we le mo ro mu fx wv L s w r hr hv hs
 by_cases h4:kd=4
 . subst h4;exact ZsU nm to df we le mo ro mu fx wv L s w r hr hv hs
 exact ZsQ nm to df we le mo ro mu fx wv L s w r kd hr hv h1 h2 h3 h4
theorem Zbw (kd:Int) (hv:Zaf w wv L) (hs:s.size<=maxLen) :
 Calls prog 171 #[.agg #[.string nm,.int .i64 kd,.int .i64 le,.int .i64 mo,wv,.string to,.int .i64 ro,.bool mu,.bool fx,.string df,.string we],.string s] w
  fun e w'=>e=.returned (.bool (ZaM kd le mo L s))/\Zw_ w w':=by
 by_cases h1:kd=1
 . subst h1;exact ZqZ nm to df we le mo ro mu fx wv L s w hv hs
 by_cases h2:kd=2
 . subst h2;exact Zq0 nm to df we le mo ro mu fx wv L s w hv hs
 by_cases h3:kd=3
 . subst h3;exact Zq1 nm to df we le mo ro mu fx wv L s w hv hs
 by_cases h4:kd=4
 . subst h4;exact Zq2 nm to df we le mo ro mu fx wv L s w hv hs
 exact ZqY nm to df we le mo ro mu fx wv L s w kd hv h1 h2 h3 h4
end
end
section
section
variable (nm to df we:Zy_) (le mo ro:Int) (mu fx:Bool) (wv:Value) (L:List Zy_) (s:Zy_) (w:World) (r:Nat)
theorem Zg5 (u:World) (o:Obj):(u.alloc o).heap[u.heap.size]?=some o:=(MapKept.heap_alloc u _).1
theorem ZgZ (kd:Int) (hv:Zaf w wv L) (hs:s.size<=maxLen) :
 Calls prog 266 #[.agg #[.string nm,.int .i64 kd,.int .i64 le,.int .i64 mo,wv,.string to,.int .i64 ro,.bool mu,.bool fx,.string df,.string we],.string s] w
  fun e w'=>e=.returned (.bool (ZaM kd le mo L s))/\Zw_ w w':=by
 have HV:=Zab hv;have HS:=Zab hs;obtain⟨a,n,cap,rfl⟩:=hv.form;clear hv hs;have HW:∀ o,Hd (Zw_ w (w.alloc o)):=fun o=>Zb_.alloc Zl_ _
 have hr0:∀ o,Hd ((((w.alloc o).alloc (.map Zak 4)).drew).heap[w.heap.size+1]?=some (.map Zak 4)):=fun o=>by
  have:=Zg5 (w.alloc o) (.map Zak 4);rw [World.size_alloc] at this;exact this
 have hbw:∀ o o',Hd (Zw_ w (((w.alloc o).alloc o').drew)):=fun o o'=>((HW o).o.alloc (by simp) o').drew
 go_enter func266,ntmps266;go_wp2
 go_region_with (first
  | (go_at_call 232;refine (Ze9 _).mono ?_;rintro e w' ⟨rfl,rfl⟩)
  | (go_at_call 284;refine (ZiW _ _ _ _ _ _ _ _ _ _ L _ _ _ _ (hr0 _).o (HV.o.below (hbw _ _).o) HS.o).mono ?_;rintro e w' ⟨rfl,hb⟩;have HB:Hd (Zw_ w w'):=(hbw _ _).o.trans (hb.mono (hbw _ _).o.size);clear hb))
 all_goals go_wp2
 all_goals go_ret
 all_goals exact⟨rfl,HB.o⟩
end
end
section
variable {w w':World} {lo lo':Nat} {v:Value}
structure Fd where
 nm:Zy_
 kd:Int
 le:Int
 mo:Int
 words:List Zy_
 to:Zy_
 ro:Int
 mu:Bool
 fx:Bool
 df:Zy_
 we:Zy_
variable {Fs:List Fd}
structure ZcR (w:World) (b o:Nat) (f:Fd) (wv:Value):Prop where
 c0:w.cell? ⟨b,o,none⟩=some (.string f.nm)
 c1:w.cell? ⟨b,o+1,none⟩=some (.int .i64 f.kd)
 c2:w.cell? ⟨b,o+2,none⟩=some (.int .i64 f.le)
 c3:w.cell? ⟨b,o+3,none⟩=some (.int .i64 f.mo)
 c4:w.cell? ⟨b,o+4,none⟩=some wv
 c5:w.cell? ⟨b,o+5,none⟩=some (.string f.to)
 c6:w.cell? ⟨b,o+6,none⟩=some (.int .i64 f.ro)
 c7:w.cell? ⟨b,o+7,none⟩=some (.bool f.mu)
 c8:w.cell? ⟨b,o+8,none⟩=some (.bool f.fx)
 c9:w.cell? ⟨b,o+9,none⟩=some (.string f.df)
 c10:w.cell? ⟨b,o+10,none⟩=some (.string f.we)
structure Zfn (f:Fd):Prop where
 s0:f.nm.size<=maxLen
 s5:f.to.size<=maxLen
 s9:f.df.size<=maxLen
 s10:f.we.size<=maxLen
theorem ZcR.below {b o:Nat}{f:Fd}{wv:Value} (h:ZcR w b o f wv) (hb:Zw_ w w') (hlt:b < w.heap.size):ZcR w' b o f wv:=by
 have e:∀ o,w'.cell? ⟨b,o,none⟩=w.cell? ⟨b,o,none⟩:=fun o=>hb.cell (p:=⟨b,o,none⟩) hlt
 exact⟨by rw [e];exact h.c0,by rw [e];exact h.c1,by rw [e];exact h.c2,by rw [e];exact h.c3,by rw [e];exact h.c4,by rw [e];exact h.c5,by rw [e];exact h.c6,by rw [e];exact h.c7,by rw [e];exact h.c8,by rw [e];exact h.c9,by rw [e];exact h.c10⟩
def Zau (lo:Nat) (w:World) (v:Value) (Fs:List Fd):Prop:=
 (∃ (a:Option Addr) (cap:Nat),v=.slice a 0 cap/\Fs=[])\/
 ∃ (b off cap:Nat),v=.slice (some ⟨b,off,none⟩) Fs.length cap/\Fs≠[]/\Fs.length<=maxLen/\b < w.heap.size/\lo<=b/\Fs.length<=cap/\
  ∀ i (h:i < Fs.length),Zfn Fs[i]/\∃ wv,ZcR w b (off+i*11) Fs[i] wv/\Zaq lo w wv Fs[i].words
theorem Zau.below (h:Zau lo w v Fs) (hb:Zw_ w w'):Zau lo w' v Fs:=by
 rcases h with h | ⟨b,off,cap,h1,h2,h3,h4,h5,h6,h7⟩
 . exact Or.inl h
 . refine Or.inr ⟨b,off,cap,h1,h2,h3,Zk_ h4 hb.size,h5,h6,fun i hi=>?_⟩
   obtain⟨hs,wv,hc,hw⟩:=h7 i hi;exact⟨hs,wv,hc.below hb h4,hw.below hb⟩
theorem Zau.mono (h:Zau lo w v Fs) (hl:lo'<=lo):Zau lo' w v Fs:=by
 rcases h with h | ⟨b,off,cap,h1,h2,h3,h4,h5,h6,h7⟩
 . exact Or.inl h
 . refine Or.inr ⟨b,off,cap,h1,h2,h3,h4,Nat.le_trans hl h5,h6,fun i hi=>?_⟩
   obtain⟨hs,wv,hc,hw⟩:=h7 i hi;exact⟨hs,wv,hc,hw.mono hl⟩
theorem Zau.form (h:Zau lo w v Fs):∃ a cap,v=.slice a Fs.length cap:=by
 rcases h with ⟨a,cap,h,rfl⟩ | ⟨b,off,cap,h,_⟩
 . exact⟨a,cap,h⟩
 . exact⟨_,cap,h⟩
def Zdw (Fs:List Fd):Prop:=Fs.length<=1048576/\∀ i (h:i < Fs.length),Fs[i].words.length<=1048576
def ZtI (Fs:List Fd) (left r:Int):Prop:= -1<=r/\r<=left/\(0<=r->Zdw Fs)
theorem Zq4 (lo:Nat) (v:Value) (Fs:List Fd) (left:Int) (w:World) (h0:0<=left) (h1:left<=1048576) (hv:Zau lo w v Fs) :
 Calls prog 121 #[v,.int .i64 left] w fun e w'=>∃ r:Int,e=.returned (.int .i64 r)/\Zw_ w w'/\ZtI Fs left r:=by
 rcases hv with ⟨a,cap,rfl,rfl⟩ | ⟨b,off,cap,rfl,hne,hm,hbw,_,_,hc⟩
 . go_enter func121,ntmps121
   go_wp2
   go_loop [1,5] (fun l i=>∃ r:Int,l=.int .i64 r/\0<=r/\r<=left/\i=.int .i64 0) (fun _ _=>0)
   case atStart=>exact⟨_,rfl,by omega,by omega,rfl⟩
   case round=>
    obtain⟨r,rfl,hr0,hr1,rfl⟩:=hrel;go_wp2;go_ret;exact⟨r,rfl,Below.refl _ _,by omega,by omega,fun _=>⟨by simp,fun i h=>absurd h (by simp)⟩⟩
 . unfold maxLen at hm
   by_cases hle:(Fs.length:Int)<=left
   . go_enter func121,ntmps121
     go_wp2
     go_loopw [1,5] (fun l i wr=>∃ (r:Int) (k:Nat),l=.int .i64 r/\0<=r/\r<=left/\i=.int .i64 k/\k<=Fs.length/\Zw_ w wr/\∀ i (h:i < Fs.length),i < k->Fs[i].words.length<=1048576) (fun _ i _=>Fs.length - (intOf i).toNat)
     case atStart=>exact⟨_,0,rfl,by omega,by omega,rfl,by omega,Below.refl _ _,fun i h h'=>by omega⟩
     case round=>
      obtain⟨r,k,rfl,hr0,hr1,rfl,hk,hb,hall⟩:=hrel;have HA:=Zab hall;clear hall
      by_cases hlt:k < Fs.length
      . obtain⟨hsz,wv,hcell,hst⟩:=hc k hlt
        have hcell:=hcell.below hb hbw;obtain⟨c0,c1,c2,c3,c4,c5,c6,c7,c8,c9,c10⟩:=hcell;go_wp2_with fail;refine (ZmF _ _ _ _ _ _ _ _ _ _ _ Fs[k].words _ _ (hst.at.below hb) hr0 (by omega) hsz.s0 hsz.s5 hsz.s9 hsz.s10).mono ?_;rintro e w1 ⟨r1,rfl,hb1,q0,q1,q2⟩;have hB:Hd (Zw_ w w1):=hb.trans (hb1.mono hb.size);clear hb1 c0 c1 c2 c3 c4 c5 c6 c7 c8 c9 c10 hb;go_wp2
        all_goals first
         | (go_roundw
            case rel=>exact⟨_,k+1,rfl,by omega,by omega,by go_num,by omega,hB.o,fun i h h'=>by
                       by_cases e:i=k
                       . subst e;have:=q2 (by omega);omega
                       . exact HA.o i h (by omega)⟩
            . simp [intOf];omega)
         | (go_ret
            exact⟨-1,rfl,hB.o,by omega,by omega,fun h=>by omega⟩)
      . go_wp2
        go_ret;exact⟨r,rfl,hb,by omega,by omega,fun _=>⟨by omega,fun i h=>HA.o i h (by omega)⟩⟩
   . go_enter func121,ntmps121
     go_wp2;go_ret;exact⟨-1,rfl,Below.refl _ _,by omega,by omega,fun h=>by omega⟩
structure Sh where
 kind:Zy_
 fields:List Fd
variable {Ss:List Sh}
def ZaI (lo:Nat) (w:World) (v:Value) (Ss:List Sh):Prop:=
 (∃ (a:Option Addr) (cap:Nat),v=.slice a 0 cap/\Ss=[])\/
 ∃ (b off cap:Nat),v=.slice (some ⟨b,off,none⟩) Ss.length cap/\Ss≠[]/\Ss.length<=maxLen/\b < w.heap.size/\lo<=b/\
  ∀ i (h:i < Ss.length),Ss[i].kind.size<=maxLen/\∃ fv,w.cell? ⟨b,off+i*2,none⟩=some (.string Ss[i].kind)/\w.cell? ⟨b,off+i*2+1,none⟩=some fv/\Zau lo w fv Ss[i].fields
theorem ZaI.below (h:ZaI lo w v Ss) (hb:Zw_ w w'):ZaI lo w' v Ss:=by
 rcases h with h | ⟨b,off,cap,h1,h2,h3,h4,h5,h7⟩
 . exact Or.inl h
 . refine Or.inr ⟨b,off,cap,h1,h2,h3,Zk_ h4 hb.size,h5,fun i hi=>?_⟩
   obtain⟨hs,fv,hc,hc',hw⟩:=h7 i hi;exact⟨hs,fv,by rw [hb.cell (p:=⟨b,_,none⟩) h4];exact hc,by rw [hb.cell (p:=⟨b,_,none⟩) h4];exact hc',hw.below hb⟩
theorem ZaI.mono (h:ZaI lo w v Ss) (hl:lo'<=lo):ZaI lo' w v Ss:=by
 rcases h with h | ⟨b,off,cap,h1,h2,h3,h4,h5,h7⟩
 . exact Or.inl h
 . refine Or.inr ⟨b,off,cap,h1,h2,h3,h4,Nat.le_trans hl h5,fun i hi=>?_⟩
   obtain⟨hs,fv,hc,hc',hw⟩:=h7 i hi;exact⟨hs,fv,hc,hc',hw.mono hl⟩
theorem ZaI.form (h:ZaI lo w v Ss):∃ a cap,v=.slice a Ss.length cap:=by
 rcases h with ⟨a,cap,h,rfl⟩ | ⟨b,off,cap,h,_⟩
 . exact⟨a,cap,h⟩
 . exact⟨_,cap,h⟩
def ZfY (Ss:List Sh):Prop:=Ss.length<=1048576/\∀ i (h:i < Ss.length),Zdw Ss[i].fields
def Zum (Ss:List Sh) (left r:Int):Prop:= -1<=r/\r<=left/\(0<=r->ZfY Ss)
theorem ZmG (lo:Nat) (kind:Zy_) (v:Value) (Fs:List Fd) (left:Int) (w:World) (h0:0<=left) (h1:left<=1048576) (hv:Zau lo w v Fs) (hs:kind.size<=maxLen) :
 Calls prog 74 #[.agg #[.string kind,v],.int .i64 left] w fun e w'=>∃ r:Int,e=.returned (.int .i64 r)/\Zw_ w w'/\ZtI Fs left r:=by
 have HV:=Zab hv;obtain⟨a,cap,rfl⟩:=hv.form;clear hv;unfold maxLen at hs;have HW:∀ o,Hd (Zw_ w (w.alloc o)):=fun o=>Zb_.alloc Zl_ _
 by_cases c1:(kind.size:Int)<=left
 . go_enter func74,ntmps74
   go_wp2_with fail;refine (Zq4 lo _ Fs _ _ (by omega) (by omega) (HV.o.below (HW _).o)).mono ?_;rintro e w1 ⟨r,rfl,hb1,q0,q1,q2⟩;have hB:Hd (Zw_ w w1):=(HW _).o.trans (hb1.mono (by simp));have HQ:=Zab q2;clear hb1 q2;go_wp2
   all_goals go_ret
   all_goals first
    | exact⟨_,rfl,hB.o,by omega,by omega,HQ.o⟩
    | exact⟨-1,rfl,hB.o,by omega,by omega,fun h=>by omega⟩
 . go_enter func74,ntmps74
   go_wp2;go_ret;exact⟨-1,rfl,(HW _).o,by omega,by omega,fun h=>by omega⟩
theorem Zrc (lo:Nat) (v:Value) (Ss:List Sh) (left:Int) (w:World) (h0:0<=left) (h1:left<=1048576) (hv:ZaI lo w v Ss) :
 Calls prog 27 #[v,.int .i64 left] w fun e w'=>∃ r:Int,e=.returned (.int .i64 r)/\Zw_ w w'/\Zum Ss left r:=by
 rcases hv with ⟨a,cap,rfl,rfl⟩ | ⟨b,off,cap,rfl,hne,hm,hbw,_,hc⟩
 . go_enter func27,ntmps27
   go_wp2
   go_loop [1,5] (fun l i=>∃ r:Int,l=.int .i64 r/\0<=r/\r<=left/\i=.int .i64 0) (fun _ _=>0)
   case atStart=>exact⟨_,rfl,by omega,by omega,rfl⟩
   case round=>
    obtain⟨r,rfl,hr0,hr1,rfl⟩:=hrel;go_wp2;go_ret;exact⟨r,rfl,Below.refl _ _,by omega,by omega,fun _=>⟨by simp,fun i h=>absurd h (by simp)⟩⟩
 . unfold maxLen at hm
   by_cases hle:(Ss.length:Int)<=left
   . go_enter func27,ntmps27
     go_wp2
     go_loopw [1,5] (fun l i wr=>∃ (r:Int) (k:Nat),l=.int .i64 r/\0<=r/\r<=left/\i=.int .i64 k/\k<=Ss.length/\Zw_ w wr/\∀ i (h:i < Ss.length),i < k->Zdw Ss[i].fields) (fun _ i _=>Ss.length - (intOf i).toNat)
     case atStart=>exact⟨_,0,rfl,by omega,by omega,rfl,by omega,Below.refl _ _,fun i h h'=>by omega⟩
     case round=>
      obtain⟨r,k,rfl,hr0,hr1,rfl,hk,hb,hall⟩:=hrel;have HA:=Zab hall;clear hall
      by_cases hlt:k < Ss.length
      . obtain⟨hsz,fv,c0,c1,hst⟩:=hc k hlt
        have c0':wr.cell? ⟨b,off+k*2,none⟩=some (.string Ss[k].kind):=by rw [hb.cell (p:=⟨b,_,none⟩) hbw];exact c0
        have c1':wr.cell? ⟨b,off+k*2+1,none⟩=some fv:=by rw [hb.cell (p:=⟨b,_,none⟩) hbw];exact c1
        clear c0 c1;go_wp2_with fail;refine (ZmG lo _ _ Ss[k].fields _ _ hr0 (by omega) (hst.below hb) hsz).mono ?_;rintro e w1 ⟨r1,rfl,hb1,q0,q1,q2⟩;have hB:Hd (Zw_ w w1):=hb.trans (hb1.mono hb.size);have HQ:=Zab q2;clear hb1 c0' c1' hb q2;go_wp2
        all_goals first
         | (go_roundw
            case rel=>exact⟨_,k+1,rfl,by omega,by omega,by go_num,by omega,hB.o,fun i h h'=>by
                       by_cases e:i=k
                       . subst e;exact HQ.o (by omega)
                       . exact HA.o i h (by omega)⟩
            . simp [intOf];omega)
         | (go_ret
            exact⟨-1,rfl,hB.o,by omega,by omega,fun h=>by omega⟩)
      . go_wp2
        go_ret;exact⟨r,rfl,hb,by omega,by omega,fun _=>⟨by omega,fun i h=>HA.o i h (by omega)⟩⟩
   . go_enter func27,ntmps27
     go_wp2;go_ret;exact⟨-1,rfl,Below.refl _ _,by omega,by omega,fun h=>by omega⟩
end
variable {lo:Nat} {w:World} {v:Value}
theorem Zdz (h:Zau lo w v []):∃ a cap,v=.slice a 0 cap:=h.form
theorem Zau.full {Fs:List Fd} (h:Zau lo w v Fs) (hne:Fs≠[]):∃ (b off cap:Nat),v=.slice (some ⟨b,off,none⟩) Fs.length cap/\Fs.length<=maxLen/\b < w.heap.size/\Fs.length<=cap/\
 ∀ i (h:i < Fs.length),Zfn Fs[i]/\∃ wv,ZcR w b (off+i*11) Fs[i] wv/\Zaq lo w wv Fs[i].words:=by
 rcases h with ⟨_,_,_,h⟩ | ⟨b,off,cap,h1,_,h3,h4,_,h6,h7⟩
 . exact absurd h hne
 . exact⟨b,off,cap,h1,h3,h4,h6,h7⟩
theorem ZaI.full {Ss:List Sh} (h:ZaI lo w v Ss) (hne:Ss≠[]):∃ (b off cap:Nat),v=.slice (some ⟨b,off,none⟩) Ss.length cap/\Ss.length<=maxLen/\b < w.heap.size/\
 ∀ i (h:i < Ss.length),Ss[i].kind.size<=maxLen/\∃ fv,w.cell? ⟨b,off+i*2,none⟩=some (.string Ss[i].kind)/\w.cell? ⟨b,off+i*2+1,none⟩=some fv/\Zau lo w fv Ss[i].fields:=by
 rcases h with ⟨_,_,_,h⟩ | ⟨b,off,cap,h1,_,h3,h4,_,h7⟩
 . exact absurd h hne
 . exact⟨b,off,cap,h1,h3,h4,h7⟩
theorem Zn1 (lo lo':Nat) (v v':Value) (Fs:List Fd) (w:World) (hv:Zau lo w v Fs) (hv':Zau lo' w v' Fs) :
 Calls prog 146 #[v,v'] w fun e w'=>e=.returned (.bool true)/\Zw_ w w':=by
 by_cases hL:Fs=[]
 . subst hL
   obtain⟨a,cap,rfl⟩:=Zdz hv;obtain⟨a',cap',rfl⟩:=Zdz hv';clear hv hv';go_enter func146,ntmps146;go_wp2
   go_loop [5] (fun i=>i=.int .i64 0) (fun _=>0)
   case atStart=>rfl
   case round=>
    subst hrel;go_wp2;go_ret;exact⟨rfl,Below.refl _ _⟩
 . obtain⟨b,off,cap,rfl,hm,hbw,_,hc⟩:=hv.full hL
   obtain⟨b',off',cap',rfl,_,hbw',_,hc'⟩:=hv'.full hL;clear hv hv';unfold maxLen at hm;go_enter func146,ntmps146;go_wp2
   go_loopw [5] (fun i wr=>∃ k:Nat,i=.int .i64 k/\k<=Fs.length/\Zw_ w wr) (fun i _=>Fs.length - (intOf i).toNat)
   case atStart=>exact⟨0,rfl,by omega,Below.refl _ _⟩
   case round=>
    obtain⟨k,rfl,hk,hb⟩:=hrel
    by_cases hlt:k < Fs.length
    . obtain⟨_,wv,hcell,hst⟩:=hc k hlt
      obtain⟨_,wv',hcell',hst'⟩:=hc' k hlt;have HST:Hd (Zaf wr wv Fs[k].words):=hst.at.below hb;have HST':Hd (Zaf wr wv' Fs[k].words):=hst'.at.below hb;obtain⟨a1,n1,cap1,rfl⟩:=hst.form;obtain⟨a2,n2,cap2,rfl⟩:=hst'.form;clear hst hst';obtain⟨c0,c1,c2,c3,c4,c5,c6,c7,c8,c9,c10⟩:=hcell.below hb hbw;obtain⟨d0,d1,d2,d3,d4,d5,d6,d7,d8,d9,d10⟩:=hcell'.below hb hbw';clear hcell hcell';have HB:=Zab hb;clear hb;go_wp2
      go_region_with (go_at_call 191;refine (ZkC _ _ _ _ _ _ _ _ _ _ _ _ Fs[k].words _ (HST.o.below (Below.drew Zb_)) (HST'.o.below (Below.drew Zb_))).mono ?_;rintro e w1 ⟨rfl,hb1⟩;have hB:Hd (Zw_ w w1):=(HB.o.drew).trans (hb1.mono HB.o.size);clear hb1)
      all_goals
       go_wp2;go_roundw
       . exact⟨k+1,by go_num,by omega,hB.o⟩
       . simp [intOf];omega
    . go_wp2
      go_ret;exact⟨rfl,hb⟩
theorem ZkD (lo lo':Nat) (kind:Zy_) (v v':Value) (Fs:List Fd) (w:World) (hv:Zau lo w v Fs) (hv':Zau lo' w v' Fs) :
 Calls prog 97 #[.agg #[.string kind,v],.agg #[.string kind,v']] w fun e w'=>e=.returned (.bool true)/\Zw_ w w':=by
 have HV:=Zab hv;have HV':=Zab hv';obtain⟨a,cap,rfl⟩:=hv.form;obtain⟨a',cap',rfl⟩:=hv'.form;clear hv hv';have HW:∀ o o',Hd (Zw_ w ((w.alloc o).alloc o')):=fun o o'=>(Zb_.alloc Zl_ _).alloc (by simp) _
 go_enter func97,ntmps97;go_wp2_with fail;refine (Zn1 lo lo' _ _ Fs _ (HV.o.below (HW _ _).o) (HV'.o.below (HW _ _).o)).mono ?_;rintro e w1 ⟨rfl,hb⟩;have HB:Hd (Zw_ w w1):=(HW _ _).o.trans (hb.mono (by simp;omega));clear hb;go_wp2;go_ret;exact⟨rfl,HB.o⟩
theorem Zn9 (lo lo':Nat) (v v':Value) (Ss:List Sh) (w:World) (hv:ZaI lo w v Ss) (hv':ZaI lo' w v' Ss) :
 Calls prog 45 #[v,v'] w fun e w'=>e=.returned (.bool true)/\Zw_ w w':=by
 by_cases hL:Ss=[]
 . subst hL
   obtain⟨a,cap,rfl⟩:=hv.form;obtain⟨a',cap',rfl⟩:=hv'.form;clear hv hv';go_enter func45,ntmps45;go_wp2
   go_loop [5] (fun i=>i=.int .i64 0) (fun _=>0)
   case atStart=>rfl
   case round=>
    subst hrel;go_wp2;go_ret;exact⟨rfl,Below.refl _ _⟩
 . obtain⟨b,off,cap,rfl,hm,hbw,hc⟩:=hv.full hL
   obtain⟨b',off',cap',rfl,_,hbw',hc'⟩:=hv'.full hL;clear hv hv';unfold maxLen at hm;go_enter func45,ntmps45;go_wp2
   go_loopw [5] (fun i wr=>∃ k:Nat,i=.int .i64 k/\k<=Ss.length/\Zw_ w wr) (fun i _=>Ss.length - (intOf i).toNat)
   case atStart=>exact⟨0,rfl,by omega,Below.refl _ _⟩
   case round=>
    obtain⟨k,rfl,hk,hb⟩:=hrel
    by_cases hlt:k < Ss.length
    . obtain⟨_,fv,c0,c1,hst⟩:=hc k hlt
      obtain⟨_,fv',d0,d1,hst'⟩:=hc' k hlt;have HST:Hd (Zau lo wr fv Ss[k].fields):=hst.below hb;have HST':Hd (Zau lo' wr fv' Ss[k].fields):=hst'.below hb;obtain⟨a1,cap1,rfl⟩:=hst.form;obtain⟨a2,cap2,rfl⟩:=hst'.form;clear hst hst';have e0:wr.cell? ⟨b,off+k*2,none⟩=some (.string Ss[k].kind):=by rw [hb.cell (p:=⟨b,_,none⟩) hbw];exact c0
      have e1:wr.cell? ⟨b,off+k*2+1,none⟩=some (.slice a1 Ss[k].fields.length cap1):=by rw [hb.cell (p:=⟨b,_,none⟩) hbw];exact c1
      have g0:wr.cell? ⟨b',off'+k*2,none⟩=some (.string Ss[k].kind):=by rw [hb.cell (p:=⟨b',_,none⟩) hbw'];exact d0
      have g1:wr.cell? ⟨b',off'+k*2+1,none⟩=some (.slice a2 Ss[k].fields.length cap2):=by rw [hb.cell (p:=⟨b',_,none⟩) hbw'];exact d1
      clear c0 c1 d0 d1;have HB:=Zab hb;clear hb;go_wp2
      go_region_with (go_at_call 97;refine (ZkD lo lo' _ _ _ Ss[k].fields _ (HST.o.below (Below.drew Zb_)) (HST'.o.below (Below.drew Zb_))).mono ?_;rintro e w1 ⟨rfl,hb1⟩;have hB:Hd (Zw_ w w1):=(HB.o.drew).trans (hb1.mono HB.o.size);clear hb1)
      all_goals
       go_wp2;go_roundw
       . exact⟨k+1,by go_num,by omega,hB.o⟩
       . simp [intOf];omega
    . go_wp2
      go_ret;exact⟨rfl,hb⟩
end Go.Proofs.YtmappejlmapboaaGreat
