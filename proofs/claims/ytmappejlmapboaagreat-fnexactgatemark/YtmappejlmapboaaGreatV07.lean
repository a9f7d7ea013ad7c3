import Derived.Test.YtmappejlmapboaaGreatV06
import Derived.Deep.OwnRows
import Derived.Maps.Own
import Derived.Maps.Views
import Derived.WideKeyEntry
set_option maxHeartbeats 16000000
set_option maxRecDepth 100000
open Go.Proofs.Tryz
namespace Go.Proofs.YtmappejlmapboaaGreat
section
open Go.RowKit Go.Deep Go.Maps Go.ChangeMaps Go.MapKept
open Go.WideElems (Fit)
variable {P:Program} {w:World} {k:TypeId}
theorem ZcV {H:Type}{w':World}{R:Value->Option (DataW H×List MemPlace)}{b n:Nat}{D:DataW H} (h:w.ownsMap P k R b n D) (hb:w'.heap[b]?=w.heap[b]?):w'.ownsMap P k R b n D:=by
 obtain⟨es,clock,h1,h2,h3,h4⟩:=h;exact⟨es,clock,hb.trans h1,h2,h3,h4⟩
theorem Zi6 {H:Type}{t e:TypeId}{q:IntKind} (L:WideMaps.KeyLaw P k) (ht:P.underlying t=some (.map k e)) (he:P.underlying e=some (.int q))
 (hz:∀ u:World,(zeroValue e).run P u=.ok (.int q 0) u) {b n:Nat} {D:DataW H} (h:w.ownsMap P k (plainElem P e) b n D) (hn:n < maxLen) {key:Value} {kl:Lit} (hkey:keyOf P k key=some kl) :
 ∃ (c:Int) (v0:Value) (st:Nat) (w1:World),(Instr.mapEntry t (.map (some b)) key).run P w=.ok (.tuple #[v0,goInt st]) w1/\D.atKey kl (.lit (.int q 0))=.lit (.int q c)/\(Lit.int q c).wf=true/\
  (Instr.lookup t (.map (some b)) key false).run P w=.ok (.int q c) w/\(Instr.lookup t (.map (some b)) key false).run P w1=.ok (.int q c) w1/\w.grownBy w1 (some b)/\w1.heap.size=w.heap.size/\
  ∀ (val:Int),(Lit.int q val).wf=true->∃ w2,(Instr.entryStore t (.map (some b)) (goInt st) (.int q val)).run P w1=.ok () w2/\w2.ownsMap P k (plainElem P e) b (n+1) (D.put kl (.lit (.int q val)))/\w.grownBy w2 (some b)/\w2.heap.size=w.heap.size:=by
 have K:Keyed P k:=Keyed.of_law L;have hw0:(Lit.int q 0).wf=true:=by cases q <;> decide
 obtain⟨c,hl,hat,hwc⟩:=h.lookup_int K ht he (hz w) hkey;have hup:=h.update K ht hn hkey (plainElem_int (H:=H) he hw0);have hups:∀ val:Int,(Lit.int q val).wf=true->_:=fun val hv=>h.update K ht hn hkey (plainElem_int (H:=H) he hv)
 have h':=h;obtain⟨es,clock,hb,F,hs,hD⟩:=h;obtain⟨v0,st,es1,clock1,hrun,-,hst⟩:=WideElems.entry_then_store L ht hz hb F hkey;have hone:(setBlock w b (.map es1 clock1)).heap[b]?=some (.map es1 clock1):=heap_setBlock_same hb _;have hgr:∀ o,w.grownBy (setBlock w b o) (some b):=fun o=>⟨rfl,rfl,rfl,by simp [setBlock],fun i _ hi=>heap_setBlock_other hb _ (fun e=>hi (by rw [e]))⟩
 have hlook:(Instr.lookup t (.map (some b)) key false).run P (setBlock w b (.map es1 clock1))=.ok (.int q c) (setBlock w b (.map es1 clock1)):=by
  rcases L.find w hkey es.toList F.keys with ⟨h1,h2⟩ | ⟨j,e0,h1,h2,h3⟩
  . have hm:(Instr.mapEntry t (.map (some b)) key).run P w=.ok (.tuple #[.int q 0,goInt clock]) (setBlock w b (.map (es.push ⟨key,.int q 0,clock⟩) (clock+1))):=by
     simp [Instr.mapEntry,run_underlying ht,MapKept.run_getObj_map hb,L.check w false hkey,h1,hz,MapKept.run_setObj_map _ hb,Result.andThen,setBlock]
    have hu:(Instr.mapUpdate t (.map (some b)) key (.int q 0)).run P w=.ok () (setBlock w b (.map (es.push ⟨key,.int q 0,clock⟩) (clock+1))):=by
     simp [Instr.mapUpdate,run_underlying ht,MapKept.run_getObj_map hb,L.check w false hkey,h1,MapKept.run_setObj_map _ hb,Result.andThen,setBlock]
    obtain⟨w',hr',ho',-⟩:=hup;rw [hu] at hr';rw [hm] at hrun;have e1:setBlock w b (.map (es.push ⟨key,.int q 0,clock⟩) (clock+1))=setBlock w b (.map es1 clock1):=by injection hrun
    have e2:setBlock w b (.map (es.push ⟨key,.int q 0,clock⟩) (clock+1))=w':=by injection hr'
    rw [<- e2,e1] at ho';obtain⟨c',hl',hat',-⟩:=ho'.lookup_int K ht he (hz _) hkey
    have hc0:c=0:=by
     have hlk:(Instr.lookup t (.map (some b)) key false).run P w=.ok (.int q 0) w:=by
      simp [Instr.lookup,run_underlying ht,MapKept.run_getObj_map hb,L.check w _ hkey,h1,hz,Result.andThen]
     rw [hl] at hlk;injection hlk with e
     injection e
    rw [atKey_put_same (by rw [hD];exact⟨_,rfl⟩) (K.key hkey)] at hat'
    have:c'=0:=by
     injection hat' with e
     injection e with _ e
     exact e.symm
    rw [hc0,<- this];exact hl'
  . have hj:es[j]?=some e0:=by simpa using h2
    have hsame:es.modify j (fun e=>{ e with key:=key })=es:=by
     apply Array.ext';rw [Array.toList_modify];apply List.ext_getElem?;intro i;rw [List.getElem?_modify]
     by_cases ij:j=i
     . subst ij
       rw [h2];simp [<- h3]
     . simp [ij]
    have hm:(Instr.mapEntry t (.map (some b)) key).run P w=.ok (.tuple #[e0.val,goInt e0.born]) (setBlock w b (.map es clock)):=by
     simp [Instr.mapEntry,run_underlying ht,MapKept.run_getObj_map hb,L.check w false hkey,h1,hj,h3,L.stays w hkey,hsame,MapKept.run_setObj_map _ hb,Result.andThen,setBlock]
    rw [hm] at hrun;have e1:setBlock w b (.map es clock)=setBlock w b (.map es1 clock1):=by injection hrun
    have ho:(setBlock w b (.map es1 clock1)).ownsMap P k (plainElem P e) b n D:=by
     rw [<- e1];exact ZcV h' ((heap_setBlock_same hb _).trans hb.symm)
    obtain⟨c',hl',hat',-⟩:=ho.lookup_int K ht he (hz _) hkey;rw [hat] at hat'
    have:c=c':=by
     injection hat' with e
     injection e with _ e
    rw [this];exact hl'
 refine⟨c,v0,st,_,hrun,hat,hwc,hl,hlook,hgr _,by simp [setBlock],fun val hv=>?_⟩;obtain⟨es',clock',hrs,hmu⟩:=hst _ (.int q val) hone;obtain⟨w',hr',ho',hg'⟩:=hups val hv;rw [hmu] at hr';have e2:setBlock w b (.map es' clock')=w':=by injection hr'
 refine⟨_,hrs,ZcV ho' ?_,?_,by simp [setBlock]⟩
 . rw [heap_setBlock_same hone,<- e2,heap_setBlock_same hb]
 . exact (hgr _).trans ⟨rfl,rfl,rfl,by simp [setBlock],fun i _ hi=>heap_setBlock_other hone _ (fun e=>hi (by rw [e]))⟩
end
open Go.RowKit Go.Deep
def Zn3 (b:Bool):Value:=if b=true then .nilIface else .iface 347 (.agg #[.int .i64 1,.int .i64 0])
theorem ZaJ (b:Bool) (w:World):Calls prog 297 #[.bool b] w fun e w'=>e=.returned (Zn3 b)/\Zw_ w w':=by
 cases b with
 | true=>
  go_enter func297,ntmps297;go_wp2;go_ret;exact⟨rfl,Below.refl _ _⟩
 | false=>
  go_enter func297,ntmps297;go_wp2;go_ret;exact⟨rfl,Below.refl _ _⟩
section
variable (kd kind nm team:Zy_) (vv hv fv:Value) (en:Bool) (ver:Int) (V Ho:List Zy_) (Fs:List Fd) (w:World) (lo:Nat)
theorem Zhg (s2:nm.size<=maxLen) (s3:team.size<=maxLen) :
 Calls prog 287 #[.agg #[.string kd,fv],.agg #[.string kind,.string nm,.string team,vv,.bool en,hv,.int .i64 ver]] w
  fun e w'=>e=.returned (Zn3 (Zap nm&&Zap team))/\Zw_ w w':=by
 have HW:∀ o o',Hd (Zw_ w ((w.alloc o).alloc o')):=fun o o'=>(Zb_.alloc Zl_ _).alloc (by simp) _
 cases hn:Zap nm with
 | false=>
  go_enter func287,ntmps287
  go_wp2_with (first
   | (go_at_call 206;refine (Zan _ _ (by assumption)).mono ?_;rintro e w' ⟨rfl,rfl⟩)
   | (go_at_call 297;refine (ZaJ _ _).mono ?_;rintro e w' ⟨rfl,hb⟩))
  go_ret;exact⟨rfl,(HW _ _).o.trans (hb.mono (HW _ _).o.size)⟩
 | true=>
  cases ht:Zap team with
  | false=>
   go_enter func287,ntmps287
   go_wp2_with (first
    | (go_at_call 206;refine (Zan _ _ (by assumption)).mono ?_;rintro e w' ⟨rfl,rfl⟩)
    | (go_at_call 297;refine (ZaJ _ _).mono ?_;rintro e w' ⟨rfl,hb⟩))
   go_ret;exact⟨rfl,(HW _ _).o.trans (hb.mono (HW _ _).o.size)⟩
  | true=>
   go_enter func287,ntmps287
   go_wp2_with (first
    | (go_at_call 206;refine (Zan _ _ (by assumption)).mono ?_;rintro e w' ⟨rfl,rfl⟩)
    | (go_at_call 297;refine (ZaJ _ _).mono ?_;rintro e w' ⟨rfl,hb⟩))
   go_ret;exact⟨rfl,(HW _ _).o.trans (hb.mono (HW _ _).o.size)⟩
theorem Zib (a a1:Option Addr) (cap cap1 n m:Nat) :
 Calls prog 288 #[.agg #[.string kd,.slice a1 m cap1],.agg #[.string kind,.string nm,.string team,.slice a n cap,.bool en,hv,.int .i64 ver]] w
  fun e w'=>e=.returned (Zn3 (decide (n=m)))/\Zw_ w w':=by
 have HW:∀ o o',Hd (Zw_ w ((w.alloc o).alloc o')):=fun o o'=>(Zb_.alloc Zl_ _).alloc (by simp) _
 by_cases hnm:n=m
 . have hd:decide (n=m)=true:=by simpa using hnm
   have hi:((n:Int) == (m:Int))=true:=by rw [hnm];simp
   rw [hd];clear hnm hd;go_enter func288,ntmps288
   go_wp2_with (first
    | (go_at_call 297;refine (ZaJ _ _).mono ?_;rintro e w' ⟨rfl,hb⟩))
   go_ret;exact⟨rfl,(HW _ _).o.trans (hb.mono (HW _ _).o.size)⟩
 . have hd:decide (n=m)=false:=by simpa using hnm
   have hi:((n:Int) == (m:Int))=false:=by simp;omega
   rw [hd];clear hnm hd;go_enter func288,ntmps288
   go_wp2_with (first
    | (go_at_call 297;refine (ZaJ _ _).mono ?_;rintro e w' ⟨rfl,hb⟩))
   go_ret;exact⟨rfl,(HW _ _).o.trans (hb.mono (HW _ _).o.size)⟩
theorem Zhf (hH:Zaf w hv Ho) :
 Calls prog 289 #[.agg #[.string kd,fv],.agg #[.string kind,.string nm,.string team,vv,.bool en,hv,.int .i64 ver]] w
  fun e w'=>e=.returned (Zn3 (decide (Ho.length<=3)&&Zm8 Ho))/\Zw_ w w':=by
 have HW:∀ o o',Hd (Zw_ w ((w.alloc o).alloc o')):=fun o o'=>(Zb_.alloc Zl_ _).alloc (by simp) _
 have HH:=Zab hH
 obtain⟨a,cap,rfl⟩:∃ a cap,hv=.slice a Ho.length cap:=by
  rcases hH with ⟨a,cap,h,rfl⟩ | ⟨b,off,cap,h,_⟩
  . exact⟨_,_,h⟩
  . exact⟨_,_,h⟩
 clear hH
 by_cases h3:Ho.length<=3
 . have hd:decide (Ho.length<=3)=true:=by simpa using h3
   have hi:(Ho.length:Int)<=3:=by omega
   rw [hd,Bool.true_and];generalize hB:Zm8 Ho=B;have HB:=Zab hB;clear h3 hd hB;go_enter func289,ntmps289;go_wp2_with fail;refine (ZfU _ Ho _ (HH.o.below (HW _ _).o)).mono ?_;rintro e w1 ⟨rfl,hb1⟩;have HB1:Hd (Zw_ w w1):=by rw [hb1];exact (HW _ _).o
   rw [HB.o];subst hb1;go_wp2_with fail;refine (ZaJ _ _).mono ?_;rintro e w' ⟨rfl,hb⟩;have HB2:Hd (Zw_ w w'):=HB1.o.trans (hb.mono HB1.o.size);clear hb;go_wp2;go_ret;exact⟨rfl,HB2.o⟩
 . have hd:decide (Ho.length<=3)=false:=by simpa using h3
   have hi:¬ (Ho.length:Int)<=3:=by omega
   rw [hd,Bool.false_and];clear h3 hd;go_enter func289,ntmps289
   go_wp2_with (first
    | (go_at_call 297;refine (ZaJ _ _).mono ?_;rintro e w' ⟨rfl,hb⟩))
   go_ret;exact⟨rfl,(HW _ _).o.trans (hb.mono (HW _ _).o.size)⟩
theorem Zgf :
 Calls prog 290 #[.agg #[.string kd,fv],.agg #[.string kind,.string nm,.string team,vv,.bool en,hv,.int .i64 ver]] w
  fun e w'=>e=.returned (Zn3 (inB 0 1000000 ver))/\Zw_ w w':=by
 have HW:∀ o o',Hd (Zw_ w ((w.alloc o).alloc o')):=fun o o'=>(Zb_.alloc Zl_ _).alloc (by simp) _
 by_cases h0:0<=ver
 . by_cases h1:ver<=1000000
   . have hd:inB 0 1000000 ver=true:=by simp [inB];omega
     rw [hd];clear hd;go_enter func290,ntmps290
     go_wp2_with (first
      | (go_at_call 297;refine (ZaJ _ _).mono ?_;rintro e w' ⟨rfl,hb⟩))
     go_ret;exact⟨rfl,(HW _ _).o.trans (hb.mono (HW _ _).o.size)⟩
   . have hd:inB 0 1000000 ver=false:=by simp [inB];omega
     rw [hd];clear hd;go_enter func290,ntmps290
     go_wp2_with (first
      | (go_at_call 297;refine (ZaJ _ _).mono ?_;rintro e w' ⟨rfl,hb⟩))
     go_ret;exact⟨rfl,(HW _ _).o.trans (hb.mono (HW _ _).o.size)⟩
 . have hd:inB 0 1000000 ver=false:=by simp [inB];omega
   rw [hd];clear hd;go_enter func290,ntmps290
   go_wp2_with (first
    | (go_at_call 297;refine (ZaJ _ _).mono ?_;rintro e w' ⟨rfl,hb⟩))
   go_ret;exact⟨rfl,(HW _ _).o.trans (hb.mono (HW _ _).o.size)⟩
end
end Go.Proofs.YtmappejlmapboaaGreat
