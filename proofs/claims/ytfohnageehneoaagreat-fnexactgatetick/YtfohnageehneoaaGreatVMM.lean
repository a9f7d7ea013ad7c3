import Derived.Test.YtfohnageehneoaaGreatVA1
import Derived.Maps.Own
import Derived.Maps.Views
import Derived.WideKeyEntry
import Derived.DeepKeys4
import Derived.Maps.RangeWalk
import Derived.Maps.OwnOps
set_option maxHeartbeats 16000000
set_option maxRecDepth 100000
open Go.Proofs.Tryz
namespace Go.Proofs.YtfohnageehneoaaGreat
open Go.RowKit Go.Deep Go.Maps Go.ChangeMaps Go.MapKept
open Go.WideElems (Fit)
theorem ZdJ {H:Type} {P:Program} {w w':World} {k:TypeId} {R:Value→Option (DataW H×List MemPlace)} {b n:Nat} {D:DataW H} (h:w.ownsMap P k R b n D) (hb:w'.heap[b]?=w.heap[b]?):w'.ownsMap P k R b n D:=by
 obtain⟨es,clock,h1,h2,h3,h4⟩:=h;exact⟨es,clock,hb.trans h1,h2,h3,h4⟩
theorem ZjO {H:Type} {P:Program} {w:World} {t k e:TypeId} {q:IntKind} (L:WideMaps.KeyLaw P k) (ht:P.underlying t=some (.map k e)) (he:P.underlying e=some (.int q))
 (hz:∀ u:World,(zeroValue e).run P u=.ok (.int q 0) u) {b n:Nat} {D:DataW H} (h:w.ownsMap P k (plainElem P e) b n D) (hn:n < maxLen) {key:Value} {kl:Lit} (hkey:keyOf P k key=some kl) :
 ∃ (c:Int) (v0:Value) (st:Nat) (w1:World),(Instr.mapEntry t (.map (some b)) key).run P w=.ok (.tuple #[v0,goInt st]) w1∧D.atKey kl (.lit (.int q 0))=.lit (.int q c)∧(Lit.int q c).wf=true∧
  (Instr.lookup t (.map (some b)) key false).run P w=.ok (.int q c) w∧(Instr.lookup t (.map (some b)) key false).run P w1=.ok (.int q c) w1∧w.grownBy w1 (some b)∧w1.heap.size=w.heap.size∧
  ∀ (val:Int),(Lit.int q val).wf=true→∃ w2,(Instr.entryStore t (.map (some b)) (goInt st) (.int q val)).run P w1=.ok () w2∧w2.ownsMap P k (plainElem P e) b (n+1) (D.put kl (.lit (.int q val)))∧w.grownBy w2 (some b)∧w2.heap.size=w.heap.size:=by
 have K:Keyed P k:=Keyed.of_law L;have hw0:(Lit.int q 0).wf=true:=by cases q <;> decide
 obtain⟨c,hl,hat,hwc⟩:=h.lookup_int K ht he (hz w) hkey;have hup:=h.update K ht hn hkey (plainElem_int (H:=H) he hw0);have hups:∀ val:Int,(Lit.int q val).wf=true→_:=fun val hv=>h.update K ht hn hkey (plainElem_int (H:=H) he hv)
 have h':=h;obtain⟨es,clock,hb,F,hs,hD⟩:=h;obtain⟨v0,st,es1,clock1,hrun,-,hst⟩:=WideElems.entry_then_store L ht hz hb F hkey;have hone:(setBlock w b (.map es1 clock1)).heap[b]?=some (.map es1 clock1):=heap_setBlock_same hb _;have hgr:∀ o,w.grownBy (setBlock w b o) (some b):=fun o=>⟨rfl,rfl,rfl,by simp [setBlock],fun i _ hi=>heap_setBlock_other hb _ (fun e=>hi (by rw [e]))⟩
 have hlook:(Instr.lookup t (.map (some b)) key false).run P (setBlock w b (.map es1 clock1))=.ok (.int q c) (setBlock w b (.map es1 clock1)):=by
  rcases L.find w hkey es.toList F.keys with ⟨h1,h2⟩ | ⟨j,e0,h1,h2,h3⟩
  · have hm:(Instr.mapEntry t (.map (some b)) key).run P w=.ok (.tuple #[.int q 0,goInt clock]) (setBlock w b (.map (es.push ⟨key,.int q 0,clock⟩) (clock+1))):=by
     simp [Instr.mapEntry,run_underlying ht,MapKept.run_getObj_map hb,L.check w false hkey,h1,hz,MapKept.run_setObj_map _ hb,Result.andThen,setBlock]
    have hu:(Instr.mapUpdate t (.map (some b)) key (.int q 0)).run P w=.ok () (setBlock w b (.map (es.push ⟨key,.int q 0,clock⟩) (clock+1))):=by
     simp [Instr.mapUpdate,run_underlying ht,MapKept.run_getObj_map hb,L.check w false hkey,h1,MapKept.run_setObj_map _ hb,Result.andThen,setBlock]
    obtain⟨w',hr',ho',-⟩:=hup;rw [hu] at hr';rw [hm] at hrun;have e1:setBlock w b (.map (es.push ⟨key,.int q 0,clock⟩) (clock+1))=setBlock w b (.map es1 clock1):=by injection hrun
    have e2:setBlock w b (.map (es.push ⟨key,.int q 0,clock⟩) (clock+1))=w':=by injection hr'
    rw [← e2,e1] at ho';obtain⟨c',hl',hat',-⟩:=ho'.lookup_int K ht he (hz _) hkey
    have hc0:c=0:=by
     have hlk:(Instr.lookup t (.map (some b)) key false).run P w=.ok (.int q 0) w:=by
      simp [Instr.lookup,run_underlying ht,MapKept.run_getObj_map hb,L.check w _ hkey,h1,hz,Result.andThen]
     rw [hl] at hlk;injection hlk with e
     injection e
    rw [atKey_put_same (by rw [hD];exact⟨_,rfl⟩) (K.key hkey)] at hat'
    have:c'=0:=by
     injection hat' with e
     injection e with _ e
     exact e.symm
    rw [hc0,← this];exact hl'
  · have hj:es[j]?=some e0:=by simpa using h2
    have hsame:es.modify j (fun e=>{ e with key:=key })=es:=by
     apply Array.ext';rw [Array.toList_modify];apply List.ext_getElem?;intro i;rw [List.getElem?_modify]
     by_cases ij:j=i
     · subst ij
       rw [h2];simp [← h3]
     · simp [ij]
    have hm:(Instr.mapEntry t (.map (some b)) key).run P w=.ok (.tuple #[e0.val,goInt e0.born]) (setBlock w b (.map es clock)):=by
     simp [Instr.mapEntry,run_underlying ht,MapKept.run_getObj_map hb,L.check w false hkey,h1,hj,h3,L.stays w hkey,hsame,MapKept.run_setObj_map _ hb,Result.andThen,setBlock]
    rw [hm] at hrun;have e1:setBlock w b (.map es clock)=setBlock w b (.map es1 clock1):=by injection hrun
    have ho:(setBlock w b (.map es1 clock1)).ownsMap P k (plainElem P e) b n D:=by
     rw [← e1];exact ZdJ h' ((heap_setBlock_same hb _).trans hb.symm)
    obtain⟨c',hl',hat',-⟩:=ho.lookup_int K ht he (hz _) hkey;rw [hat] at hat'
    have:c=c':=by
     injection hat' with e
     injection e with _ e
    rw [this];exact hl'
 refine⟨c,v0,st,_,hrun,hat,hwc,hl,hlook,hgr _,by simp [setBlock],fun val hv=>?_⟩;obtain⟨es',clock',hrs,hmu⟩:=hst _ (.int q val) hone;obtain⟨w',hr',ho',hg'⟩:=hups val hv;rw [hmu] at hr';have e2:setBlock w b (.map es' clock')=w':=by injection hr'
 refine⟨_,hrs,ZdJ ho' ?_,?_,by simp [setBlock]⟩
 · rw [heap_setBlock_same hone,← e2,heap_setBlock_same hb]
 · exact (hgr _).trans ⟨rfl,rfl,rfl,by simp [setBlock],fun i _ hi=>heap_setBlock_other hone _ (fun e=>hi (by rw [e]))⟩
end Go.Proofs.YtfohnageehneoaaGreat
namespace Go.Proofs.YtfohnageehneoaaGreat
open Go.RowKit Go.Deep Go.Maps Go.ChangeMaps Go.MapKept
def Zfc (a b:Zy_):Lit:=.string (keyBytes [.string a.data.toList,.string b.data.toList])
structure ZeY (P:Program) (k s:TypeId):Prop where
 ex:∃ f0 f1:Field,P.underlying k=some (.struct #[f0,f1])∧f0.type=s∧f1.type=s∧f0.offset=0∧f1.offset=1∧f0.name≠ "_"∧f1.name≠ "_"
 ty:P.keyType k=true
 cs:P.cellsOf k=2
 st:P.underlying s=some .string
 one:P.cellsOf s=1
 sz:0 < P.types.size
theorem ZeY.mk' {P:Program} {k s:TypeId} (h:ZeY P k s) {a b:Zy_} (ha:a.size≤maxLen) (hb:b.size≤maxLen):keyOf P k (.agg #[.string a,.string b])=some (Zfc a b):=by
 obtain⟨f0,f1,hu,h0,h1,o0,o1,n0,n1⟩:=h.ex;obtain⟨n,hn⟩:∃ n,P.types.size=n+1:=⟨P.types.size - 1,by have:=h.sz;omega⟩
 simp [keyOf,hu,h.ty,Value.formed,h.cs,hn,Program.keyLits,h.st,h.one,Value.cells,ha,hb,Zfc,h0,h1,o0,o1,n0,n1]
theorem ZeY.wide {P:Program} {k s:TypeId} (h:ZeY P k s):(match P.underlying k with | some (.array _ _) | some (.struct _)=>true | _=>false)=true:=by
 obtain⟨f0,f1,hu,-⟩:=h.ex;rw [hu]
theorem ZlH {P:Program} {s:TypeId} (hs:P.underlying s=some .string) {d:Nat} {cs:List Value} {L:List Lit} (h:P.keyLits (d+1) s cs=some L):∃ a:Zy_,cs=[.string a]∧L=[.string a.data.toList]∧a.size≤maxLen:=by
 unfold Program.keyLits at h;rw [hs] at h
 split at h <;> simp_all
theorem ZeY.inv {P:Program} {k s:TypeId} (h:ZeY P k s) {key:Value} {kl:Lit} (hk:keyOf P k key=some kl):∃ a b:Zy_,key=.agg #[.string a,.string b]∧kl=Zfc a b∧a.size≤maxLen∧b.size≤maxLen:=by
 obtain⟨f0,f1,hu,h0,h1,o0,o1,n0,n1⟩:=h.ex;obtain⟨n,hn⟩:∃ n,P.types.size=n+1:=⟨P.types.size - 1,by have:=h.sz;omega⟩
 obtain⟨xs,L,rfl,hL,rfl⟩:=keyOf_top h.wide hk;obtain⟨xs⟩:=xs;rw [hn] at hL;unfold Program.keyLits at hL;rw [hu] at hL;simp only [h.cs] at hL
 split at hL
 · rename_i hc
   obtain⟨hl,-⟩:=hc
   match xs,hl with
   | [c0,c1],_=>
    simp only [List.mapM_cons,List.mapM_nil,h0,h1,o0,o1,h.one,List.drop_zero,List.take_succ_cons,List.take_zero,List.drop_succ_cons,Option.map_eq_some_iff] at hL;obtain⟨M,hM,rfl⟩:=hL
    cases e0:P.keyLits (n+1) s [c0] with
    | none=>simp [e0] at hM
    | some L0=>
     cases e1:P.keyLits (n+1) s [c1] with
     | none=>simp [e0,e1] at hM
     | some L1=>
      obtain⟨a,ea,rfl,sa⟩:=ZlH h.st e0;obtain⟨b,eb,rfl,sb⟩:=ZlH h.st e1;injection ea with ea
      injection eb with eb
      subst ea eb;simp [e0,e1] at hM;subst hM;exact⟨a,b,rfl,rfl,sa,sb⟩
 · cases hL
theorem ZeY.inj {P:Program} {k s:TypeId} (h:ZeY P k s) (K:WideMaps.KeyLaw P k) {a b a' b':Zy_} (ha:a.size≤maxLen) (hb:b.size≤maxLen) (ha':a'.size≤maxLen) (hb':b'.size≤maxLen) (e:Zfc a b=Zfc a' b'):a=a'∧b=b':=by
 have e:=K.inj (h.mk' ha hb) (e ▸ h.mk' ha' hb')
 simpa using e
theorem ZgS:ZeY prog 268 9:=
 ⟨⟨_,_,underlying268,rfl,rfl,rfl,rfl,by decide,by decide⟩,by kernel_rfl,by kernel_rfl,underlying9,by kernel_rfl,of_decide_eq_true (by kernel_rfl)⟩
theorem Zoe:laidOutB prog=true:=by kernel_rfl
theorem Zsy:(268:TypeId) < prog.types.size:=of_decide_eq_true (by kernel_rfl)
theorem Ztd:prog.keyTypeAt 2 268=true:=by kernel_rfl
theorem ZlT:WideMaps.KeyLaw prog 268:=deep_law_laid Zoe (by decide) Zsy Ztd ZgS.wide
theorem Zi6:Keyed prog 268:=Keyed.of_law ZlT
theorem ZiW (w:World):(zeroValue 3).run prog w=.ok (.int .i64 0) w:=by kernel_rfl
end Go.Proofs.YtfohnageehneoaaGreat
