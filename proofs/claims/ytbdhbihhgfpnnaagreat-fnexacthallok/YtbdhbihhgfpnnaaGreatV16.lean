import Derived.Test.YtbdhbihhgfpnnaaGreatV13
import Derived.Test.YtbdhbihhgfpnnaaGreatV14
import Derived.Test.YtbdhbihhgfpnnaaGreatV15
import Derived.Deep.MidRow
import Derived.Deep.DeepCutAuto
open Go.Proofs.Tryz
namespace Go.Proofs.YtbdhbihhgfpnnaaGreat
open Go.RowKit Go.Deep
section
variable {gs:List Gr}
def ZpQ (Ts:List Tm):Prop:=Ts.length<=1048576
theorem ZaZ.set {lo:Nat}{w:World}{v:Value}{Ts:List Tm} (h:ZaZ lo w v Ts) {p:Addr} (hp:p.block < lo) (u:Value):ZaZ lo (w.setCell p u) v Ts:=h.setCell hp u
def ZdO (i:Nat) (g:Gr):Bool:=decide (g.nu=(i:Int)+1)&&Zan g.tw&&g.gb.toList.isEmpty&&ZaT g.ru
def Znz (gs:List Gr) (i:Nat):Bool:=match gs[i]? with
 | some g=>ZdO i g
 | none=>true
theorem Zjd {i:Nat} (h:i < gs.length):Znz gs i=ZdO i gs[i]:=by
 unfold Znz;rw [List.getElem?_eq_getElem h]
def ZeK (gs:List Gr):Bool:=(List.range gs.length).all (Znz gs)
theorem Zje {m:Nat} (hm:m < gs.length) (h:ZdO m gs[m]=false):ZeK gs=false:=ZaC hm ((Zjd hm).trans h)
theorem Zhz (h:∀ j (h:j < gs.length),ZdO j gs[j]=true):ZeK gs=true:=ZaH fun i hi=>(Zjd hi).trans (h i hi)
end
theorem Zc1 {w w':World}{m b o:Nat}{cs:List Value} (h:w.rangeAt b o cs) (hb:Below m w w') (hlt:b < m):w'.rangeAt b o cs:=fun j v hv=>by
 rw [hb.cell (p:=⟨b,o+j,none⟩) hlt];exact h j v hv
theorem Za3 {P:Program}{ops:Array Oper}{C:World->Prop}{Q:Act->Prop}{a:Act}{o:Oper}{rest:List Oper} (hw:Region.wanted o (yielded ops a.tmps)=true) (ty:TypeId) (x:Operand) (ho:o.op=.load ty x)
 (b off:Nat) (hx:a.eval x=.pointer (some ⟨b,off,none⟩)) (cs:List Value) (d:TypeDesc) (hC:∀ w,C w->w.rangeAt b off cs)
 (hu:P.underlying ty=some d) (hd:d.isRow=true) (hi:(P.info? ty).map (·.size)=some cs.length)
 (h:wpQuiet P ops C Q rest (a.put o.dst (.agg cs.toArray))):wpQuiet P ops C Q (o :: rest) a:=
 BigFrame.wpQuiet_want hw fun K hK=>⟨.agg cs.toArray,fun w hw'=>by
  unfold Oper.quietAt execOp;simp only [ho,hx,Instr.loadAt,Instr.sureAddr,Sem.run_bind,Sem.run_pure,Result.andThen_ok,run_loadVar_mid w b off ty cs d (hC w hw') hu hd hi,Oper.quietUpon,and_self],hK _ h⟩
structure In (C:World->Prop) where
 w:World
 h:C w
theorem Zal {P:Program}{id:Nat}{Q:Exit->Act->World->Prop}{a:Act}{w:World}{l:List Oper} (C:World->Prop) (hm:P.follows .mixedOrders=true) (hB:Region.lexB .any l.toArray=true) (hC:C w.drew)
 (h:wpQuiet P l.toArray (fun w'=>∃ X:In C,w'=X.w) (fun a'=>∀ w',(∃ X:In C,w'=X.w)->Q .normal a' w') l a):(Code.region id l.toArray true).wp P Q a w:=
 wp_region_quiet (C:=fun w'=>∃ X:In C,w'=X.w) hm hB ⟨⟨_,hC⟩,rfl⟩ (by simpa using h)
theorem Zb4 {C:World->Prop} (X:In C):(∃ Y:In C,X.w=Y.w)=True:=eq_true ⟨X,rfl⟩
structure Lw where
 sh:List Sh
 md:List Md
 tm:List Tm
structure ZrJ (lo:Nat) (w:World) (v0 v1 v2:Value) (U:Lw):Prop where
 l0:Zba lo w v0 U.sh
 l1:ZbY lo w v1 U.md
 l2:ZaZ lo w v2 U.tm
theorem ZrJ.mono {lo lo':Nat}{w:World}{v0 v1 v2:Value}{U:Lw} (h:ZrJ lo w v0 v1 v2 U) (hl:lo'<=lo):ZrJ lo' w v0 v1 v2 U:=⟨h.l0.mono hl,h.l1.mono hl,h.l2.mono hl⟩
def lwL (U:Lw) (a0:Option Addr) (k0:Nat) (a1:Option Addr) (k1:Nat) (a2:Option Addr) (k2:Nat):List Value:=[.slice a0 U.sh.length k0,.slice a1 U.md.length k1,.slice a2 U.tm.length k2]
def LwC (lo:Nat) (w:World) (cs:List Value) (U:Lw):Prop:=∃ a0 k0 a1 k1 a2 k2,cs=lwL U a0 k0 a1 k1 a2 k2/\ZrJ lo w (.slice a0 U.sh.length k0) (.slice a1 U.md.length k1) (.slice a2 U.tm.length k2) U
theorem Zaf.in' {lo hi:Nat}{w:World}{v:Value}{L:List Zy_} (h:Zaf lo hi w v L):Zas lo w v L:=by
 rcases h with h | ⟨g,off,cap,h1,h2,h3,h4,h5,h6,h7,h8,h9⟩
 . exact Or.inl h
 . exact Or.inr ⟨g,off,cap,h1,h2,h3,h4,h5,h6,h7⟩
theorem Zee {Fs:List Fd}{nm team:Zy_}{V Ho:List Zy_}{ver:Int} (h:(ZaS Fs nm team V Ho ver).1=0):V.length=Fs.length:=by
 unfold ZaS at h
 by_cases hb:Zj5 Fs nm team V Ho ver=true
 . unfold Zj5 at hb;simp at hb;exact hb.2.1
 . rw [if_neg hb] at h;exact absurd h (by decide)
theorem ZlU {r:Int×Int} (h:r.1=0):Zkl r=.nilIface:=if_pos h
theorem ZlV {r:Int×Int} (h:¬ r.1=0):Zkl r=.iface 348 (.agg #[.int .i64 r.1,.int .i64 r.2]):=if_neg h
end Go.Proofs.YtbdhbihhgfpnnaaGreat
