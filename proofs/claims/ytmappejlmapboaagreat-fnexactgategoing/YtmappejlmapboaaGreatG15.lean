import Derived.Test.YtmappejlmapboaaGreatG13
import Derived.Test.YtmappejlmapboaaGreatG14
import Derived.Sort.Walk0
import Derived.Deep.RegionHeld3
set_option maxHeartbeats 16000000
set_option maxRecDepth 100000
open Go.Proofs.Tryz
namespace Go.Proofs.YtmappejlmapboaaGreat
section
open Go.RowKit Go.Deep
def ZcE (a b:Zy_):Int:=if Op.bytesLess a.toList b.toList=true then -1 else if (a.toList == b.toList)=true then 0 else 1
theorem Zly (a:List UInt8):Op.bytesLess a a=false:=by rw [bytesLess_eq];exact decide_eq_false (List.lt_irrefl _)
theorem Znp {a b c:List UInt8} (h:Op.bytesLess a b=true) (h':Op.bytesLess b c=true):Op.bytesLess a c=true:=by
 rw [bytesLess_eq] at h h' |-;exact decide_eq_true (List.lt_trans (of_decide_eq_true h) (of_decide_eq_true h'))
theorem ZoM (a:Zy_):ZcE a a=0:=by unfold ZcE;simp [Zly]
theorem Zew {a b:Zy_}:ZcE a b=0↔a=b:=by
 refine⟨fun h=>?_,fun h=>by rw [h];exact ZoM _⟩;unfold ZcE at h
 split at h
 . omega
 . split at h
   . rename_i h2
     exact ZaA.1 h2
   . omega
theorem Zi4 {a b:Zy_}:ZcE a b < 0↔Op.bytesLess a.toList b.toList=true:=by
 unfold ZcE
 split
 . rename_i h;simp [h]
 . rename_i h
   split <;> simp [h]
theorem ZrW (a b:Zy_):-1<=ZcE a b/\ZcE a b<=1:=by unfold ZcE;split <;> (try split) <;> omega
def orI (a b:Int):Int:=if a=0 then b else a
def Zfd (a b c d:Zy_):Int:=orI (ZcE a c) (ZcE b d)
def ZmP (a b c d e f:Zy_):Int:=orI (ZcE a d) (orI (ZcE b e) (ZcE c f))
theorem Zrm {a b:Int}:orI a b=0↔a=0/\b=0:=by unfold orI;split <;> omega
theorem Zhv (a b:Zy_) (w:World) :
 Calls prog 172 #[.string a,.string b] w fun e w'=>e=.returned (.int .i64 (ZcE a b))/\w'=w:=by
 cases h1:Op.bytesLess a.toList b.toList with
 | true=>
  have HE:Hd (ZcE a b= -1):=by unfold Hd ZcE;rw [h1];rfl
  go_enter func172,ntmps172;go_wp2;go_ret;exact⟨ZaD HE.o.symm,rfl⟩
 | false=>
  cases h2:(a.toList == b.toList) with
  | true=>
   have HE:Hd (ZcE a b=0):=by unfold Hd ZcE;rw [h1,h2];rfl
   go_enter func172,ntmps172;go_wp2;go_ret;exact⟨ZaD HE.o.symm,rfl⟩
  | false=>
   have HE:Hd (ZcE a b=1):=by unfold Hd ZcE;rw [h1,h2];rfl
   go_enter func172,ntmps172;go_wp2;go_ret;exact⟨ZaD HE.o.symm,rfl⟩
theorem Zjq (a:Zy_) (w:World):Calls prog 270 #[.string a] w fun e w'=>e=.returned (.bool false)/\w'=w:=by
 have h:=Zc1 a;go_enter func270,ntmps270;go_wp2;go_ret;exact⟨rfl,rfl⟩
theorem Zgb (a b:Zy_) (w:World) :
 Calls prog 240 #[.string a,.string b] w fun e w'=>e=.returned (.int .i64 (ZcE a b))/\w'=w:=by
 cases h1:Op.bytesLess a.toList b.toList with
 | true=>
  have HE:Hd (ZcE a b= -1):=by unfold Hd ZcE;rw [h1];rfl
  go_enter func240,ntmps240;go_wp2_with (go_at_call 270;refine (Zjq _ _).mono ?_;rintro e w' ⟨rfl,rfl⟩);go_ret;exact⟨ZaD HE.o.symm,rfl⟩
 | false=>
  cases h2:(a.toList == b.toList) with
  | true=>
   have HE:Hd (ZcE a b=0):=by unfold Hd ZcE;rw [h1,h2];rfl
   go_enter func240,ntmps240;go_wp2_with (go_at_call 270;refine (Zjq _ _).mono ?_;rintro e w' ⟨rfl,rfl⟩);go_ret;exact⟨ZaD HE.o.symm,rfl⟩
  | false=>
   have HE:Hd (ZcE a b=1):=by unfold Hd ZcE;rw [h1,h2];rfl
   go_enter func240,ntmps240;go_wp2_with (go_at_call 270;refine (Zjq _ _).mono ?_;rintro e w' ⟨rfl,rfl⟩);go_ret;exact⟨ZaD HE.o.symm,rfl⟩
theorem Zdc (a b c d:Zy_) (w:World) :
 Calls prog 128 #[.string a,.string b,.string c,.string d] w fun e w'=>e=.returned (.int .i64 (Zfd a b c d))/\w'=w:=by
 have hk:=ZrW a c
 by_cases h0:ZcE a c=0
 . have HE:Hd (Zfd a b c d=ZcE b d):=by unfold Hd Zfd orI;rw [if_pos h0]
   have h0':(ZcE a c != 0)=false:=by simp [h0]
   have H0:=Zab h0;clear h0;go_enter func128,ntmps128;go_wp2_with (go_at_call 172;refine (Zhv _ _ _).mono ?_;rintro e w' ⟨rfl,rfl⟩);go_ret;exact⟨ZaD HE.o.symm,rfl⟩
 . have HE:Hd (Zfd a b c d=ZcE a c):=by unfold Hd Zfd orI;rw [if_neg h0]
   have h0':(ZcE a c != 0)=true:=by simp [h0]
   clear h0;go_enter func128,ntmps128;go_wp2_with (go_at_call 172;refine (Zhv _ _ _).mono ?_;rintro e w' ⟨rfl,rfl⟩);go_ret;exact⟨ZaD HE.o.symm,rfl⟩
end
section
open Go.RowKit Go.Deep
variable {L:List Int} {k:Nat}
def vAt (L:List Int) (i:Nat):Bool:=match L[i]? with
 | none=>false
 | some v=>inB 1 5 v&&(i == 0 || decide ((L[i - 1]?).getD 0 < v))
def Zov (L:List Int):Bool:=decide (0 < L.length)&&(List.range L.length).all (vAt L)
theorem ZfY (h:0 < L.length):vAt L 0=inB 1 5 L[0]:=by unfold vAt;rw [List.getElem?_eq_getElem h];simp
theorem ZcC {j:Nat} (h:j+1 < L.length):vAt L (j+1)=(inB 1 5 L[j+1]&&decide (L[j] < L[j+1])):=by
 unfold vAt;rw [List.getElem?_eq_getElem h,Nat.add_sub_cancel,List.getElem?_eq_getElem (by omega)];simp
theorem ZiU (h:k < L.length) (hb:inB 1 5 L[k]=false):vAt L k=false:=by
 unfold vAt;rw [List.getElem?_eq_getElem h];simp [hb]
theorem ZeL (hk:k < L.length) (h:vAt L k=false):Zov L=false:=by
 unfold Zov;rw [ZaZ hk h];simp
theorem ZhN (hk:L.length<=k) (hall:∀ i,i < k->vAt L i=true):Zov L=decide (0 < L.length):=by
 unfold Zov;rw [Za1 (fun i hi=>hall i (by omega))];simp
def ZaW (r:Ru):Bool:=Zov r.vb&&Zai r.kd&&Zai r.tm&&decide ((r.pf.size:Int)<=16)&&Zf1 Zaw r.pf
end
section
open Go.RowKit Go.Deep
structure In (C:World->Prop) where
 w:World
 h:C w
theorem Za0 {P:Program}{id:Nat}{Q:Exit->Act->World->Prop}{a:Act}{w:World}{l:List Oper} (C:World->Prop) (hm:P.follows .mixedOrders=true) (hB:Region.lexB .any l.toArray=true) (hC:C w.drew)
 (h:wpQuiet P l.toArray (fun w'=>∃ X:In C,w'=X.w) (fun a'=>∀ w',(∃ X:In C,w'=X.w)->Q .normal a' w') l a):(Code.region id l.toArray true).wp P Q a w:=
 wp_region_quiet (C:=fun w'=>∃ X:In C,w'=X.w) hm hB ⟨⟨_,hC⟩,rfl⟩ (by simpa using h)
theorem Zhq {C:World->Prop} (X:In C):(∃ Y:In C,X.w=Y.w)=True:=eq_true ⟨X,rfl⟩
end
open Go.ChangeShapes Go.WideShapes Go.ChangeAt Go.RowKit Go.Deep
variable {fuel:Nat}
theorem Tryz.cells109:prog.cellsOf 109=2:=by kernel_rfl
section
variable {H:Type} {enc:TypeId×Value->H} {W:World}
theorem Zsy {cs:List Value}{x:DataW H×List MemPlace} (h:DataW.trod enc prog W 0 (fun _=>true) true fuel 109 cs=some x) :
 ∃ (m:Tm),cs=[.string m.nm,.string m.ov]/\Zfb m:=by
 obtain⟨xs,n,_,_,hl,hlen,hfld⟩:=DataW.trod_struct underlying109 h;obtain⟨c0,c1,rfl⟩:=Zs7 (hl.trans Tryz.cells109);simp only [Array.size,List.length_cons,List.length_nil] at hlen;have g0:DataW.trod enc prog W 0 (fun _=>true) true n 9 ((([c0,c1]:List Value).drop 0).take (prog.cellsOf 9))=xs[0]?:=hfld 0 _ rfl;have g1:DataW.trod enc prog W 0 (fun _=>true) true n 9 ((([c0,c1]:List Value).drop 1).take (prog.cellsOf 9))=xs[1]?:=hfld 1 _ rfl;simp only [Tryz.cells9,List.drop_succ_cons,List.drop_zero,List.take_succ_cons,List.take_zero] at g0 g1;rw [List.getElem?_eq_getElem (by omega)] at g0 g1;obtain⟨k,e0,_,s0⟩:=DataW.trod_string underlying9 g0;obtain⟨f,e1,_,s1⟩:=DataW.trod_string underlying9 g1;simp only [List.cons.injEq,and_true] at e0 e1;subst e0 e1;exact⟨⟨k,f⟩,rfl,⟨s0,s1⟩⟩
theorem Zrk {c:Value}{x:DataW H×List MemPlace} (h:DataW.trod enc prog W 0 (fun _=>true) true fuel 24 [c]=some x):∃ Ts,Zbk 0 W c Ts:=by
 rcases open_slice underlying24 h with ⟨hcs,_⟩ | ⟨a,len,cap,m,n,D,Pl,hcs,_,hl,hm,hmm,_,hx⟩
 . simp only [List.cons.injEq,and_true] at hcs
   exact⟨[],Or.inl ⟨_,_,hcs,rfl⟩⟩
 . simp only [List.cons.injEq,and_true] at hcs
   simp only [if_true] at hmm;subst hmm;rw [Tryz.cells109] at hx
   by_cases h0:len=0
   . subst h0
     exact⟨[],Or.inl ⟨_,_,hcs,rfl⟩⟩
   . obtain⟨Ts,hF,hall⟩:=ZbI (p:=fun i (m:Tm)=>Zfb m/\W.cells? 0 (a.add (i*2)) 2=some [.string m.nm,.string m.ov]) len (fun i hi=>by
      obtain⟨cs',h1,h2⟩:=hx i (by omega);obtain⟨md,e,hz⟩:=Zsy h2;rw [e] at h1;exact⟨md,hz,h1⟩)
     obtain⟨b,off,spot⟩:=a
     have hspot:spot=none:=by
      obtain⟨_,h1⟩:=hall 0 (by omega);have:=(World.cells?_some h1).2.2 0 (by omega);rw [Nat.zero_mul] at this;have e0:((⟨b,off,spot⟩:Addr).add 0).add 0=⟨b,off,spot⟩:=by simp [Addr.add]
      rw [e0] at this
      simpa using World.cell?_spot (by simpa using this)
     subst hspot
     have hcell:∀ i (hi:i < Ts.length),W.cells? 0 ((⟨b,off,none⟩:Addr).add (i*2)) 2=some [.string Ts[i].nm,.string Ts[i].ov]->ZdY W b (off+i*2) Ts[i]:=fun i hi h1=>by
      obtain⟨_,_,hc⟩:=World.cells?_some h1;rw [add_plain] at hc;have q:=fun j (hj:j < 2)=>(add_plain b (off+i*2) j) ▸ hc j hj
      exact⟨by simpa using q 0 (by omega),by simpa using q 1 (by omega)⟩
     have hbw:b < W.heap.size:=by
      obtain⟨_,h1⟩:=hall 0 (by omega);exact World.block_lt_of_cell? W _ (hcell 0 (by omega) h1).c0
     refine⟨Ts,Or.inr ⟨b,off,m,by rw [hcs,hF],?_,by omega,hbw,Nat.zero_le _,by omega,fun i hi=>?_⟩⟩
     . intro e;rw [e] at hF;simp at hF;omega
     . obtain⟨hz,h1⟩:=hall i hi
       exact⟨hz,hcell i hi h1⟩
end
end Go.Proofs.YtmappejlmapboaaGreat
