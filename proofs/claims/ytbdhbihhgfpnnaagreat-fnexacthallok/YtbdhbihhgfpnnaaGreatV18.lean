import Derived.Test.YtbdhbihhgfpnnaaGreatV16
import Derived.Deep.MidRow
import Derived.DeepKeys4
import Derived.Maps.RangeWalk
import Derived.Maps.OwnOps
set_option maxHeartbeats 16000000
set_option maxRecDepth 100000
open Go.Proofs.Tryz
namespace Go.Proofs.YtbdhbihhgfpnnaaGreat
section
open Go.RowKit Go.Deep
variable {lo lo':Nat} {w w':World} {v0 v1:Value} {cs:List Value}
structure Ho where
 tm:List Tm
 gr:List Gr
variable {U:Ho}
def Zdy (U:Ho):Prop:=ZpQ U.tm/\Zf1 U.gr
structure Zp9 (lo:Nat) (w:World) (v0 v1:Value) (U:Ho):Prop where
 l0:ZaZ lo w v0 U.tm
 l1:ZbG lo w v1 U.gr
theorem Zp9.below (h:Zp9 lo w v0 v1 U) (hb:Zw_ w w'):Zp9 lo w' v0 v1 U:=⟨h.l0.below hb,h.l1.below hb⟩
theorem Zp9.mono (h:Zp9 lo w v0 v1 U) (hl:lo'<=lo):Zp9 lo' w v0 v1 U:=⟨h.l0.mono hl,h.l1.mono hl⟩
def hoL (U:Ho) (a0:Option Addr) (k0:Nat) (a1:Option Addr) (k1:Nat):List Value:=[.slice a0 U.tm.length k0,.slice a1 U.gr.length k1]
def HoC (lo:Nat) (w:World) (cs:List Value) (U:Ho):Prop:=∃ a0 k0 a1 k1,cs=hoL U a0 k0 a1 k1/\Zp9 lo w (.slice a0 U.tm.length k0) (.slice a1 U.gr.length k1) U
theorem HoC.below (h:HoC lo w cs U) (hb:Zw_ w w'):HoC lo w' cs U:=by
 obtain⟨a0,k0,a1,k1,h1,h2⟩:=h;exact⟨a0,k0,a1,k1,h1,h2.below hb⟩
theorem HoC.mono (h:HoC lo w cs U) (hl:lo'<=lo):HoC lo' w cs U:=by
 obtain⟨a0,k0,a1,k1,h1,h2⟩:=h;exact⟨a0,k0,a1,k1,h1,h2.mono hl⟩
theorem Zsp (lo:Nat) (cs:List Value) (U:Ho) (left:Int) (w:World) (h0:0<=left) (h1:left<=1048576) (h:HoC lo w cs U) :
 Calls prog 4 #[.agg cs.toArray,.int .i64 left] w
  fun e w'=>∃ r:Int,e=.returned (.int .i64 r)/\Zw_ w w'/\-1<=r/\r<=left/\(0<=r->Zdy U):=by
 obtain⟨a0,k0,a1,k1,rfl,h⟩:=h
 show Calls prog 4 #[.agg #[.slice a0 U.tm.length k0,.slice a1 U.gr.length k1],.int .i64 left] w _
 have HL:=Zab h;clear h;go_enter func4,ntmps4;go_wp2_with fail;generalize hWa:w.alloc _=Wa;have HB:Hd (Zw_ w Wa):=by unfold Hd;rw [<- hWa];exact Zac _ _
 have FX:Hd (Box Wa w.heap.size #[.slice a0 U.tm.length k0,.slice a1 U.gr.length k1]):=by unfold Hd;rw [<- hWa];exact Box.new _ _ _ _ rfl
 clear hWa;refine (Zoo lo _ U.tm _ _ (by omega) (by omega) ((HL.o.below HB.o).l0)).mono ?_;rintro e w0 ⟨q0,rfl,hb,p0a,p0b,p0c⟩;have Q0:=Zab p0c;replace HB:=Zab (bt HB.o hb);replace FX:=Zab (FX.o.on hb);clear hb p0c
 by_cases m0:q0 < 0
 . go_wp2
   go_ret;exact⟨-1,rfl,HB.o,by omega,by omega,fun h=>by omega⟩
 have g0:=FX.o.cell;go_wp2_with fail;clear g0;refine (ZjU lo _ U.gr _ _ (by omega) (by omega) ((HL.o.below HB.o).l1)).mono ?_;rintro e w1 ⟨q1,rfl,hb,p1a,p1b,p1c⟩;have Q1:=Zab p1c;replace HB:=Zab (bt HB.o hb);replace FX:=Zab (FX.o.on hb);clear hb p1c
 by_cases m1:q1 < 0
 . go_wp2
   go_ret;exact⟨-1,rfl,HB.o,by omega,by omega,fun h=>by omega⟩
 go_wp2;go_ret;exact⟨_,rfl,HB.o,by omega,by omega,fun h=>⟨(by have:=Q0.o (by omega);unfold ZpQ;omega),Q1.o (by omega)⟩⟩
theorem ZrR (lo lo':Nat) (cs cs':List Value) (U:Ho) (w:World) (h:HoC lo w cs U) (h':HoC lo' w cs' U) :
 Calls prog 10 #[.agg cs.toArray,.agg cs'.toArray] w fun e w'=>e=.returned (.bool true)/\Zw_ w w':=by
 obtain⟨a0,k0,a1,k1,rfl,h⟩:=h;obtain⟨d0,e0,d1,e1,rfl,h'⟩:=h'
 show Calls prog 10 #[.agg #[.slice a0 U.tm.length k0,.slice a1 U.gr.length k1],.agg #[.slice d0 U.tm.length e0,.slice d1 U.gr.length e1]] w _
 have HL:=Zab h;have HR:=Zab h';clear h h';go_enter func10,ntmps10;go_wp2_with fail;generalize hWa:(World.alloc (w.alloc _) _)=Wa;have HB:Hd (Zw_ w Wa):=by unfold Hd;rw [<- hWa];exact (Zac w _).alloc (by simp) _
 have FX:Hd (Box Wa w.heap.size #[.slice a0 U.tm.length k0,.slice a1 U.gr.length k1]):=by unfold Hd;rw [<- hWa];exact (Box.new _ _ _ _ rfl).on (Zac _ _)
 have FY:Hd (Box Wa (w.heap.size+1) #[.slice d0 U.tm.length e0,.slice d1 U.gr.length e1]):=by unfold Hd;rw [<- hWa];exact Box.new _ _ _ _ (by simp)
 clear hWa;refine (ZlT lo lo' _ _ U.tm _ ((HL.o.below HB.o).l0) ((HR.o.below HB.o).l0)).mono ?_;rintro e w0 ⟨rfl,hb⟩;replace HB:=Zab (bt HB.o hb);replace FX:=Zab (FX.o.on hb);replace FY:=Zab (FY.o.on hb);clear hb;have g0:=FX.o.cell;have g1:=FY.o.cell;go_wp2_with fail;clear g0 g1;refine (Zhy lo lo' _ _ U.gr _ ((HL.o.below HB.o).l1) ((HR.o.below HB.o).l1)).mono ?_;rintro e w1 ⟨rfl,hb⟩;replace HB:=Zab (bt HB.o hb);replace FX:=Zab (FX.o.on hb);replace FY:=Zab (FY.o.on hb);clear hb;have g0:=FX.o.cell;have g1:=FY.o.cell;go_wp2;go_ret;exact⟨rfl,HB.o⟩
theorem Zoy (lo:Nat) (cs:List Value) (U:Ho) (w:World) (h:HoC lo w cs U) (hn:Zdy U) :
 Calls prog 7 #[.agg cs.toArray] w
  fun e w'=>∃ cs',e=.returned (.agg cs'.toArray)/\Zw_ w w'/\HoC w.heap.size w' cs' U:=by
 obtain⟨a0,k0,a1,k1,rfl,h⟩:=h
 show Calls prog 7 #[.agg #[.slice a0 U.tm.length k0,.slice a1 U.gr.length k1]] w _
 have HL:=Zab h;obtain⟨hn0,hn1⟩:=hn;clear h;go_enter func7,ntmps7;go_wp2_with fail
 obtain⟨wz,hwz,FX,FR,FO,HB⟩:∃ wz,wz=((w.alloc (.cells #[.slice a0 U.tm.length k0,.slice a1 U.gr.length k1] 25)).alloc (.cells #[.slice none 0 0,.slice none 0 0] 44)).alloc (.cells #[.slice none 0 0,.slice none 0 0] 44)/\
  Hd (Box wz w.heap.size #[.slice a0 U.tm.length k0,.slice a1 U.gr.length k1])/\Hd (Box wz (w.heap.size+1) #[.slice none 0 0,.slice none 0 0])/\Hd (Box wz (w.heap.size+1+1) #[.slice none 0 0,.slice none 0 0])/\Hd (Zw_ w wz):=
  ⟨_,rfl,((Box.new w _ _ _ rfl).on (Zac _ _)).on (Zac _ _),(Box.new _ _ _ _ (by simp)).on (Zac _ _),Box.new _ _ _ _ (by simp),((Zac _ _).trans ((Zac _ _).mono (by simp))).trans ((Zac _ _).mono (by simp;omega))⟩
 rw [<- hwz];clear hwz;generalize wz=v0 at*;have hz0:w.heap.size+3<=v0.heap.size:=by have:=FO.o.lt;omega
 refine (ZoE lo _ U.tm _ ((HL.o.below HB.o).l0) hn0).mono ?_;rintro e x0 ⟨u,rfl,hb,hs⟩;obtain⟨b0,m0,rfl⟩:=hs.form;have N0:=Zab (hs.mono hz0);replace FX:=Zab (FX.o.on hb);replace FR:=Zab (FR.o.on hb);replace FO:=Zab (FO.o.on hb);replace HB:=Zab (bt HB.o hb);clear hb hs hz0;have g0:=FO.o.cell;have g1:=FO.o.free;have g2:=FX.o.cell;go_wp2_with fail;clear g0 g1 g2
 obtain⟨v1,hwq,GX,GR,GO,GB,GN0⟩:∃ wq,wq=(x0.setCell ⟨w.heap.size+1+1,0,none⟩ (.slice b0 U.tm.length m0))/\Hd (Box wq w.heap.size #[.slice a0 U.tm.length k0,.slice a1 U.gr.length k1])/\Hd (Box wq (w.heap.size+1) #[.slice none 0 0,.slice none 0 0])/\Hd (Box wq (w.heap.size+1+1) #[.slice b0 U.tm.length m0,.slice none 0 0])/\Hd (Zw_ w wq)/\Hd (ZaZ (w.heap.size+3) wq (.slice b0 U.tm.length m0) U.tm):=
  ⟨_,rfl,(FX.o.setFar (by simp only [];omega) _),(FR.o.setFar (by simp only [];omega) _),(FO.o.set (k:=0) (.slice b0 U.tm.length m0) (by simp)),(HB.o.setCell (by simp only [];omega) _),(N0.o.set (by simp only [];omega) _)⟩
 rw [<- hwq];clear hwq FX FR FO HB N0;have FX:=GX;have FR:=GR;have FO:=GO;have HB:=GB;have N0:=GN0;clear GX GR GO GB GN0;have hz1:w.heap.size+3<=v1.heap.size:=by have:=FO.o.lt;omega
 refine (ZjY lo _ U.gr _ ((HL.o.below HB.o).l1) hn1).mono ?_;rintro e x1 ⟨u,rfl,hb,hs⟩;obtain⟨b1,m1,rfl⟩:=hs.form;have N1:=Zab (hs.mono hz1);replace FX:=Zab (FX.o.on hb);replace FR:=Zab (FR.o.on hb);replace FO:=Zab (FO.o.on hb);replace HB:=Zab (bt HB.o hb);replace N0:=Zab (N0.o.below hb);clear hb hs hz1;have g0:=FO.o.cell;have g1:=FO.o.free;have g2:=FR.o.cell;have g3:=FR.o.free;have g4:=FX.o.cell;go_wp2;refine bodyPost_ret (v:=.agg #[.slice b0 U.tm.length m0,.slice b1 U.gr.length m1]) (by simp [results,results7,go_sem,g2]) rfl ⟨hoL U b0 m0 b1 m1,rfl,?_,b0,m0,b1,m1,rfl,⟨?_,?_⟩⟩
 . repeat (refine Below.setCell ?_ (by simp only [];omega) _)
   exact HB.o
 . refine ZaZ.mono (lo:=w.heap.size+3) ?_ (by omega)
   repeat (refine ZaZ.set ?_ (by simp only [];omega) _)
   exact N0.o
 . refine ZbG.mono (lo:=w.heap.size+3) ?_ (by omega)
   repeat (refine ZbG.set ?_ (by simp only [];omega) _)
   exact N1.o
end
section
open Go.RowKit Go.Deep Go.Maps Go.ChangeMaps Go.MapKept
variable {P:Program} {k s:TypeId}
def ZeT (a b:Zy_):Lit:=.string (keyBytes [.string a.data.toList,.string b.data.toList])
structure Zex (P:Program) (k s:TypeId):Prop where
 ex:∃ f0 f1:Field,P.underlying k=some (.struct #[f0,f1])/\f0.type=s/\f1.type=s/\f0.offset=0/\f1.offset=1/\f0.name≠ "_"/\f1.name≠ "_"
 ty:P.keyType k=true
 cs:P.cellsOf k=2
 st:P.underlying s=some .string
 one:P.cellsOf s=1
 sz:0 < P.types.size
theorem Zex.mk' (h:Zex P k s) {a b:Zy_} (ha:a.size<=maxLen) (hb:b.size<=maxLen):keyOf P k (.agg #[.string a,.string b])=some (ZeT a b):=by
 obtain⟨f0,f1,hu,h0,h1,o0,o1,n0,n1⟩:=h.ex;obtain⟨n,hn⟩:∃ n,P.types.size=n+1:=⟨P.types.size - 1,by have:=h.sz;omega⟩
 simp [keyOf,hu,h.ty,Value.formed,h.cs,hn,Program.keyLits,h.st,h.one,Value.cells,ha,hb,ZeT,h0,h1,o0,o1,n0,n1]
theorem Zex.wide (h:Zex P k s):(match P.underlying k with | some (.array _ _) | some (.struct _)=>true | _=>false)=true:=by
 obtain⟨f0,f1,hu,-⟩:=h.ex;rw [hu]
theorem Zlf (hs:P.underlying s=some .string) {d:Nat} {cs:List Value} {L:List Lit} (h:P.keyLits (d+1) s cs=some L):∃ a:Zy_,cs=[.string a]/\L=[.string a.data.toList]/\a.size<=maxLen:=by
 unfold Program.keyLits at h;rw [hs] at h
 split at h <;> simp_all
theorem Zex.inv (h:Zex P k s) {key:Value} {kl:Lit} (hk:keyOf P k key=some kl):∃ a b:Zy_,key=.agg #[.string a,.string b]/\kl=ZeT a b/\a.size<=maxLen/\b.size<=maxLen:=by
 obtain⟨f0,f1,hu,h0,h1,o0,o1,n0,n1⟩:=h.ex;obtain⟨n,hn⟩:∃ n,P.types.size=n+1:=⟨P.types.size - 1,by have:=h.sz;omega⟩
 obtain⟨xs,L,rfl,hL,rfl⟩:=keyOf_top h.wide hk;obtain⟨xs⟩:=xs;rw [hn] at hL;unfold Program.keyLits at hL;rw [hu] at hL;simp only [h.cs] at hL
 split at hL
 . rename_i hc
   obtain⟨hl,-⟩:=hc
   match xs,hl with
   | [c0,c1],_=>
    simp only [List.mapM_cons,List.mapM_nil,h0,h1,o0,o1,h.one,List.drop_zero,List.take_succ_cons,List.take_zero,List.drop_succ_cons,Option.map_eq_some_iff] at hL;obtain⟨M,hM,rfl⟩:=hL
    cases e0:P.keyLits (n+1) s [c0] with
    | none=>simp [e0] at hM
    | some L0=>
     cases e1:P.keyLits (n+1) s [c1] with
     | none=>simp [e0,e1] at hM
     | some L1=>
      obtain⟨a,ea,rfl,sa⟩:=Zlf h.st e0;obtain⟨b,eb,rfl,sb⟩:=Zlf h.st e1;injection ea with ea
      injection eb with eb
      subst ea eb;simp [e0,e1] at hM;subst hM;exact⟨a,b,rfl,rfl,sa,sb⟩
 . cases hL
theorem Zex.inj (h:Zex P k s) (K:WideMaps.KeyLaw P k) {a b a' b':Zy_} (ha:a.size<=maxLen) (hb:b.size<=maxLen) (ha':a'.size<=maxLen) (hb':b'.size<=maxLen) (e:ZeT a b=ZeT a' b'):a=a'/\b=b':=by
 have e:=K.inj (h.mk' ha hb) (e ▸ h.mk' ha' hb')
 simpa using e
theorem Zgh:Zex prog 253 9:=
 ⟨⟨_,_,underlying253,rfl,rfl,rfl,rfl,by decide,by decide⟩,by kernel_rfl,by kernel_rfl,underlying9,by kernel_rfl,of_decide_eq_true (by kernel_rfl)⟩
theorem Zm4:laidOutB prog=true:=by kernel_rfl
theorem ZrN:(253:TypeId) < prog.types.size:=of_decide_eq_true (by kernel_rfl)
theorem ZsE:prog.keyTypeAt 2 253=true:=by kernel_rfl
theorem ZkZ:WideMaps.KeyLaw prog 253:=deep_law_laid Zm4 (by decide) ZrN ZsE Zgh.wide
theorem Zh8:Keyed prog 253:=Keyed.of_law ZkZ
theorem Zh9 (w:World):(zeroValue 3).run prog w=.ok (.int .i64 0) w:=by kernel_rfl
end
section
open Go.RowKit Go.Deep Go.Maps
theorem Zfj (a b:Int):wrap64 (wrap64 a+b)=wrap64 (a+b):=by unfold wrap64;omega
theorem Zg6 (a b:Int):wrap64 (wrap64 a+wrap64 b)=wrap64 (a+b):=by unfold wrap64;omega
abbrev Tri:=Zy_×Zy_×Int
variable {T:List Tri}
def Zqa (T:List Tri):Prop:=∀ p ∈ T,p.1.size<=maxLen/\p.2.1.size<=maxLen
def Zkq (T:List Tri) (a b:Zy_):Int:=(T.map fun p=>if (p.1=a/\p.2.1=b) then p.2.2 else 0).sum
theorem ZgE (A B:List Tri) (a b:Zy_):Zkq (A ++ B) a b=Zkq A a b+Zkq B a b:=by simp [Zkq]
theorem Zld (p:Tri) (a b:Zy_):Zkq [p] a b=if (p.1=a/\p.2.1=b) then p.2.2 else 0:=by simp [Zkq]
structure ZeY {H:Type} (T:List Tri) (D:DataW H):Prop where
 isMap:IsMap D
 sums:∀ a b:Zy_,a.size<=maxLen->b.size<=maxLen->D.atKey (ZeT a b) (.lit (.int .i64 0))=.lit (.int .i64 (wrap64 (Zkq T a b)))
 has:∀ p ∈ T,Maps.has D (ZeT p.1 p.2.1)=true
theorem ZgD (a b:Zy_):WideAt.IsKeyLit (ZeT a b):=trivial
theorem ZeY.start {H:Type}:ZeY [] (.map []:DataW H):=⟨⟨[],rfl⟩,fun a b _ _=>by simp [Zkq,wrap64];rfl,fun p hp=>by cases hp⟩
theorem ZpR {a b a' b':Zy_} (ha:a.size<=maxLen) (hb:b.size<=maxLen) (ha':a'.size<=maxLen) (hb':b'.size<=maxLen) (h:¬ (a=a'/\b=b')):ZeT a b≠ZeT a' b':=fun e=>h (Zgh.inj ZkZ ha hb ha' hb' e)
theorem ZeY.step {H:Type}{D:DataW H} (h:ZeY T D) {t r:Zy_} (ht:t.size<=maxLen) (hr:r.size<=maxLen) {c:Int} (hat:D.atKey (ZeT t r) (.lit (.int .i64 0))=.lit (.int .i64 c)) (n:Int) :
 ZeY (T ++ [(t,r,n)]) (D.put (ZeT t r) (.lit (.int .i64 (wrap64 (c+n))))):=by
 have hc:=hat.symm.trans (h.sums t r ht hr);injection hc with hc
 injection hc with _ hc
 refine⟨h.isMap.put _ _,fun a b ha hb=>?_,fun p hp=>?_⟩
 . by_cases e:t=a/\r=b
   . obtain⟨rfl,rfl⟩:=e
     rw [atKey_put_same h.isMap (ZgD _ _),ZgE,Zld,if_pos ⟨rfl,rfl⟩,hc,Zfj]
   . rw [atKey_put_other (ZpR ha hb ht hr (fun e'=>e ⟨e'.1.symm,e'.2.symm⟩)),h.sums a b ha hb,ZgE,Zld,if_neg e,Int.add_zero]
 . by_cases e:ZeT p.1 p.2.1=ZeT t r
   . rw [e]
     exact has_put_same h.isMap (ZgD _ _) _
   . rw [has_put_other e]
     rcases List.mem_append.1 hp with hp | hp
     . exact h.has p hp
     . simp at hp
       subst hp;exact absurd rfl e
def Zg3 (Ts:List Tm) (team r:Zy_) (p:Tri):Int:=if (p.2.1.toList == r.toList&&Zbe Ts p.1 team)=true then p.2.2 else 0
def Zj6 (Ts:List Tm) (team r:Zy_) (T:List Tri) (left:Lit->Bool):Int:=(T.map fun p=>if left (ZeT p.1 p.2.1)=true then 0 else Zg3 Ts team r p).sum
theorem ZmO {H:Type}{D:DataW H} (h:ZeY T D) (Ts:List Tm) (team r:Zy_):Zj6 Ts team r T (Maps.has D)=0:=by
 have:∀ L:List Tri,(∀ p ∈ L,Maps.has D (ZeT p.1 p.2.1)=true)->Zj6 Ts team r L (Maps.has D)=0:=by
  intro L
  induction L with
  | nil=>intro _;rfl
  | cons p L ih=>
   intro hL;have h1:=hL p (List.mem_cons_self ..);have h2:=ih (fun q hq=>hL q (List.mem_cons_of_mem _ hq));unfold Zj6 at h2 |-;rw [List.map_cons,List.sum_cons,h2,if_pos h1]
   rfl
 exact this T h.has
theorem ZpN {left:Lit->Bool} (h:∀ kl,left kl=false) (Ts:List Tm) (team r:Zy_) (T:List Tri):Zj6 Ts team r T left=(T.map (Zg3 Ts team r)).sum:=by
 unfold Zj6;simp [h]
theorem ZjZ (Ts:List Tm) (team r:Zy_) {left:Lit->Bool} {a b:Zy_} (ha:a.size<=maxLen) (hb:b.size<=maxLen) (hl:left (ZeT a b)=true):∀ (T:List Tri),Zqa T->
 Zj6 Ts team r T (fun z=>left z&&!z.sameKey (ZeT a b))=Zj6 Ts team r T left+(if (b.toList == r.toList&&Zbe Ts a team)=true then Zkq T a b else 0)
 | [],_=>by simp [Zj6,Zkq]
 | p :: T,hT=>by
  have ih:=ZjZ Ts team r ha hb hl T (fun q hq=>hT q (List.mem_cons_of_mem _ hq));obtain⟨s1,s2⟩:=hT p (List.mem_cons_self ..);unfold Zj6 Zkq at ih |-;simp only [List.map_cons,List.sum_cons];rw [ih]
  by_cases e:p.1=a/\p.2.1=b
  . obtain⟨e1,e2⟩:=e
    have hs:(ZeT a b).sameKey (ZeT a b)=true:=by unfold ZeT;simp [Lit.sameKey]
    unfold Zg3;simp only [hs,hl,Bool.not_true,Bool.and_false,Bool.false_eq_true,if_false,if_true,e1,e2,eq_self,and_self]
    cases hc:(b.toList == r.toList&&Zbe Ts a team)
    . simp only [Bool.false_eq_true,if_false];omega
    . simp only [if_true];omega
  . have hs:(ZeT p.1 p.2.1).sameKey (ZeT a b)=false:=sameKey_ne (ZpR s1 s2 ha hb e)
    simp only [hs,Bool.not_false,Bool.and_true,if_neg e]
    cases hc:(b.toList == r.toList&&Zbe Ts a team)
    . simp only [Bool.false_eq_true,if_false];omega
    . simp only [if_true];omega
def Zcj (Ss:List Sh) (Os:List Ob):List Tri:=Os.flatMap fun o=>(Zec Ss o.kd o.vs).map fun p=>(o.tm,p.1,p.2)
theorem ZmS (Ss:List Sh) (A:List Ob) (o:Ob):Zcj Ss (A ++ [o])=Zcj Ss A ++ (Zec Ss o.kd o.vs).map fun p=>(o.tm,p.1,p.2):=by simp [Zcj]
def Zc7 (Ss:List Sh) (Ts:List Tm) (Os:List Ob) (team r:Zy_):Int:=(Os.map fun o=>if Zbe Ts o.tm team=true then Zdu Ss o.kd o.vs r else 0).sum
theorem ZmL (Ts:List Tm) (team r t:Zy_) (L:List (Zy_×Int)):((L.map fun p=>((t,p.1,p.2):Tri)).map (Zg3 Ts team r)).sum=if Zbe Ts t team=true then ZmY r L else 0:=by
 induction L with
 | nil=>simp [ZmY]
 | cons p L ih=>
  rw [List.map_cons,List.map_cons,List.sum_cons,ih];unfold ZmY Zg3;rw [List.map_cons,List.sum_cons]
  cases h1:Zbe Ts t team <;> cases h2:(p.1.toList == r.toList) <;> simp
theorem ZmN (Ss:List Sh) (Ts:List Tm) (team r:Zy_) (Os:List Ob):((Zcj Ss Os).map (Zg3 Ts team r)).sum=Zc7 Ss Ts Os team r:=by
 induction Os with
 | nil=>rfl
 | cons o Os ih=>
  have e:Zcj Ss (o :: Os)=((Zec Ss o.kd o.vs).map fun p=>(o.tm,p.1,p.2)) ++ Zcj Ss Os:=by simp [Zcj]
  rw [e,List.map_append,List.sum_append,ih,ZmL,Zmr]
  rfl
theorem ZmM (Ss:List Sh) (Ts:List Tm) (A:List Ob) (o:Ob) (team r:Zy_):Zc7 Ss Ts (A ++ [o]) team r=Zc7 Ss Ts A team r+(if Zbe Ts o.tm team=true then Zdu Ss o.kd o.vs r else 0):=by simp [Zc7]
theorem ZoK (Ss:List Sh) (kind:Zy_) (V:List Zy_):(Zec Ss kind V).length<=V.length+1:=by
 unfold Zec
 split
 . split
   . rename_i x _ _
     have:=Zfs x.fields V V.length;have h1:(Zdh kind).length<=1:=by unfold Zdh;split <;> simp
     rw [List.length_append];omega
   . simp
 . simp
theorem Zj4 (Ss:List Sh):∀ Os:List Ob,(∀ o ∈ Os,o.vs.length<=1048576)->(Zcj Ss Os).length<=Os.length*1048577
 | [],_=>by simp [Zcj]
 | o :: Os,h=>by
  have ih:=Zj4 Ss Os (fun q hq=>h q (List.mem_cons_of_mem _ hq));have h1:=h o (List.mem_cons_self ..);have h2:=ZoK Ss o.kd o.vs;have e:Zcj Ss (o :: Os)=((Zec Ss o.kd o.vs).map fun p=>(o.tm,p.1,p.2)) ++ Zcj Ss Os:=by simp [Zcj]
  rw [e,List.length_append,List.length_map,List.length_cons]
  omega
end
open Go.RowKit Go.Deep
variable {b o c0 c1 lo hi off n lo' hi':Nat} {w w':World} {x:Tm} {v:Value} {Xl:List Tm}
def Zj9 (b o _c0 _c1:Nat) (w:World) (x:Tm):Prop:=ZdX x/\ZdW w b o x
theorem Zj9.touch (h:Zj9 b o c0 c1 w x) (ht:Zaw lo hi w w') (hlt:b < w.heap.size) (hb:b < lo\/hi<=b) (_hi:c1<=lo\/hi<=c0):Zj9 b o c0 c1 w' x:=by
 obtain⟨hs,hc⟩:=h;obtain⟨h0,h1⟩:=hc;exact⟨hs,⟨(ht.cell (p:=⟨b,o,none⟩) hlt hb).trans h0,(ht.cell (p:=⟨b,o+1,none⟩) hlt hb).trans h1⟩⟩
theorem Zj9.below (h:Zj9 b o c0 c1 w x) (ht:Zw_ w w') (hlt:b < w.heap.size):Zj9 b o c0 c1 w' x:=by
 obtain⟨hs,hc⟩:=h;obtain⟨h0,h1⟩:=hc;exact⟨hs,⟨(ht.cell (p:=⟨b,o,none⟩) hlt).trans h0,(ht.cell (p:=⟨b,o+1,none⟩) hlt).trans h1⟩⟩
structure Zh7 (lo hi:Nat) (w:World) (b off n:Nat) (c:Nat->Nat) (X:Nat->Tm):Prop where
 lt:b < w.heap.size
 low:lo<=b
 bc:b < c 0
 bh:b < hi
 mono:∀ i,i < n->c i<=c (i+1)
 top:c n<=hi
 frz:∀ i,w.frozen? ⟨b,i,none⟩=false
 row:∀ i,i < n->Zj9 b (off+i*2) (c i) (c (i+1)) w (X i)
theorem Zh7.le {c:Nat->Nat}{X:Nat->Tm} (h:Zh7 lo hi w b off n c X) {i:Nat}:∀ {j:Nat},i<=j->j<=n->c i<=c j:=by
 intro j
 induction j with
 | zero=>intro hij _;have:i=0:=by omega
         subst this;exact Nat.le_refl _
 | succ j ih=>
  intro hij hjn
  by_cases e:i=j+1
  . subst e;exact Nat.le_refl _
  . exact Nat.le_trans (ih (by omega) (by omega)) (h.mono j (by omega))
theorem Zh7.touch {c:Nat->Nat}{X:Nat->Tm} (h:Zh7 lo hi w b off n c X) (ht:Zaw lo' hi' w w') (ho:hi<=lo'\/hi'<=lo):Zh7 lo hi w' b off n c X:=by
 have h1:=h.low;have h2:=h.bh;have h3:=h.top;have h4:=h.bc;refine⟨Zk_ h.lt ht.size,h.low,h.bc,h.bh,h.mono,h.top,fun i=>(ht.frozen (p:=⟨b,i,none⟩) h.lt (by simp only [];omega)).trans (h.frz i),fun i hi'=>?_⟩;have h5:=h.le (Nat.zero_le i) (by omega);have h6:=h.le (i:=i+1) (j:=n) (by omega) Zl_;exact (h.row i hi').touch ht h.lt (by omega) (by omega)
theorem Zh7.below {c:Nat->Nat}{X:Nat->Tm} (h:Zh7 lo hi w b off n c X) (ht:Zw_ w w'):Zh7 lo hi w' b off n c X:=
 ⟨Zk_ h.lt ht.size,h.low,h.bc,h.bh,h.mono,h.top,fun i=>(ht.frozen (p:=⟨b,i,none⟩) h.lt).trans (h.frz i),fun i hi'=>(h.row i hi').below ht h.lt⟩
def Zcl (lo hi:Nat) (w:World) (v:Value) (Xl:List Tm):Prop:=
 (∃ (a:Option Addr) (cap:Nat),v=.slice a 0 cap/\Xl=[])\/
 ∃ (b off cap:Nat) (c:Nat->Nat) (X:Nat->Tm),v=.slice (some ⟨b,off,none⟩) Xl.length cap/\Xl≠[]/\Xl.length<=maxLen/\Xl.length<=cap/\(∀ i (h:i < Xl.length),X i=Xl[i])/\Zh7 lo hi w b off Xl.length c X
theorem Zcl.touch (h:Zcl lo hi w v Xl) (ht:Zaw lo' hi' w w') (ho:hi<=lo'\/hi'<=lo):Zcl lo hi w' v Xl:=by
 rcases h with h | ⟨b,off,cap,c,X,h1,h2,h3,h4,h5,h6⟩
 . exact Or.inl h
 . exact Or.inr ⟨b,off,cap,c,X,h1,h2,h3,h4,h5,h6.touch ht ho⟩
theorem Zcl.below (h:Zcl lo hi w v Xl) (ht:Zw_ w w'):Zcl lo hi w' v Xl:=by
 rcases h with h | ⟨b,off,cap,c,X,h1,h2,h3,h4,h5,h6⟩
 . exact Or.inl h
 . exact Or.inr ⟨b,off,cap,c,X,h1,h2,h3,h4,h5,h6.below ht⟩
theorem Zcl.at (h:Zcl lo hi w v Xl):ZaZ lo w v Xl:=by
 rcases h with h | ⟨b,off,cap,c,X,h1,h2,h3,h4,h5,h6⟩
 . exact Or.inl h
 . refine Or.inr ⟨b,off,cap,h1,h2,h3,h6.lt,h6.low,h4,fun i hi'=>?_⟩
   have hr:=h6.row i hi';rw [h5 i hi'] at hr;obtain⟨hs,hc⟩:=hr;exact⟨hs,hc⟩
end Go.Proofs.YtbdhbihhgfpnnaaGreat
