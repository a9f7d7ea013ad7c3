import Derived.Test.YtmappejlmapboaaGreatD04
import Derived.Deep.OwnRows
import Derived.Deep.RegionWith
import Derived.Laws.IdiomCopy
import Derived.Lib.LazyBuf
import Derived.DeepKeys4
import Derived.Maps.RangeWalk
import Derived.Maps.OwnOps
set_option maxHeartbeats 16000000
set_option maxRecDepth 100000
open Go.Proofs.Tryz
namespace Go.Proofs.YtmappejlmapboaaGreat
section
open Go.RowKit Go.Deep
variable {lo hi lo' hi' n:Nat} {a b w:World} {v:Value}
structure ZbS (lo hi:Nat) (w w':World):Prop where
 touch:Zag lo hi w w'
 there:∀ p:Addr,p.block < w.heap.size->(w.cell? p).isSome=true->(w'.cell? p).isSome=true
 frz:∀ p:Addr,p.block < w.heap.size->w'.frozen? p=w.frozen? p
theorem ZbS.refl (lo hi:Nat) (w:World):ZbS lo hi w w:=⟨Zag.refl _ _ _,fun _ _ h=>h,fun _ _=>rfl⟩
theorem ZbS.trans {c:World} (h:ZbS lo hi a b) (k:ZbS lo hi b c):ZbS lo hi a c:=
 ⟨h.touch.trans k.touch,fun p hp hs=>k.there p (Zk_ hp h.touch.size) (h.there p hp hs),fun p hp=>(k.frz p (Zk_ hp h.touch.size)).trans (h.frz p hp)⟩
theorem ZbS.below (h:Below a.heap.size a b):ZbS lo hi a b:=
 ⟨Zag.below h,fun p hp hs=>by rw [h.cell hp];exact hs,fun p hp=>h.frozen hp⟩
theorem ZbS.setCell (lo hi:Nat) (w:World) (p:Addr) (u:Value) (h:lo<=p.block/\p.block < hi) (hs:(w.cell? p).isSome=true):ZbS lo hi w (w.setCell p u):=by
 refine⟨Zag.setCell _ _ _ _ _ h,fun q _ hq=>?_,fun q _=>World.frozen?_setCell ..⟩
 by_cases e:p=q
 . subst e;rw [World.cell?_setCell_same' _ _ _ hs];rfl
 . rw [show (w.setCell p u).cell? q=w.cell? q from by apply World.cell?_setCell_other;exact e];exact hq
theorem ZbS.wide (h:ZbS lo hi a b) (h1:lo'<=lo) (h2:hi<=hi'):ZbS lo' hi' a b:=⟨h.touch.wide h1 h2,h.there,h.frz⟩
def Zkp (lo hi:Nat) (w:World) (v:Value) (n:Nat):Prop:=
 (∃ (a:Option Addr) (cap:Nat),v=.slice a 0 cap/\n=0)\/
 ∃ (b off cap:Nat),v=.slice (some ⟨b,off,none⟩) n cap/\0 < n/\n<=maxLen/\b < w.heap.size/\
  (∀ i,i < n->(w.cell? ⟨b,off+i,none⟩).isSome=true)/\lo<=b/\b < hi/\∀ i,w.frozen? ⟨b,off+i,none⟩=false
theorem Zad.writ {L:List Zy_} (h:Zad lo hi w v L):Zkp lo hi w v L.length:=by
 rcases h with ⟨a,cap,h1,rfl⟩ | ⟨b,off,cap,h1,h2,h3,h4,h5,h6,h7,h8,h9⟩
 . exact Or.inl ⟨a,cap,h1,rfl⟩
 . exact Or.inr ⟨b,off,cap,h1,List.length_pos_iff.2 h2,h3,h4,fun i hi'=>by rw [h5 i hi'];rfl,h7,h8,h9⟩
theorem Zkp.kept {w':World} (h:Zkp lo hi w v n) (k:ZbS lo' hi' w w'):Zkp lo hi w' v n:=by
 rcases h with h | ⟨b,off,cap,h1,h2,h3,h4,h5,h6,h7,h8⟩
 . exact Or.inl h
 . exact Or.inr ⟨b,off,cap,h1,h2,h3,Zk_ h4 k.touch.size,fun i hi'=>k.there _ h4 (h5 i hi'),h6,h7,fun i=>(k.frz _ h4).trans (h8 i)⟩
theorem Zkp.wide (h:Zkp lo hi w v n) (h1:lo'<=lo) (h2:hi<=hi'):Zkp lo' hi' w v n:=by
 rcases h with h | ⟨b,off,cap,q1,q2,q3,q4,q5,q6,q7,q8⟩
 . exact Or.inl h
 . exact Or.inr ⟨b,off,cap,q1,q2,q3,q4,q5,by omega,by omega,q8⟩
theorem Zkp.form (h:Zkp lo hi w v n):∃ a cap,v=.slice a n cap:=by
 rcases h with ⟨a,cap,h,rfl⟩ | ⟨b,off,cap,h,_⟩
 . exact⟨a,cap,h⟩
 . exact⟨_,cap,h⟩
theorem Zj0 (lo hi:Nat) (v:Value) (n:Nat) (k:Int) (w:World) (hv:Zkp lo hi w v n) (h0:0<=k) (hk:k+n<=4000000000000000000) :
 Calls prog 106 #[v,.int .i64 k] w fun e w'=>e=.returned (.int .i64 (k+n))/\ZbS lo hi w w':=by
 rcases hv with ⟨a,cap,rfl,rfl⟩ | ⟨b,off,cap,rfl,hne,hm,hbw,hc,hlo,hhi,hfr⟩
 . go_enter func106,ntmps106
   go_wp2
   go_loop [5,1] (fun i q=>i=.int .i64 0/\q=.int .i64 k) (fun _ _=>0)
   case atStart=>exact⟨rfl,rfl⟩
   case round=>
    obtain⟨rfl,rfl⟩:=hrel;go_wp2;go_ret;exact⟨by simp,ZbS.refl _ _ _⟩
 . unfold maxLen at hm
   go_enter func106,ntmps106;go_wp2
   go_loopw [5,1] (fun i q wr=>∃ j:Nat,i=.int .i64 j/\q=.int .i64 (k+j)/\j<=n/\ZbS lo hi w wr) (fun i _ _=>n - (intOf i).toNat)
   case atStart=>exact⟨0,rfl,by simp,by omega,ZbS.refl _ _ _⟩
   case round=>
    obtain⟨j,rfl,rfl,hj,ht⟩:=hrel;have HT:=Zab ht;clear ht
    by_cases hlt:j < n
    . have hbr:b < wr.heap.size:=Zk_ hbw HT.o.touch.size
      go_wp2_with fail;refine (Zal _ _ (by omega)).mono ?_;rintro e w1 ⟨rfl,hb1⟩;obtain⟨u,hcj⟩:∃ u,w1.cell? ⟨b,off+j,none⟩=some u:=by rw [hb1.cell (p:=⟨b,_,none⟩) hbr];exact Option.isSome_iff_exists.1 (HT.o.there _ hbw (hc j hlt))
      have hfj:w1.frozen? ⟨b,off+j,none⟩=false:=by rw [hb1.frozen (p:=⟨b,_,none⟩) hbr];exact (HT.o.frz _ hbw).trans (hfr j)
      have HB1:=Zab hb1;clear hb1;go_wp2;go_roundw
      . 
       exact⟨j+1,by go_num,by go_num,by omega,(HT.o.trans (ZbS.below HB1.o)).trans (ZbS.setCell _ _ _ _ _ ⟨hlo,hhi⟩ (by rw [hcj];rfl))⟩
      . simp [intOf];omega
    . have e:j=n:=by omega
      subst e;go_wp2;go_ret;exact⟨rfl,HT.o⟩
end
section
open Go.RowKit Go.Deep
theorem Zka {a b:Zy_} (h:a=b):Ending.returned (.string a)=.returned (.string b):=by rw [h]
theorem Zhr {n k:Nat}{p:Nat->Bool} (hk:k < n) (h:(List.range n).all p=true):p k=true:=by
 rw [List.all_eq_true] at h;exact h k (List.mem_range.2 hk)
end
section
open Go.RowKit Go.Deep
theorem Tryz.size9:(prog.info? 9).map (·.size)=some 1:=by kernel_rfl
theorem Zfr {B:Nat}{a:World} (b:Nat) (hb:B<=b):∀ (vs:List Value) (o:Nat) (w:World),Below B a w->Below B a (w.setCells b o vs)
 | [],_,_,h=>h
 | v :: r,o,w,h=>by
  rw [World.setCells];exact Zfr b hb r (o+1) _ (h.setCell hb v)
theorem Zel (b:Nat):∀ (vs:List Value) (o:Nat) (w:World),(w.setCells b o vs).heap.size=w.heap.size
 | [],_,_=>rfl
 | v :: r,o,w=>by rw [World.setCells,Zel b r];simp [World.setCell]
theorem Zf4 (v:Value) (L:List Zy_) (w:World) (hv:Zaf w v L) (hn:L.length<=1048576) :
 Calls prog 194 #[v] w fun e w'=>∃ v',e=.returned v'/\Zw_ w w'/\Zad w.heap.size w'.heap.size w' v' L:=by
 have hnil:=fun W a n c=>Lib.run_eql_slice_nil (P:=prog) W 111 9 a n c 0 0 underlying111
 rcases hv with ⟨a,cap,rfl,rfl⟩ | ⟨b,off,cap,rfl,hne,hm,hbw,hc,hsz⟩
 . have hmk:∀ u:World,(Instr.makeSlice 111 (.int .i64 0) (.int .i64 0)).run prog u=.ok (.slice (some ⟨u.heap.size,0,none⟩) 0 0) (u.alloc (.cells (madeCells #[.string ⟨#[]⟩] 0) 9)):=
    fun u=>run_make_row' 111 9 (.string ⟨#[]⟩) 16 underlying111 Tryz.info9 rfl .i64 .i64 0 (by omega) (by omega) u
   have hcp:=fun (W:World) ty (d:Option Addr) dl dc=>run_copy_none (P:=prog) W 111 111 ty 9 d a dl dc 0 cap underlying111 Tryz.size9 (by simp)
   cases a with
   | none=>
    go_enter func194,ntmps194;go_wp2;go_ret;exact⟨_,rfl,Below.refl _ _,Or.inl ⟨_,_,rfl,rfl⟩⟩
   | some ad=>
    go_enter func194,ntmps194;go_wp2;go_ret;exact⟨_,rfl,Zb_.alloc Zl_ _,Or.inl ⟨_,_,rfl,rfl⟩⟩
 . have HM:Hd (L.length<=maxLen):=hm
   unfold maxLen at hm
   have hmk:∀ u:World,(Instr.makeSlice 111 (.int .i64 (L.length:Int)) (.int .i64 (L.length:Int))).run prog u=.ok (.slice (some ⟨u.heap.size,0,none⟩) L.length L.length) (u.alloc (.cells (madeCells #[.string ⟨#[]⟩] L.length) 9)):=
    fun u=>run_make_row' 111 9 (.string ⟨#[]⟩) 16 underlying111 Tryz.info9 rfl .i64 .i64 L.length (by omega) (by omega) u
   have hrow:=World.rowIs_made w (.string ⟨#[]⟩) L.length 9;have hcl:(L.map Value.string).length=L.length:=by simp
   have hcp:∀ ty,(Builtin.copy_ #[111,111] ty #[.slice (some ⟨w.heap.size,0,none⟩) L.length L.length,.slice (some ⟨b,off,none⟩) L.length cap]).run prog (w.alloc (.cells (madeCells #[.string ⟨#[]⟩] L.length) 9))=.ok (goInt L.length) ((w.alloc (.cells (madeCells #[.string ⟨#[]⟩] L.length) 9)).setCells w.heap.size 0 (L.map Value.string)):=fun ty=>by
    have:=run_copy_cells (P:=prog) (w.alloc (.cells (madeCells #[.string ⟨#[]⟩] L.length) 9)) 111 111 ty 9 w.heap.size 0 L.length L.length ⟨b,off,none⟩ L.length cap (L.map Value.string) underlying111 Tryz.size9 (by simp) (fun j u hj=>by
     obtain⟨hj1,hj2⟩:=List.getElem?_eq_some_iff.1 hj;rw [hcl] at hj1;rw [Go.WideShapes.add_plain,((Below.refl w.heap.size w).alloc Zl_ _).cell (p:=⟨b,off+j,none⟩) hbw,hc j hj1,<- hj2];simp) (fun j hj=>by rw [hcl] at hj;rw [Nat.zero_add,hrow.cell hj];rfl) (fun j _=>by rw [Nat.zero_add];exact hrow.frozen j) (fun u hu=>by
     obtain⟨s,_,rfl⟩:=List.mem_map.1 hu;rfl)
    rw [hcl] at this;exact this
   have HOWN:Hd (Zad w.heap.size ((w.alloc (.cells (madeCells #[.string ⟨#[]⟩] L.length) 9)).setCells w.heap.size 0 (L.map Value.string)).heap.size ((w.alloc (.cells (madeCells #[.string ⟨#[]⟩] L.length) 9)).setCells w.heap.size 0 (L.map Value.string)) (.slice (some ⟨w.heap.size,0,none⟩) L.length L.length) L):=by
    refine Or.inr ⟨w.heap.size,0,L.length,rfl,hne,HM.o,by rw [Zel];simp,fun i hi=>?_,hsz,Nat.le_refl _,by rw [Zel];simp,fun i=>?_⟩
    . have:=World.cell?_setCells_in w.heap.size (L.map Value.string) 0 (w.alloc (.cells (madeCells #[.string ⟨#[]⟩] L.length) 9)) (fun j hj=>by rw [hcl] at hj;rw [Nat.zero_add,hrow.cell hj];rfl) i (by rw [hcl];exact hi)
      rw [this];simp
    . rw [World.frozen?_setCells,Nat.zero_add];exact hrow.frozen i
   have HB:Hd (Zw_ w ((w.alloc (.cells (madeCells #[.string ⟨#[]⟩] L.length) 9)).setCells w.heap.size 0 (L.map Value.string))):=Zfr _ Zl_ _ _ _ (Zb_.alloc Zl_ _);clear hrow hcl hc;generalize hW:(w.alloc (.cells (madeCells #[.string ⟨#[]⟩] L.length) 9)).setCells w.heap.size 0 (L.map Value.string)=W2 at*;clear hW;go_enter func194,ntmps194;go_wp2;go_ret;exact⟨_,rfl,HB.o,HOWN.o⟩
end
open Go.RowKit Go.Deep Go.Maps Go.ChangeMaps Go.MapKept
variable {P:Program} {k s:TypeId}
def ZbI (a b:Zy_):Lit:=.string (keyBytes [.string a.data.toList,.string b.data.toList])
structure Zes (P:Program) (k s:TypeId):Prop where
 ex:∃ f0 f1:Field,P.underlying k=some (.struct #[f0,f1])/\f0.type=s/\f1.type=s/\f0.offset=0/\f1.offset=1/\f0.name≠ "_"/\f1.name≠ "_"
 ty:P.keyType k=true
 cs:P.cellsOf k=2
 st:P.underlying s=some .string
 one:P.cellsOf s=1
 sz:0 < P.types.size
theorem Zes.mk' (h:Zes P k s) {a b:Zy_} (ha:a.size<=maxLen) (hb:b.size<=maxLen):keyOf P k (.agg #[.string a,.string b])=some (ZbI a b):=by
 obtain⟨f0,f1,hu,h0,h1,o0,o1,n0,n1⟩:=h.ex;obtain⟨n,hn⟩:∃ n,P.types.size=n+1:=⟨P.types.size - 1,by have:=h.sz;omega⟩
 simp [keyOf,hu,h.ty,Value.formed,h.cs,hn,Program.keyLits,h.st,h.one,Value.cells,ha,hb,ZbI,h0,h1,o0,o1,n0,n1]
theorem Zes.wide (h:Zes P k s):(match P.underlying k with | some (.array _ _) | some (.struct _)=>true | _=>false)=true:=by
 obtain⟨f0,f1,hu,-⟩:=h.ex;rw [hu]
theorem Zm0 (hs:P.underlying s=some .string) {d:Nat} {cs:List Value} {L:List Lit} (h:P.keyLits (d+1) s cs=some L):∃ a:Zy_,cs=[.string a]/\L=[.string a.data.toList]/\a.size<=maxLen:=by
 unfold Program.keyLits at h;rw [hs] at h
 split at h <;> simp_all
theorem Zes.inv (h:Zes P k s) {key:Value} {kl:Lit} (hk:keyOf P k key=some kl):∃ a b:Zy_,key=.agg #[.string a,.string b]/\kl=ZbI a b/\a.size<=maxLen/\b.size<=maxLen:=by
 obtain⟨f0,f1,hu,h0,h1,o0,o1,n0,n1⟩:=h.ex;obtain⟨n,hn⟩:∃ n,P.types.size=n+1:=⟨P.types.size - 1,by have:=h.sz;omega⟩
 obtain⟨xs,L,rfl,hL,rfl⟩:=keyOf_top h.wide hk;obtain⟨xs⟩:=xs;rw [hn] at hL;unfold Program.keyLits at hL;rw [hu] at hL;simp only [h.cs] at hL
 split at hL
 . rename_i hc
   obtain⟨hl,-⟩:=hc
   match xs,hl with
   | [c0,c1],_=>
    simp only [List.mapM_cons,List.mapM_nil,h0,h1,o0,o1,h.one,List.drop_zero,List.take_succ_cons,List.take_zero,List.drop_succ_cons,Option.map_eq_some_iff] at hL;obtain⟨M,hM,rfl⟩:=hL
    cases e0:P.keyLits (n+1) s [c0] with
    | none=>simp [e0] at hM
    | some L0=>
     cases e1:P.keyLits (n+1) s [c1] with
     | none=>simp [e0,e1] at hM
     | some L1=>
      obtain⟨a,ea,rfl,sa⟩:=Zm0 h.st e0;obtain⟨b,eb,rfl,sb⟩:=Zm0 h.st e1;injection ea with ea
      injection eb with eb
      subst ea eb;simp [e0,e1] at hM;subst hM;exact⟨a,b,rfl,rfl,sa,sb⟩
 . cases hL
theorem Zes.inj (h:Zes P k s) (K:WideMaps.KeyLaw P k) {a b a' b':Zy_} (ha:a.size<=maxLen) (hb:b.size<=maxLen) (ha':a'.size<=maxLen) (hb':b'.size<=maxLen) (e:ZbI a b=ZbI a' b'):a=a'/\b=b':=by
 have e:=K.inj (h.mk' ha hb) (e ▸ h.mk' ha' hb')
 simpa using e
theorem Zet:Zes prog 251 9:=
 ⟨⟨_,_,underlying251,rfl,rfl,rfl,rfl,by decide,by decide⟩,by kernel_rfl,by kernel_rfl,underlying9,by kernel_rfl,of_decide_eq_true (by kernel_rfl)⟩
theorem ZpE:laidOutB prog=true:=by kernel_rfl
theorem ZtK:(251:TypeId) < prog.types.size:=of_decide_eq_true (by kernel_rfl)
theorem Zun:prog.keyTypeAt 2 251=true:=by kernel_rfl
theorem Zf0:WideMaps.KeyLaw prog 251:=deep_law_laid ZpE (by decide) ZtK Zun Zet.wide
theorem ZjA:Keyed prog 251:=Keyed.of_law Zf0
theorem ZjB (w:World):(zeroValue 3).run prog w=.ok (.int .i64 0) w:=by kernel_rfl
end Go.Proofs.YtmappejlmapboaaGreat
