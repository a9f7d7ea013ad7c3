import Derived.Test.YtfohnageehneoaaGreatVM2
import Derived.Laws.IdiomCopy
import Derived.Lib.LazyBuf
import Derived.Test.YtfohnageehneoaaGreatVO1
set_option maxHeartbeats 16000000
set_option maxRecDepth 100000
open Go.Proofs.Tryz
namespace Go.Proofs.YtfohnageehneoaaGreat
open Go.RowKit Go.Deep
theorem Tryz.size9:(prog.info? 9).map (·.size)=some 1:=by kernel_rfl
theorem ZeV {B:Nat} {a:World} (b:Nat) (hb:B≤b):∀ (vs:List Value) (o:Nat) (w:World),Below B a w→Below B a (w.setCells b o vs)
 | [],_,_,h=>h
 | v :: r,o,w,h=>by
  rw [World.setCells];exact ZeV b hb r (o+1) _ (h.setCell hb v)
theorem ZdZ (b:Nat):∀ (vs:List Value) (o:Nat) (w:World),(w.setCells b o vs).heap.size=w.heap.size
 | [],_,_=>rfl
 | v :: r,o,w=>by rw [World.setCells,ZdZ b r];simp [World.setCell]
theorem Zfe (v:Value) (L:List Zy_) (w:World) (hv:Zag w v L) (hn:L.length≤1048576) :
 Calls prog 209 #[v] w fun e w'=>∃ v',e=.returned v'∧Zw_ w w'∧Zae w.heap.size w'.heap.size w' v' L:=by
 have hnil:=fun W a n c=>Lib.run_eql_slice_nil (P:=prog) W 59 9 a n c 0 0 underlying59
 rcases hv with ⟨a,cap,rfl,rfl⟩ | ⟨b,off,cap,rfl,hne,hm,hbw,hc,hsz⟩
 · have hmk:∀ u:World,(Instr.makeSlice 59 (.int .i64 0) (.int .i64 0)).run prog u=.ok (.slice (some ⟨u.heap.size,0,none⟩) 0 0) (u.alloc (.cells (madeCells #[.string ⟨#[]⟩] 0) 9)):=
    fun u=>run_make_row' 59 9 (.string ⟨#[]⟩) 16 underlying59 Tryz.info9 rfl .i64 .i64 0 (by omega) (by omega) u
   have hcp:=fun (W:World) ty (d:Option Addr) dl dc=>run_copy_none (P:=prog) W 59 59 ty 9 d a dl dc 0 cap underlying59 Tryz.size9 (by simp)
   cases a with
   | none=>
    go_enter func209,ntmps209;go_wp2;go_ret;exact⟨_,rfl,Below.refl _ _,Or.inl ⟨_,_,rfl,rfl⟩⟩
   | some ad=>
    go_enter func209,ntmps209;go_wp2;go_ret;exact⟨_,rfl,Zb_.alloc Zl_ _,Or.inl ⟨_,_,rfl,rfl⟩⟩
 · have HM:Hid (L.length≤maxLen):=hm
   unfold maxLen at hm
   have hmk:∀ u:World,(Instr.makeSlice 59 (.int .i64 (L.length:Int)) (.int .i64 (L.length:Int))).run prog u=.ok (.slice (some ⟨u.heap.size,0,none⟩) L.length L.length) (u.alloc (.cells (madeCells #[.string ⟨#[]⟩] L.length) 9)):=
    fun u=>run_make_row' 59 9 (.string ⟨#[]⟩) 16 underlying59 Tryz.info9 rfl .i64 .i64 L.length (by omega) (by omega) u
   have hrow:=World.rowIs_made w (.string ⟨#[]⟩) L.length 9;have hcl:(L.map Value.string).length=L.length:=by simp
   have hcp:∀ ty,(Builtin.copy_ #[59,59] ty #[.slice (some ⟨w.heap.size,0,none⟩) L.length L.length,.slice (some ⟨b,off,none⟩) L.length cap]).run prog (w.alloc (.cells (madeCells #[.string ⟨#[]⟩] L.length) 9))=.ok (goInt L.length) ((w.alloc (.cells (madeCells #[.string ⟨#[]⟩] L.length) 9)).setCells w.heap.size 0 (L.map Value.string)):=fun ty=>by
    have:=run_copy_cells (P:=prog) (w.alloc (.cells (madeCells #[.string ⟨#[]⟩] L.length) 9)) 59 59 ty 9 w.heap.size 0 L.length L.length ⟨b,off,none⟩ L.length cap (L.map Value.string) underlying59 Tryz.size9 (by simp) (fun j u hj=>by
     obtain⟨hj1,hj2⟩:=List.getElem?_eq_some_iff.1 hj;rw [hcl] at hj1;rw [Go.WideShapes.add_plain,((Below.refl w.heap.size w).alloc Zl_ _).cell (p:=⟨b,off+j,none⟩) hbw,hc j hj1,← hj2];simp) (fun j hj=>by rw [hcl] at hj;rw [Nat.zero_add,hrow.cell hj];rfl) (fun j _=>by rw [Nat.zero_add];exact hrow.frozen j) (fun u hu=>by
     obtain⟨s,_,rfl⟩:=List.mem_map.1 hu;rfl)
    rw [hcl] at this;exact this
   have HOWN:Hid (Zae w.heap.size ((w.alloc (.cells (madeCells #[.string ⟨#[]⟩] L.length) 9)).setCells w.heap.size 0 (L.map Value.string)).heap.size ((w.alloc (.cells (madeCells #[.string ⟨#[]⟩] L.length) 9)).setCells w.heap.size 0 (L.map Value.string)) (.slice (some ⟨w.heap.size,0,none⟩) L.length L.length) L):=by
    refine Or.inr ⟨w.heap.size,0,L.length,rfl,hne,HM.out,by rw [ZdZ];simp,fun i hi=>?_,hsz,Nat.le_refl _,by rw [ZdZ];simp,fun i=>?_⟩
    · have:=World.cell?_setCells_in w.heap.size (L.map Value.string) 0 (w.alloc (.cells (madeCells #[.string ⟨#[]⟩] L.length) 9)) (fun j hj=>by rw [hcl] at hj;rw [Nat.zero_add,hrow.cell hj];rfl) i (by rw [hcl];exact hi)
      rw [this];simp
    · rw [World.frozen?_setCells,Nat.zero_add];exact hrow.frozen i
   have HB:Hid (Zw_ w ((w.alloc (.cells (madeCells #[.string ⟨#[]⟩] L.length) 9)).setCells w.heap.size 0 (L.map Value.string))):=ZeV _ Zl_ _ _ _ (Zb_.alloc Zl_ _);clear hrow hcl hc;generalize hW:(w.alloc (.cells (madeCells #[.string ⟨#[]⟩] L.length) 9)).setCells w.heap.size 0 (L.map Value.string)=W2 at*;clear hW;go_enter func209,ntmps209;go_wp2;go_ret;exact⟨_,rfl,HB.out,HOWN.out⟩
theorem Zae.form {lo hi:Nat} {w:World} {v:Value} {L:List Zy_} (h:Zae lo hi w v L):∃ a cap,v=.slice a L.length cap:=by
 rcases h with ⟨a,cap,h,rfl⟩ | ⟨b,off,cap,h,_⟩
 · exact⟨a,cap,h⟩
 · exact⟨_,cap,h⟩
theorem Zae.below {lo hi:Nat} {w w':World} {v:Value} {L:List Zy_} (h:Zae lo hi w v L) (hb:Zw_ w w'):Zae lo hi w' v L:=by
 rcases h with h | ⟨b,off,cap,h1,h2,h3,h4,h5,h6,h7,h8,h9⟩
 · exact Or.inl h
 · exact Or.inr ⟨b,off,cap,h1,h2,h3,Zk_ h4 hb.size,fun i hi'=>by rw [hb.cell (p:=⟨b,_,none⟩) h4];exact h5 i hi',h6,h7,h8,fun i=>by rw [hb.frozen (p:=⟨b,_,none⟩) h4];exact h9 i⟩
theorem Zae.wide {lo hi lo' hi':Nat} {w:World} {v:Value} {L:List Zy_} (h:Zae lo hi w v L) (h1:lo'≤lo) (h2:hi≤hi'):Zae lo' hi' w v L:=by
 rcases h with h | ⟨b,off,cap,q1,q2,q3,q4,q5,q6,q7,q8,q9⟩
 · exact Or.inl h
 · exact Or.inr ⟨b,off,cap,q1,q2,q3,q4,q5,q6,by omega,by omega,q9⟩
theorem Zae.setCell {lo hi:Nat} {w:World} {v:Value} {L:List Zy_} (h:Zae lo hi w v L) {p:Addr} (hp:p.block < lo) (u:Value):Zae lo hi (w.setCell p u) v L:=by
 rcases h with h | ⟨b,off,cap,h1,h2,h3,h4,h5,h6,h7,h8,h9⟩
 · exact Or.inl h
 · exact Or.inr ⟨b,off,cap,h1,h2,h3,by simpa [World.setCell] using h4,fun i hi'=>by rw [Zaq _ _ _ _ (by show b≠p.block;omega)];exact h5 i hi',h6,h7,h8,fun i=>by rw [World.frozen?_setCell];exact h9 i⟩
section
variable (kind nm team:Zy_) (vv hv:Value) (en:Bool) (ver:Int) (V Ho:List Zy_) (w:World)
def Zen (lo:Nat) (w:World) (v h:Value) (V Ho:List Zy_):Prop:=
 ∃ mid,lo≤mid∧mid≤w.heap.size∧Zae lo mid w v V∧Zae mid w.heap.size w h Ho
theorem Ze6 (hV:Zag w vv V) (hH:Zag w hv Ho) (n1:V.length≤1048576) (n2:Ho.length≤1048576) :
 Calls prog 163 #[.agg #[.string kind,.string nm,.string team,vv,.bool en,hv,.int .i64 ver]] w
  fun e w'=>∃ v' h',e=.returned (.agg #[.string kind,.string nm,.string team,v',.bool en,h',.int .i64 ver])∧Zw_ w w'∧Zen w.heap.size w' v' h' V Ho:=by
 have HV:=Zab hV;have HH:=Zab hH;obtain⟨a,n,cap,rfl⟩:=hV.form;obtain⟨a',n',cap',rfl⟩:=hH.form;clear hV hH;have HW:∀ o o',Hid (Zw_ w ((w.alloc o).alloc o')):=fun o o'=>(Zb_.alloc Zl_ _).alloc (by simp) _
 go_enter func163,ntmps163;go_wp2_with fail;refine (Zfe _ V _ (HV.out.below (HW _ _).out) n1).mono ?_;rintro e w1 ⟨v1,rfl,hb,hs⟩;obtain⟨a1,cap1,rfl⟩:=hs.form;have HS:Hid (Zae (w.heap.size+2) w1.heap.size w1 (.slice a1 V.length cap1) V):=hs.wide (by simp) Zl_;have hz:w.heap.size+1 < w1.heap.size:=by have:=hb.size;simp at this;omega
 obtain⟨hc,hf⟩:=Zf4 hb;have HB:Hid (Zw_ w w1):=(HW _ _).out.trans (hb.mono (by simp;omega));clear hb hs;have hz0:w.heap.size < w1.heap.size:=by omega
 have g0:∀ i,w1.cell? ⟨w.heap.size,i,none⟩=(#[.string kind,.string nm,.string team,.slice a n cap,.bool en,.slice a' n' cap',.int .i64 ver]:Array Value)[i]?:=fun i=>by
  rw [hc _ _ (by simp;omega),((Below.refl (w.alloc (.cells #[.string kind,.string nm,.string team,.slice a n cap,.bool en,.slice a' n' cap',.int .i64 ver] 155)).heap.size _).alloc Zl_ _).cell (p:=⟨w.heap.size,i,none⟩) (by simp)];simp
 have g1:∀ i,w1.cell? ⟨w.heap.size+1,i,none⟩=(#[.string ⟨#[]⟩,.string ⟨#[]⟩,.string ⟨#[]⟩,.slice none 0 0,.bool false,.slice none 0 0,.int .i64 0]:Array Value)[i]?:=fun i=>by
  rw [hc _ _ (by simp)];simp
 go_wp2_with fail;have hX:Hid (Zw_ w (w1.setCell ⟨w.heap.size,3,none⟩ (.slice a1 V.length cap1))):=HB.out.setCell Zl_ _;have hXs:(w1.setCell ⟨w.heap.size,3,none⟩ (.slice a1 V.length cap1)).heap.size=w1.heap.size:=by simp [World.setCell]
 have HS':=Zab (HS.out.setCell (p:=⟨w.heap.size,3,none⟩) (by simp only [];omega) (.slice a1 V.length cap1));refine (Zfe _ Ho _ (HH.out.below hX.out) n2).mono ?_;rintro e w2 ⟨v2,rfl,hb2,hs2⟩;obtain⟨a2,cap2,rfl⟩:=hs2.form;have HS2:Hid (Zae (w.heap.size+2) w1.heap.size w2 (.slice a1 V.length cap1) V):=HS'.out.below hb2;have HH2:Hid (Zae w1.heap.size w2.heap.size w2 (.slice a2 Ho.length cap2) Ho):=by unfold Hid;rw [← hXs];exact hs2
 have hz2:w.heap.size+1 < w2.heap.size:=by have:=hb2.size;rw [hXs] at this;omega
 have hz3:w1.heap.size≤w2.heap.size:=by have:=hb2.size;rw [hXs] at this;exact this
 have HB2:Hid (Zw_ w w2):=hX.out.trans (hb2.mono hX.out.size);have hc2:∀ b o,b < w1.heap.size→w2.cell? ⟨b,o,none⟩=(w1.setCell ⟨w.heap.size,3,none⟩ (.slice a1 V.length cap1)).cell? ⟨b,o,none⟩:=fun b o h=>hb2.cell (p:=⟨b,o,none⟩) (by rw [hXs];exact h)
 have hf2:∀ b o,b < w1.heap.size→w2.frozen? ⟨b,o,none⟩=(w1.setCell ⟨w.heap.size,3,none⟩ (.slice a1 V.length cap1)).frozen? ⟨b,o,none⟩:=fun b o h=>hb2.frozen (p:=⟨b,o,none⟩) (by rw [hXs];exact h)
 clear hb2 hs2 hXs;have k0:w2.cell? ⟨w.heap.size,0,none⟩=some (.string kind):=by rw [hc2 _ _ hz0];rw [show (w1.setCell ⟨w.heap.size,3,none⟩ (.slice a1 V.length cap1)).cell? ⟨w.heap.size,0,none⟩=w1.cell? ⟨w.heap.size,0,none⟩ from by apply World.cell?_setCell_other;simp,g0];rfl
 have k1:w2.cell? ⟨w.heap.size,1,none⟩=some (.string nm):=by rw [hc2 _ _ hz0];rw [show (w1.setCell ⟨w.heap.size,3,none⟩ (.slice a1 V.length cap1)).cell? ⟨w.heap.size,1,none⟩=w1.cell? ⟨w.heap.size,1,none⟩ from by apply World.cell?_setCell_other;simp,g0];rfl
 have k2:w2.cell? ⟨w.heap.size,2,none⟩=some (.string team):=by rw [hc2 _ _ hz0];rw [show (w1.setCell ⟨w.heap.size,3,none⟩ (.slice a1 V.length cap1)).cell? ⟨w.heap.size,2,none⟩=w1.cell? ⟨w.heap.size,2,none⟩ from by apply World.cell?_setCell_other;simp,g0];rfl
 have k3:w2.cell? ⟨w.heap.size,3,none⟩=some (.slice a1 V.length cap1):=by rw [hc2 _ _ hz0];exact World.cell?_setCell_same' _ _ _ (by rw [g0];rfl)
 have k4:w2.cell? ⟨w.heap.size,4,none⟩=some (.bool en):=by rw [hc2 _ _ hz0];rw [show (w1.setCell ⟨w.heap.size,3,none⟩ (.slice a1 V.length cap1)).cell? ⟨w.heap.size,4,none⟩=w1.cell? ⟨w.heap.size,4,none⟩ from by apply World.cell?_setCell_other;simp,g0];rfl
 have k5:w2.cell? ⟨w.heap.size,5,none⟩=some (.slice a' n' cap'):=by rw [hc2 _ _ hz0];rw [show (w1.setCell ⟨w.heap.size,3,none⟩ (.slice a1 V.length cap1)).cell? ⟨w.heap.size,5,none⟩=w1.cell? ⟨w.heap.size,5,none⟩ from by apply World.cell?_setCell_other;simp,g0];rfl
 have k6:w2.cell? ⟨w.heap.size,6,none⟩=some (.int .i64 ver):=by rw [hc2 _ _ hz0];rw [show (w1.setCell ⟨w.heap.size,3,none⟩ (.slice a1 V.length cap1)).cell? ⟨w.heap.size,6,none⟩=w1.cell? ⟨w.heap.size,6,none⟩ from by apply World.cell?_setCell_other;simp,g0];rfl
 have j0:w2.cell? ⟨w.heap.size+1,0,none⟩=some (.string ⟨#[]⟩):=by rw [hc2 _ _ hz,show (w1.setCell ⟨w.heap.size,3,none⟩ (.slice a1 V.length cap1)).cell? ⟨w.heap.size+1,0,none⟩=w1.cell? ⟨w.heap.size+1,0,none⟩ from by apply World.cell?_setCell_other;simp,g1];rfl
 have j1:w2.cell? ⟨w.heap.size+1,1,none⟩=some (.string ⟨#[]⟩):=by rw [hc2 _ _ hz,show (w1.setCell ⟨w.heap.size,3,none⟩ (.slice a1 V.length cap1)).cell? ⟨w.heap.size+1,1,none⟩=w1.cell? ⟨w.heap.size+1,1,none⟩ from by apply World.cell?_setCell_other;simp,g1];rfl
 have j2:w2.cell? ⟨w.heap.size+1,2,none⟩=some (.string ⟨#[]⟩):=by rw [hc2 _ _ hz,show (w1.setCell ⟨w.heap.size,3,none⟩ (.slice a1 V.length cap1)).cell? ⟨w.heap.size+1,2,none⟩=w1.cell? ⟨w.heap.size+1,2,none⟩ from by apply World.cell?_setCell_other;simp,g1];rfl
 have j3:w2.cell? ⟨w.heap.size+1,3,none⟩=some (.slice none 0 0):=by rw [hc2 _ _ hz,show (w1.setCell ⟨w.heap.size,3,none⟩ (.slice a1 V.length cap1)).cell? ⟨w.heap.size+1,3,none⟩=w1.cell? ⟨w.heap.size+1,3,none⟩ from by apply World.cell?_setCell_other;simp,g1];rfl
 have j4:w2.cell? ⟨w.heap.size+1,4,none⟩=some (.bool false):=by rw [hc2 _ _ hz,show (w1.setCell ⟨w.heap.size,3,none⟩ (.slice a1 V.length cap1)).cell? ⟨w.heap.size+1,4,none⟩=w1.cell? ⟨w.heap.size+1,4,none⟩ from by apply World.cell?_setCell_other;simp,g1];rfl
 have j5:w2.cell? ⟨w.heap.size+1,5,none⟩=some (.slice none 0 0):=by rw [hc2 _ _ hz,show (w1.setCell ⟨w.heap.size,3,none⟩ (.slice a1 V.length cap1)).cell? ⟨w.heap.size+1,5,none⟩=w1.cell? ⟨w.heap.size+1,5,none⟩ from by apply World.cell?_setCell_other;simp,g1];rfl
 have j6:w2.cell? ⟨w.heap.size+1,6,none⟩=some (.int .i64 0):=by rw [hc2 _ _ hz,show (w1.setCell ⟨w.heap.size,3,none⟩ (.slice a1 V.length cap1)).cell? ⟨w.heap.size+1,6,none⟩=w1.cell? ⟨w.heap.size+1,6,none⟩ from by apply World.cell?_setCell_other;simp,g1];rfl
 have fz0:∀ o,w2.frozen? ⟨w.heap.size,o,none⟩=false:=fun o=>by rw [hf2 _ _ hz0,World.frozen?_setCell,hf _ _ (by simp;omega)];simp
 have fz1:∀ o,w2.frozen? ⟨w.heap.size+1,o,none⟩=false:=fun o=>by rw [hf2 _ _ hz,World.frozen?_setCell,hf _ _ (by simp)];simp
 clear hc2 hf2 hc hf g0 g1;go_wp2;refine bodyPost_ret (v:=.agg #[.string kind,.string nm,.string team,.slice a1 V.length cap1,.bool en,.slice a2 Ho.length cap2,.int .i64 ver]) (by simp [results,results163,go_sem,j0,j1,j2,j3,j4,j5,j6]) rfl ⟨_,_,rfl,?_,w1.heap.size,by omega,by simp only [World.setCell,Array.size_modify];exact hz3,?_,?_⟩
 · repeat (refine Below.setCell ?_ (by simp only [];omega) _)
   exact HB2.out
 · refine Zae.wide (lo:=w.heap.size+2) (hi:=w1.heap.size) ?_ (by omega) Zl_
   repeat (refine Zae.setCell ?_ (by simp only [];omega) _)
   exact HS2.out
 · refine Zae.wide (lo:=w1.heap.size) (hi:=w2.heap.size) ?_ Zl_ (by simp [World.setCell])
   repeat (refine Zae.setCell ?_ (by simp only [];omega) _)
   exact HH2.out
end
end Go.Proofs.YtfohnageehneoaaGreat
