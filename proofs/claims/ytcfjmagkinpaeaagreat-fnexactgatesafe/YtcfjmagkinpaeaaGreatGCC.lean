import Derived.Test.YtcfjmagkinpaeaaGreatGA2
import Derived.Test.YtcfjmagkinpaeaaGreatGM2
import Derived.Laws.IdiomCopy
import Derived.Lib.LazyBuf
set_option maxHeartbeats 16000000
set_option maxRecDepth 100000
open Go.Proofs.Tryz
namespace Go.Proofs.YtcfjmagkinpaeaaGreat
open Go.RowKit Go.Deep
section
variable (kind nm team:Zy_) (vv hv:Value) (en:Bool) (ver:Int) (V Ho:List Zy_) (w:World)
def Zs9 (V Ho:List Zy_) (left r:Int):Prop:= -1≤r∧r≤left∧(0≤r→(V.length:Int)≤left∧(Ho.length:Int)≤left)
theorem Zor (left:Int) (hV:Zaf w vv V) (hH:Zaf w hv Ho) (h0:0≤left) (h1:left≤1048576) (s1:kind.size≤maxLen) (s2:nm.size≤maxLen) (s3:team.size≤maxLen) :
 Calls prog 73 #[.agg #[.string kind,.string nm,.string team,vv,.bool en,hv,.int .i64 ver],.int .i64 left] w
  fun e w'=>∃ r:Int,e=.returned (.int .i64 r)∧Zw_ w w'∧Zs9 V Ho left r:=by
 have HV:=Zab hV;have HH:=Zab hH;obtain⟨a,n,cap,rfl⟩:=hV.form;obtain⟨a',n',cap',rfl⟩:=hH.form;clear hV hH;unfold maxLen at s1 s2 s3;have HW:∀ o,Hid (Zw_ w (w.alloc o)):=fun o=>Zb_.alloc Zl_ _
 by_cases c1:(kind.size:Int)≤left
 · by_cases c2:(kind.size:Int)+nm.size≤left
   · by_cases c3:(kind.size:Int)+nm.size+team.size≤left
     · go_enter func73,ntmps73
       go_wp2_with fail;refine (ZdE _ V _ _ (by omega) (by omega) (HV.out.below (HW _).out)).mono ?_;rintro e w1 ⟨r,rfl,rfl,q0,q1,q2⟩
       by_cases hr:r < 0
       · go_wp2
         go_ret;exact⟨-1,rfl,(HW _).out,by omega,by omega,fun h=>by omega⟩
       · go_wp2_with fail
         refine (ZdE _ Ho _ _ (by omega) (by omega) (HH.out.below (HW _).out)).mono ?_;rintro e w1 ⟨r2,rfl,rfl,p0,p1,p2⟩;go_wp2
         all_goals go_ret
         all_goals first
          | exact⟨_,rfl,(HW _).out,by omega,by omega,fun h=>⟨by have:=q2 (by omega);omega,by have:=p2 (by omega);omega⟩⟩
          | exact⟨-1,rfl,(HW _).out,by omega,by omega,fun h=>by omega⟩
     · go_enter func73,ntmps73
       go_wp2;go_ret;exact⟨-1,rfl,(HW _).out,by omega,by omega,fun h=>by omega⟩
   · go_enter func73,ntmps73
     go_wp2;go_ret;exact⟨-1,rfl,(HW _).out,by omega,by omega,fun h=>by omega⟩
 · go_enter func73,ntmps73
   go_wp2;go_ret;exact⟨-1,rfl,(HW _).out,by omega,by omega,fun h=>by omega⟩
theorem ZoJ (hV:Zaf w vv V) (hH:Zaf w hv Ho) (n1:V.length≤1048576) (n2:Ho.length≤1048576) :
 Calls prog 80 #[.agg #[.string kind,.string nm,.string team,vv,.bool en,hv,.int .i64 ver]] w
  fun e w'=>∃ v' h',e=.returned (.agg #[.string kind,.string nm,.string team,v',.bool en,h',.int .i64 ver])∧Zw_ w w'∧Zan w.heap.size w' v' V∧Zan w.heap.size w' h' Ho:=by
 have HV:=Zab hV;have HH:=Zab hH;obtain⟨a,n,cap,rfl⟩:=hV.form;obtain⟨a',n',cap',rfl⟩:=hH.form;clear hV hH;have HW:∀ o o' o'',Hid (Zw_ w (((w.alloc o).alloc o').alloc o'')):=fun o o' o''=>((Zb_.alloc Zl_ _).alloc (by simp) _).alloc (by simp;omega) _
 go_enter func80,ntmps80;go_wp2_with fail;refine (ZdI _ V _ (HV.out.below (HW _ _ _).out) n1).mono ?_;rintro e w1 ⟨v1,rfl,hb,hs⟩;obtain⟨a1,m1,cap1,rfl⟩:=hs.form;have HS:Hid (Zan (w.heap.size+3) w1 (.slice a1 m1 cap1) V):=hs.mono (by simp);have hz:w.heap.size+2 < w1.heap.size:=by have:=hb.size;simp at this;omega
 obtain⟨hc,hf⟩:=Zg7 hb;have HB:Hid (Zw_ w w1):=(HW _ _ _).out.trans (hb.mono (by simp;omega));clear hb hs;go_wp2_with fail;have hX:Hid (Zw_ w ((w1.setCell ⟨w.heap.size+1+1,3,none⟩ (.slice a1 m1 cap1)).setCell ⟨w.heap.size+1+1,4,none⟩ (.bool en))):=(HB.out.setCell (by simp only [];omega) _).setCell (by simp only [];omega) _;have hXs:((w1.setCell ⟨w.heap.size+1+1,3,none⟩ (.slice a1 m1 cap1)).setCell ⟨w.heap.size+1+1,4,none⟩ (.bool en)).heap.size=w1.heap.size:=by simp [World.setCell]
 have HS':=Zab ((HS.out.setCell (p:=⟨w.heap.size+1+1,3,none⟩) (by simp only [];omega) (.slice a1 m1 cap1)).setCell (p:=⟨w.heap.size+1+1,4,none⟩) (by simp only [];omega) (.bool en));refine (ZdI _ Ho _ (HH.out.below hX.out) n2).mono ?_;rintro e w2 ⟨v2,rfl,hb2,hs2⟩;obtain⟨a2,m2,cap2,rfl⟩:=hs2.form;have HS2:Hid (Zan (w.heap.size+3) w2 (.slice a1 m1 cap1) V):=HS'.out.below hb2;have HH2:Hid (Zan (w.heap.size+3) w2 (.slice a2 m2 cap2) Ho):=hs2.mono (by rw [hXs];omega);have hz2:w.heap.size+2 < w2.heap.size:=by have:=hb2.size;rw [hXs] at this;omega
 have HB2:Hid (Zw_ w w2):=hX.out.trans (hb2.mono hX.out.size);have hc2:∀ b o,b < w1.heap.size→w2.cell? ⟨b,o,none⟩=((w1.setCell ⟨w.heap.size+1+1,3,none⟩ (.slice a1 m1 cap1)).setCell ⟨w.heap.size+1+1,4,none⟩ (.bool en)).cell? ⟨b,o,none⟩:=fun b o h=>hb2.cell (p:=⟨b,o,none⟩) (by rw [hXs];exact h)
 have hf2:∀ b o,b < w1.heap.size→w2.frozen? ⟨b,o,none⟩=((w1.setCell ⟨w.heap.size+1+1,3,none⟩ (.slice a1 m1 cap1)).setCell ⟨w.heap.size+1+1,4,none⟩ (.bool en)).frozen? ⟨b,o,none⟩:=fun b o h=>hb2.frozen (p:=⟨b,o,none⟩) (by rw [hXs];exact h)
 clear hb2 hs2 hXs;have hz0:w.heap.size < w1.heap.size:=by omega
 have hz1:w.heap.size+1 < w1.heap.size:=by omega
 have hz1':w.heap.size+1+1 < w1.heap.size:=by omega
 go_wp2;refine bodyPost_ret (v:=.agg #[.string kind,.string nm,.string team,.slice a1 m1 cap1,.bool en,.slice a2 m2 cap2,.int .i64 ver]) (by simp [results,results80,go_sem,hc,hc2,hz1]) rfl ⟨_,_,rfl,?_,?_,?_⟩
 · repeat (refine Below.setCell ?_ (by simp only [];omega) _)
   exact HB2.out
 · refine Zan.mono (lo:=w.heap.size+3) ?_ (by omega)
   repeat (refine Zan.setCell ?_ (by simp only [];omega) _)
   exact HS2.out
 · refine Zan.mono (lo:=w.heap.size+3) ?_ (by omega)
   repeat (refine Zan.setCell ?_ (by simp only [];omega) _)
   exact HH2.out
theorem ZlQ (vv' hv':Value) (hV:Zaf w vv V) (hH:Zaf w hv Ho) (hV':Zaf w vv' V) (hH':Zaf w hv' Ho) :
 Calls prog 92 #[.agg #[.string kind,.string nm,.string team,vv,.bool en,hv,.int .i64 ver],.agg #[.string kind,.string nm,.string team,vv',.bool en,hv',.int .i64 ver]] w
  fun e w'=>e=.returned (.bool true)∧Zw_ w w':=by
 have HV:=Zab hV;have HH:=Zab hH;have HV':=Zab hV';have HH':=Zab hH';obtain⟨a,n,cap,rfl⟩:=hV.form;obtain⟨a1,n1,cap1,rfl⟩:=hH.form;obtain⟨a2,n2,cap2,rfl⟩:=hV'.form;obtain⟨a3,n3,cap3,rfl⟩:=hH'.form;clear hV hH hV' hH';have HW:∀ o o',Hid (Zw_ w ((w.alloc o).alloc o')):=fun o o'=>(Zb_.alloc Zl_ _).alloc (by simp) _
 go_enter func92,ntmps92;go_wp2_with fail;refine (Zc2 _ _ V _ (HV.out.below (HW _ _).out) (HV'.out.below (HW _ _).out)).mono ?_;rintro e w1 ⟨rfl,hb⟩;have hz:w.heap.size+1 < w1.heap.size:=by have:=hb.size;simp at this;omega
 have HB:Hid (Zw_ w w1):=(HW _ _).out.trans (hb.mono (by simp;omega));obtain⟨hc,hf⟩:=Zg7 hb;clear hb;go_wp2_with fail;refine (Zc2 _ _ Ho _ (HH.out.below HB.out) (HH'.out.below HB.out)).mono ?_;rintro e w2 ⟨rfl,hb2⟩;have HB2:Hid (Zw_ w w2):=HB.out.trans (hb2.mono HB.out.size);have hz2:w.heap.size < w1.heap.size:=by omega
 obtain⟨hc2,hf2⟩:=Zg7 hb2;clear hb2;go_wp2;go_ret;exact⟨rfl,HB2.out⟩
end
theorem Tryz.size9:(prog.info? 9).map (·.size)=some 1:=by kernel_rfl
theorem ZeJ {B:Nat} {a:World} (b:Nat) (hb:B≤b):∀ (vs:List Value) (o:Nat) (w:World),Below B a w→Below B a (w.setCells b o vs)
 | [],_,_,h=>h
 | v :: r,o,w,h=>by
  rw [World.setCells];exact ZeJ b hb r (o+1) _ (h.setCell hb v)
theorem ZdV (b:Nat):∀ (vs:List Value) (o:Nat) (w:World),(w.setCells b o vs).heap.size=w.heap.size
 | [],_,_=>rfl
 | v :: r,o,w=>by rw [World.setCells,ZdV b r];simp [World.setCell]
theorem Zfd (v:Value) (L:List Zy_) (w:World) (hv:Zaf w v L) (hn:L.length≤1048576) :
 Calls prog 258 #[v] w fun e w'=>∃ v',e=.returned v'∧Zw_ w w'∧Zai w.heap.size w'.heap.size w' v' L:=by
 have hnil:=fun W a n c=>Lib.run_eql_slice_nil (P:=prog) W 120 9 a n c 0 0 underlying120
 rcases hv with ⟨a,cap,rfl,rfl⟩ | ⟨b,off,cap,rfl,hne,hm,hbw,hc,hsz⟩
 · have hmk:∀ u:World,(Instr.makeSlice 120 (.int .i64 0) (.int .i64 0)).run prog u=.ok (.slice (some ⟨u.heap.size,0,none⟩) 0 0) (u.alloc (.cells (madeCells #[.string ⟨#[]⟩] 0) 9)):=
    fun u=>run_make_row' 120 9 (.string ⟨#[]⟩) 16 underlying120 Tryz.info9 rfl .i64 .i64 0 (by omega) (by omega) u
   have hcp:=fun (W:World) ty (d:Option Addr) dl dc=>run_copy_none (P:=prog) W 120 120 ty 9 d a dl dc 0 cap underlying120 Tryz.size9 (by simp)
   cases a with
   | none=>
    go_enter func258,ntmps258;go_wp2;go_ret;exact⟨_,rfl,Below.refl _ _,Or.inl ⟨_,_,rfl,rfl⟩⟩
   | some ad=>
    go_enter func258,ntmps258;go_wp2;go_ret;exact⟨_,rfl,Zb_.alloc Zl_ _,Or.inl ⟨_,_,rfl,rfl⟩⟩
 · have HM:Hid (L.length≤maxLen):=hm
   unfold maxLen at hm
   have hmk:∀ u:World,(Instr.makeSlice 120 (.int .i64 (L.length:Int)) (.int .i64 (L.length:Int))).run prog u=.ok (.slice (some ⟨u.heap.size,0,none⟩) L.length L.length) (u.alloc (.cells (madeCells #[.string ⟨#[]⟩] L.length) 9)):=
    fun u=>run_make_row' 120 9 (.string ⟨#[]⟩) 16 underlying120 Tryz.info9 rfl .i64 .i64 L.length (by omega) (by omega) u
   have hrow:=World.rowIs_made w (.string ⟨#[]⟩) L.length 9;have hcl:(L.map Value.string).length=L.length:=by simp
   have hcp:∀ ty,(Builtin.copy_ #[120,120] ty #[.slice (some ⟨w.heap.size,0,none⟩) L.length L.length,.slice (some ⟨b,off,none⟩) L.length cap]).run prog (w.alloc (.cells (madeCells #[.string ⟨#[]⟩] L.length) 9))=.ok (goInt L.length) ((w.alloc (.cells (madeCells #[.string ⟨#[]⟩] L.length) 9)).setCells w.heap.size 0 (L.map Value.string)):=fun ty=>by
    have:=run_copy_cells (P:=prog) (w.alloc (.cells (madeCells #[.string ⟨#[]⟩] L.length) 9)) 120 120 ty 9 w.heap.size 0 L.length L.length ⟨b,off,none⟩ L.length cap (L.map Value.string) underlying120 Tryz.size9 (by simp) (fun j u hj=>by
     obtain⟨hj1,hj2⟩:=List.getElem?_eq_some_iff.1 hj;rw [hcl] at hj1;rw [Go.WideShapes.add_plain,((Below.refl w.heap.size w).alloc Zl_ _).cell (p:=⟨b,off+j,none⟩) hbw,hc j hj1,← hj2];simp) (fun j hj=>by rw [hcl] at hj;rw [Nat.zero_add,hrow.cell hj];rfl) (fun j _=>by rw [Nat.zero_add];exact hrow.frozen j) (fun u hu=>by
     obtain⟨s,_,rfl⟩:=List.mem_map.1 hu;rfl)
    rw [hcl] at this;exact this
   have HOWN:Hid (Zai w.heap.size ((w.alloc (.cells (madeCells #[.string ⟨#[]⟩] L.length) 9)).setCells w.heap.size 0 (L.map Value.string)).heap.size ((w.alloc (.cells (madeCells #[.string ⟨#[]⟩] L.length) 9)).setCells w.heap.size 0 (L.map Value.string)) (.slice (some ⟨w.heap.size,0,none⟩) L.length L.length) L):=by
    refine Or.inr ⟨w.heap.size,0,L.length,rfl,hne,HM.out,by rw [ZdV];simp,fun i hi=>?_,hsz,Nat.le_refl _,by rw [ZdV];simp,fun i=>?_⟩
    · have:=World.cell?_setCells_in w.heap.size (L.map Value.string) 0 (w.alloc (.cells (madeCells #[.string ⟨#[]⟩] L.length) 9)) (fun j hj=>by rw [hcl] at hj;rw [Nat.zero_add,hrow.cell hj];rfl) i (by rw [hcl];exact hi)
      rw [this];simp
    · rw [World.frozen?_setCells,Nat.zero_add];exact hrow.frozen i
   have HB:Hid (Zw_ w ((w.alloc (.cells (madeCells #[.string ⟨#[]⟩] L.length) 9)).setCells w.heap.size 0 (L.map Value.string))):=ZeJ _ Zl_ _ _ _ (Zb_.alloc Zl_ _);clear hrow hcl hc;generalize hW:(w.alloc (.cells (madeCells #[.string ⟨#[]⟩] L.length) 9)).setCells w.heap.size 0 (L.map Value.string)=W2 at*;clear hW;go_enter func258,ntmps258;go_wp2;go_ret;exact⟨_,rfl,HB.out,HOWN.out⟩
theorem Zai.form {lo hi:Nat} {w:World} {v:Value} {L:List Zy_} (h:Zai lo hi w v L):∃ a cap,v=.slice a L.length cap:=by
 rcases h with ⟨a,cap,h,rfl⟩ | ⟨b,off,cap,h,_⟩
 · exact⟨a,cap,h⟩
 · exact⟨_,cap,h⟩
theorem Zai.below {lo hi:Nat} {w w':World} {v:Value} {L:List Zy_} (h:Zai lo hi w v L) (hb:Zw_ w w'):Zai lo hi w' v L:=by
 rcases h with h | ⟨b,off,cap,h1,h2,h3,h4,h5,h6,h7,h8,h9⟩
 · exact Or.inl h
 · exact Or.inr ⟨b,off,cap,h1,h2,h3,Zk_ h4 hb.size,fun i hi'=>by rw [hb.cell (p:=⟨b,_,none⟩) h4];exact h5 i hi',h6,h7,h8,fun i=>by rw [hb.frozen (p:=⟨b,_,none⟩) h4];exact h9 i⟩
theorem Zai.wide {lo hi lo' hi':Nat} {w:World} {v:Value} {L:List Zy_} (h:Zai lo hi w v L) (h1:lo'≤lo) (h2:hi≤hi'):Zai lo' hi' w v L:=by
 rcases h with h | ⟨b,off,cap,q1,q2,q3,q4,q5,q6,q7,q8,q9⟩
 · exact Or.inl h
 · exact Or.inr ⟨b,off,cap,q1,q2,q3,q4,q5,q6,by omega,by omega,q9⟩
theorem Zai.setCell {lo hi:Nat} {w:World} {v:Value} {L:List Zy_} (h:Zai lo hi w v L) {p:Addr} (hp:p.block < lo) (u:Value):Zai lo hi (w.setCell p u) v L:=by
 rcases h with h | ⟨b,off,cap,h1,h2,h3,h4,h5,h6,h7,h8,h9⟩
 · exact Or.inl h
 · exact Or.inr ⟨b,off,cap,h1,h2,h3,by simpa [World.setCell] using h4,fun i hi'=>by rw [Zar _ _ _ _ (by show b≠p.block;omega)];exact h5 i hi',h6,h7,h8,fun i=>by rw [World.frozen?_setCell];exact h9 i⟩
section
variable (kind nm team:Zy_) (vv hv:Value) (en:Bool) (ver:Int) (V Ho:List Zy_) (w:World)
def ZfE (lo:Nat) (w:World) (v h:Value) (V Ho:List Zy_):Prop:=
 ∃ mid,lo≤mid∧mid≤w.heap.size∧Zai lo mid w v V∧Zai mid w.heap.size w h Ho
theorem Zgr (hV:Zaf w vv V) (hH:Zaf w hv Ho) (n1:V.length≤1048576) (n2:Ho.length≤1048576) :
 Calls prog 250 #[.agg #[.string kind,.string nm,.string team,vv,.bool en,hv,.int .i64 ver]] w
  fun e w'=>∃ v' h',e=.returned (.agg #[.string kind,.string nm,.string team,v',.bool en,h',.int .i64 ver])∧Zw_ w w'∧ZfE w.heap.size w' v' h' V Ho:=by
 have HV:=Zab hV;have HH:=Zab hH;obtain⟨a,n,cap,rfl⟩:=hV.form;obtain⟨a',n',cap',rfl⟩:=hH.form;clear hV hH;have HW:∀ o o',Hid (Zw_ w ((w.alloc o).alloc o')):=fun o o'=>(Zb_.alloc Zl_ _).alloc (by simp) _
 go_enter func250,ntmps250;go_wp2_with fail;refine (Zfd _ V _ (HV.out.below (HW _ _).out) n1).mono ?_;rintro e w1 ⟨v1,rfl,hb,hs⟩;obtain⟨a1,cap1,rfl⟩:=hs.form;have HS:Hid (Zai (w.heap.size+2) w1.heap.size w1 (.slice a1 V.length cap1) V):=hs.wide (by simp) Zl_;have hz:w.heap.size+1 < w1.heap.size:=by have:=hb.size;simp at this;omega
 obtain⟨hc,hf⟩:=Zg7 hb;have HB:Hid (Zw_ w w1):=(HW _ _).out.trans (hb.mono (by simp;omega));clear hb hs;have hz0:w.heap.size < w1.heap.size:=by omega
 have g0:∀ i,w1.cell? ⟨w.heap.size,i,none⟩=(#[.string kind,.string nm,.string team,.slice a n cap,.bool en,.slice a' n' cap',.int .i64 ver]:Array Value)[i]?:=fun i=>by
  rw [hc _ _ (by simp;omega),((Below.refl (w.alloc (.cells #[.string kind,.string nm,.string team,.slice a n cap,.bool en,.slice a' n' cap',.int .i64 ver] 160)).heap.size _).alloc Zl_ _).cell (p:=⟨w.heap.size,i,none⟩) (by simp)];simp
 have g1:∀ i,w1.cell? ⟨w.heap.size+1,i,none⟩=(#[.string ⟨#[]⟩,.string ⟨#[]⟩,.string ⟨#[]⟩,.slice none 0 0,.bool false,.slice none 0 0,.int .i64 0]:Array Value)[i]?:=fun i=>by
  rw [hc _ _ (by simp)];simp
 go_wp2_with fail;have hX:Hid (Zw_ w (w1.setCell ⟨w.heap.size,3,none⟩ (.slice a1 V.length cap1))):=HB.out.setCell Zl_ _;have hXs:(w1.setCell ⟨w.heap.size,3,none⟩ (.slice a1 V.length cap1)).heap.size=w1.heap.size:=by simp [World.setCell]
 have HS':=Zab (HS.out.setCell (p:=⟨w.heap.size,3,none⟩) (by simp only [];omega) (.slice a1 V.length cap1));refine (Zfd _ Ho _ (HH.out.below hX.out) n2).mono ?_;rintro e w2 ⟨v2,rfl,hb2,hs2⟩;obtain⟨a2,cap2,rfl⟩:=hs2.form;have HS2:Hid (Zai (w.heap.size+2) w1.heap.size w2 (.slice a1 V.length cap1) V):=HS'.out.below hb2;have HH2:Hid (Zai w1.heap.size w2.heap.size w2 (.slice a2 Ho.length cap2) Ho):=by unfold Hid;rw [← hXs];exact hs2
 have hz2:w.heap.size+1 < w2.heap.size:=by have:=hb2.size;rw [hXs] at this;omega
 have hz3:w1.heap.size≤w2.heap.size:=by have:=hb2.size;rw [hXs] at this;exact this
 have HB2:Hid (Zw_ w w2):=hX.out.trans (hb2.mono hX.out.size);have hc2:∀ b o,b < w1.heap.size→w2.cell? ⟨b,o,none⟩=(w1.setCell ⟨w.heap.size,3,none⟩ (.slice a1 V.length cap1)).cell? ⟨b,o,none⟩:=fun b o h=>hb2.cell (p:=⟨b,o,none⟩) (by rw [hXs];exact h)
 have hf2:∀ b o,b < w1.heap.size→w2.frozen? ⟨b,o,none⟩=(w1.setCell ⟨w.heap.size,3,none⟩ (.slice a1 V.length cap1)).frozen? ⟨b,o,none⟩:=fun b o h=>hb2.frozen (p:=⟨b,o,none⟩) (by rw [hXs];exact h)
 clear hb2 hs2 hXs;have k0:w2.cell? ⟨w.heap.size,0,none⟩=some (.string kind):=by rw [hc2 _ _ hz0];rw [show (w1.setCell ⟨w.heap.size,3,none⟩ (.slice a1 V.length cap1)).cell? ⟨w.heap.size,0,none⟩=w1.cell? ⟨w.heap.size,0,none⟩ from by apply World.cell?_setCell_other;simp,g0];rfl
 have k1:w2.cell? ⟨w.heap.size,1,none⟩=some (.string nm):=by rw [hc2 _ _ hz0];rw [show (w1.setCell ⟨w.heap.size,3,none⟩ (.slice a1 V.length cap1)).cell? ⟨w.heap.size,1,none⟩=w1.cell? ⟨w.heap.size,1,none⟩ from by apply World.cell?_setCell_other;simp,g0];rfl
 have k2:w2.cell? ⟨w.heap.size,2,none⟩=some (.string team):=by rw [hc2 _ _ hz0];rw [show (w1.setCell ⟨w.heap.size,3,none⟩ (.slice a1 V.length cap1)).cell? ⟨w.heap.size,2,none⟩=w1.cell? ⟨w.heap.size,2,none⟩ from by apply World.cell?_setCell_other;simp,g0];rfl
 have k3:w2.cell? ⟨w.heap.size,3,none⟩=some (.slice a1 V.length cap1):=by rw [hc2 _ _ hz0];exact World.cell?_setCell_same' _ _ _ (by rw [g0];rfl)
 have k4:w2.cell? ⟨w.heap.size,4,none⟩=some (.bool en):=by rw [hc2 _ _ hz0];rw [show (w1.setCell ⟨w.heap.size,3,none⟩ (.slice a1 V.length cap1)).cell? ⟨w.heap.size,4,none⟩=w1.cell? ⟨w.heap.size,4,none⟩ from by apply World.cell?_setCell_other;simp,g0];rfl
 have k5:w2.cell? ⟨w.heap.size,5,none⟩=some (.slice a' n' cap'):=by rw [hc2 _ _ hz0];rw [show (w1.setCell ⟨w.heap.size,3,none⟩ (.slice a1 V.length cap1)).cell? ⟨w.heap.size,5,none⟩=w1.cell? ⟨w.heap.size,5,none⟩ from by apply World.cell?_setCell_other;simp,g0];rfl
 have k6:w2.cell? ⟨w.heap.size,6,none⟩=some (.int .i64 ver):=by rw [hc2 _ _ hz0];rw [show (w1.setCell ⟨w.heap.size,3,none⟩ (.slice a1 V.length cap1)).cell? ⟨w.heap.size,6,none⟩=w1.cell? ⟨w.heap.size,6,none⟩ from by apply World.cell?_setCell_other;simp,g0];rfl
 have j0:w2.cell? ⟨w.heap.size+1,0,none⟩=some (.string ⟨#[]⟩):=by rw [hc2 _ _ hz,show (w1.setCell ⟨w.heap.size,3,none⟩ (.slice a1 V.length cap1)).cell? ⟨w.heap.size+1,0,none⟩=w1.cell? ⟨w.heap.size+1,0,none⟩ from by apply World.cell?_setCell_other;simp,g1];rfl
 have j1:w2.cell? ⟨w.heap.size+1,1,none⟩=some (.string ⟨#[]⟩):=by rw [hc2 _ _ hz,show (w1.setCell ⟨w.heap.size,3,none⟩ (.slice a1 V.length cap1)).cell? ⟨w.heap.size+1,1,none⟩=w1.cell? ⟨w.heap.size+1,1,none⟩ from by apply World.cell?_setCell_other;simp,g1];rfl
 have j2:w2.cell? ⟨w.heap.size+1,2,none⟩=some (.string ⟨#[]⟩):=by rw [hc2 _ _ hz,show (w1.setCell ⟨w.heap.size,3,none⟩ (.slice a1 V.length cap1)).cell? ⟨w.heap.size+1,2,none⟩=w1.cell? ⟨w.heap.size+1,2,none⟩ from by apply World.cell?_setCell_other;simp,g1];rfl
 have j3:w2.cell? ⟨w.heap.size+1,3,none⟩=some (.slice none 0 0):=by rw [hc2 _ _ hz,show (w1.setCell ⟨w.heap.size,3,none⟩ (.slice a1 V.length cap1)).cell? ⟨w.heap.size+1,3,none⟩=w1.cell? ⟨w.heap.size+1,3,none⟩ from by apply World.cell?_setCell_other;simp,g1];rfl
 have j4:w2.cell? ⟨w.heap.size+1,4,none⟩=some (.bool false):=by rw [hc2 _ _ hz,show (w1.setCell ⟨w.heap.size,3,none⟩ (.slice a1 V.length cap1)).cell? ⟨w.heap.size+1,4,none⟩=w1.cell? ⟨w.heap.size+1,4,none⟩ from by apply World.cell?_setCell_other;simp,g1];rfl
 have j5:w2.cell? ⟨w.heap.size+1,5,none⟩=some (.slice none 0 0):=by rw [hc2 _ _ hz,show (w1.setCell ⟨w.heap.size,3,none⟩ (.slice a1 V.length cap1)).cell? ⟨w.heap.size+1,5,none⟩=w1.cell? ⟨w.heap.size+1,5,none⟩ from by apply World.cell?_setCell_other;simp,g1];rfl
 have j6:w2.cell? ⟨w.heap.size+1,6,none⟩=some (.int .i64 0):=by rw [hc2 _ _ hz,show (w1.setCell ⟨w.heap.size,3,none⟩ (.slice a1 V.length cap1)).cell? ⟨w.heap.size+1,6,none⟩=w1.cell? ⟨w.heap.size+1,6,none⟩ from by apply World.cell?_setCell_other;simp,g1];rfl
 have fz0:∀ o,w2.frozen? ⟨w.heap.size,o,none⟩=false:=fun o=>by rw [hf2 _ _ hz0,World.frozen?_setCell,hf _ _ (by simp;omega)];simp
 have fz1:∀ o,w2.frozen? ⟨w.heap.size+1,o,none⟩=false:=fun o=>by rw [hf2 _ _ hz,World.frozen?_setCell,hf _ _ (by simp)];simp
 clear hc2 hf2 hc hf g0 g1;go_wp2;refine bodyPost_ret (v:=.agg #[.string kind,.string nm,.string team,.slice a1 V.length cap1,.bool en,.slice a2 Ho.length cap2,.int .i64 ver]) (by simp [results,results250,go_sem,j0,j1,j2,j3,j4,j5,j6]) rfl ⟨_,_,rfl,?_,w1.heap.size,by omega,by simp only [World.setCell,Array.size_modify];exact hz3,?_,?_⟩
 · repeat (refine Below.setCell ?_ (by simp only [];omega) _)
   exact HB2.out
 · refine Zai.wide (lo:=w.heap.size+2) (hi:=w1.heap.size) ?_ (by omega) Zl_
   repeat (refine Zai.setCell ?_ (by simp only [];omega) _)
   exact HS2.out
 · refine Zai.wide (lo:=w1.heap.size) (hi:=w2.heap.size) ?_ Zl_ (by simp [World.setCell])
   repeat (refine Zai.setCell ?_ (by simp only [];omega) _)
   exact HH2.out
end
end Go.Proofs.YtcfjmagkinpaeaaGreat
