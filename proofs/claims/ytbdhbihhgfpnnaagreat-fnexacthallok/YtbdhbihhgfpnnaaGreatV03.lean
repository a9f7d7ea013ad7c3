import Derived.Test.YtbdhbihhgfpnnaaGreatV02
set_option maxHeartbeats 16000000
set_option maxRecDepth 100000
open Go.Proofs.Tryz
namespace Go.Proofs.YtbdhbihhgfpnnaaGreat
open Go.RowKit Go.Deep
section
section
variable (kind nm team:Zy_) (vv hv:Value) (en:Bool) (ver:Int) (V Ho:List Zy_) (w:World)
def ZsA (V Ho:List Zy_) (left r:Int):Prop:= -1<=r/\r<=left/\(0<=r->(V.length:Int)<=left/\(Ho.length:Int)<=left)
theorem Zok (left:Int) (hV:Zae w vv V) (hH:Zae w hv Ho) (h0:0<=left) (h1:left<=1048576) (s1:kind.size<=maxLen) (s2:nm.size<=maxLen) (s3:team.size<=maxLen) :
 Calls prog 89 #[.agg #[.string kind,.string nm,.string team,vv,.bool en,hv,.int .i64 ver],.int .i64 left] w
  fun e w'=>∃ r:Int,e=.returned (.int .i64 r)/\Zw_ w w'/\ZsA V Ho left r:=by
 have HV:=Zab hV;have HH:=Zab hH;obtain⟨a,n,cap,rfl⟩:=hV.form;obtain⟨a',n',cap',rfl⟩:=hH.form;clear hV hH;unfold maxLen at s1 s2 s3;have HW:∀ o,Hd (Zw_ w (w.alloc o)):=fun o=>Zb_.alloc Zl_ _
 by_cases c1:(kind.size:Int)<=left
 . by_cases c2:(kind.size:Int)+nm.size<=left
   . by_cases c3:(kind.size:Int)+nm.size+team.size<=left
     . go_enter func89,ntmps89
       go_wp2_with fail;refine (ZhQ _ V _ _ (by omega) (by omega) (HV.o.below (HW _).o)).mono ?_;rintro e w1 ⟨r,rfl,rfl,q0,q1,q2⟩
       by_cases hr:r < 0
       . go_wp2
         go_ret;exact⟨-1,rfl,(HW _).o,by omega,by omega,fun h=>by omega⟩
       . go_wp2_with fail
         refine (ZhQ _ Ho _ _ (by omega) (by omega) (HH.o.below (HW _).o)).mono ?_;rintro e w1 ⟨r2,rfl,rfl,p0,p1,p2⟩;go_wp2
         all_goals go_ret
         all_goals first
          | exact⟨_,rfl,(HW _).o,by omega,by omega,fun h=>⟨by have:=q2 (by omega);omega,by have:=p2 (by omega);omega⟩⟩
          | exact⟨-1,rfl,(HW _).o,by omega,by omega,fun h=>by omega⟩
     . go_enter func89,ntmps89
       go_wp2;go_ret;exact⟨-1,rfl,(HW _).o,by omega,by omega,fun h=>by omega⟩
   . go_enter func89,ntmps89
     go_wp2;go_ret;exact⟨-1,rfl,(HW _).o,by omega,by omega,fun h=>by omega⟩
 . go_enter func89,ntmps89
   go_wp2;go_ret;exact⟨-1,rfl,(HW _).o,by omega,by omega,fun h=>by omega⟩
theorem ZoA (hV:Zae w vv V) (hH:Zae w hv Ho) (n1:V.length<=1048576) (n2:Ho.length<=1048576) :
 Calls prog 112 #[.agg #[.string kind,.string nm,.string team,vv,.bool en,hv,.int .i64 ver]] w
  fun e w'=>∃ v' h',e=.returned (.agg #[.string kind,.string nm,.string team,v',.bool en,h',.int .i64 ver])/\Zw_ w w'/\Zas w.heap.size w' v' V/\Zas w.heap.size w' h' Ho:=by
 have HV:=Zab hV;have HH:=Zab hH;obtain⟨a,n,cap,rfl⟩:=hV.form;obtain⟨a',n',cap',rfl⟩:=hH.form;clear hV hH;have HW:∀ o o' o'',Hd (Zw_ w (((w.alloc o).alloc o').alloc o'')):=fun o o' o''=>((Zb_.alloc Zl_ _).alloc (by simp) _).alloc (by simp;omega) _
 go_enter func112,ntmps112;go_wp2_with fail;refine (ZhS _ V _ (HV.o.below (HW _ _ _).o) n1).mono ?_;rintro e w1 ⟨v1,rfl,hb,hs⟩;obtain⟨a1,m1,cap1,rfl⟩:=hs.form;have HS:Hd (Zas (w.heap.size+3) w1 (.slice a1 m1 cap1) V):=hs.mono (by simp);have hz:w.heap.size+2 < w1.heap.size:=by have:=hb.size;simp at this;omega
 obtain⟨hc,hf⟩:=Zkb hb;have HB:Hd (Zw_ w w1):=(HW _ _ _).o.trans (hb.mono (by simp;omega));clear hb hs;go_wp2_with fail;have hX:Hd (Zw_ w ((w1.setCell ⟨w.heap.size+1+1,3,none⟩ (.slice a1 m1 cap1)).setCell ⟨w.heap.size+1+1,4,none⟩ (.bool en))):=(HB.o.setCell (by simp only [];omega) _).setCell (by simp only [];omega) _;have hXs:((w1.setCell ⟨w.heap.size+1+1,3,none⟩ (.slice a1 m1 cap1)).setCell ⟨w.heap.size+1+1,4,none⟩ (.bool en)).heap.size=w1.heap.size:=by simp [World.setCell]
 have HS':=Zab ((HS.o.setCell (p:=⟨w.heap.size+1+1,3,none⟩) (by simp only [];omega) (.slice a1 m1 cap1)).setCell (p:=⟨w.heap.size+1+1,4,none⟩) (by simp only [];omega) (.bool en));refine (ZhS _ Ho _ (HH.o.below hX.o) n2).mono ?_;rintro e w2 ⟨v2,rfl,hb2,hs2⟩;obtain⟨a2,m2,cap2,rfl⟩:=hs2.form;have HS2:Hd (Zas (w.heap.size+3) w2 (.slice a1 m1 cap1) V):=HS'.o.below hb2;have HH2:Hd (Zas (w.heap.size+3) w2 (.slice a2 m2 cap2) Ho):=hs2.mono (by rw [hXs];omega);have hz2:w.heap.size+2 < w2.heap.size:=by have:=hb2.size;rw [hXs] at this;omega
 have HB2:Hd (Zw_ w w2):=hX.o.trans (hb2.mono hX.o.size);have hc2:∀ b o,b < w1.heap.size->w2.cell? ⟨b,o,none⟩=((w1.setCell ⟨w.heap.size+1+1,3,none⟩ (.slice a1 m1 cap1)).setCell ⟨w.heap.size+1+1,4,none⟩ (.bool en)).cell? ⟨b,o,none⟩:=fun b o h=>hb2.cell (p:=⟨b,o,none⟩) (by rw [hXs];exact h)
 have hf2:∀ b o,b < w1.heap.size->w2.frozen? ⟨b,o,none⟩=((w1.setCell ⟨w.heap.size+1+1,3,none⟩ (.slice a1 m1 cap1)).setCell ⟨w.heap.size+1+1,4,none⟩ (.bool en)).frozen? ⟨b,o,none⟩:=fun b o h=>hb2.frozen (p:=⟨b,o,none⟩) (by rw [hXs];exact h)
 clear hb2 hs2 hXs;have hz0:w.heap.size < w1.heap.size:=by omega
 have hz1:w.heap.size+1 < w1.heap.size:=by omega
 have hz1':w.heap.size+1+1 < w1.heap.size:=by omega
 go_wp2;refine bodyPost_ret (v:=.agg #[.string kind,.string nm,.string team,.slice a1 m1 cap1,.bool en,.slice a2 m2 cap2,.int .i64 ver]) (by simp [results,results112,go_sem,hc,hc2,hz1]) rfl ⟨_,_,rfl,?_,?_,?_⟩
 . repeat (refine Below.setCell ?_ (by simp only [];omega) _)
   exact HB2.o
 . refine Zas.mono (lo:=w.heap.size+3) ?_ (by omega)
   repeat (refine Zas.setCell ?_ (by simp only [];omega) _)
   exact HS2.o
 . refine Zas.mono (lo:=w.heap.size+3) ?_ (by omega)
   repeat (refine Zas.setCell ?_ (by simp only [];omega) _)
   exact HH2.o
theorem ZlP (vv' hv':Value) (hV:Zae w vv V) (hH:Zae w hv Ho) (hV':Zae w vv' V) (hH':Zae w hv' Ho) :
 Calls prog 140 #[.agg #[.string kind,.string nm,.string team,vv,.bool en,hv,.int .i64 ver],.agg #[.string kind,.string nm,.string team,vv',.bool en,hv',.int .i64 ver]] w
  fun e w'=>e=.returned (.bool true)/\Zw_ w w':=by
 have HV:=Zab hV;have HH:=Zab hH;have HV':=Zab hV';have HH':=Zab hH';obtain⟨a,n,cap,rfl⟩:=hV.form;obtain⟨a1,n1,cap1,rfl⟩:=hH.form;obtain⟨a2,n2,cap2,rfl⟩:=hV'.form;obtain⟨a3,n3,cap3,rfl⟩:=hH'.form;clear hV hH hV' hH';have HW:∀ o o',Hd (Zw_ w ((w.alloc o).alloc o')):=fun o o'=>(Zb_.alloc Zl_ _).alloc (by simp) _
 go_enter func140,ntmps140;go_wp2_with fail;refine (Zgt _ _ V _ (HV.o.below (HW _ _).o) (HV'.o.below (HW _ _).o)).mono ?_;rintro e w1 ⟨rfl,hb⟩;have hz:w.heap.size+1 < w1.heap.size:=by have:=hb.size;simp at this;omega
 have HB:Hd (Zw_ w w1):=(HW _ _).o.trans (hb.mono (by simp;omega));obtain⟨hc,hf⟩:=Zkb hb;clear hb;go_wp2_with fail;refine (Zgt _ _ Ho _ (HH.o.below HB.o) (HH'.o.below HB.o)).mono ?_;rintro e w2 ⟨rfl,hb2⟩;have HB2:Hd (Zw_ w w2):=HB.o.trans (hb2.mono HB.o.size);have hz2:w.heap.size < w1.heap.size:=by omega
 obtain⟨hc2,hf2⟩:=Zkb hb2;clear hb2;go_wp2;go_ret;exact⟨rfl,HB2.o⟩
end
end
section
variable {lo hi:Nat} {v:Value}
theorem Zaf.form {w:World}{L:List Zy_} (h:Zaf lo hi w v L):∃ a cap,v=.slice a L.length cap:=by
 rcases h with ⟨a,cap,h,rfl⟩ | ⟨b,off,cap,h,_⟩
 . exact⟨a,cap,h⟩
 . exact⟨_,cap,h⟩
theorem Zaf.below {w w':World}{L:List Zy_} (h:Zaf lo hi w v L) (hb:Zw_ w w'):Zaf lo hi w' v L:=by
 rcases h with h | ⟨b,off,cap,h1,h2,h3,h4,h5,h6,h7,h8,h9⟩
 . exact Or.inl h
 . exact Or.inr ⟨b,off,cap,h1,h2,h3,Zk_ h4 hb.size,fun i hi'=>by rw [hb.cell (p:=⟨b,_,none⟩) h4];exact h5 i hi',h6,h7,h8,fun i=>by rw [hb.frozen (p:=⟨b,_,none⟩) h4];exact h9 i⟩
theorem Zaf.wide {lo' hi':Nat}{w:World}{L:List Zy_} (h:Zaf lo hi w v L) (h1:lo'<=lo) (h2:hi<=hi'):Zaf lo' hi' w v L:=by
 rcases h with h | ⟨b,off,cap,q1,q2,q3,q4,q5,q6,q7,q8,q9⟩
 . exact Or.inl h
 . exact Or.inr ⟨b,off,cap,q1,q2,q3,q4,q5,q6,by omega,by omega,q9⟩
theorem Zaf.setCell {w:World}{L:List Zy_} (h:Zaf lo hi w v L) {p:Addr} (hp:p.block < lo) (u:Value):Zaf lo hi (w.setCell p u) v L:=by
 rcases h with h | ⟨b,off,cap,h1,h2,h3,h4,h5,h6,h7,h8,h9⟩
 . exact Or.inl h
 . exact Or.inr ⟨b,off,cap,h1,h2,h3,by simpa [World.setCell] using h4,fun i hi'=>by rw [ZaA _ _ _ _ (by show b≠p.block;omega)];exact h5 i hi',h6,h7,h8,fun i=>by rw [World.frozen?_setCell];exact h9 i⟩
section
variable (kind nm team:Zy_) (vv hv:Value) (en:Bool) (ver:Int) (V Ho:List Zy_) (w:World)
def Zfv (lo:Nat) (w:World) (v h:Value) (V Ho:List Zy_):Prop:=
 ∃ mid,lo<=mid/\mid<=w.heap.size/\Zaf lo mid w v V/\Zaf mid w.heap.size w h Ho
theorem Zgq (hV:Zae w vv V) (hH:Zae w hv Ho) (n1:V.length<=1048576) (n2:Ho.length<=1048576) :
 Calls prog 266 #[.agg #[.string kind,.string nm,.string team,vv,.bool en,hv,.int .i64 ver]] w
  fun e w'=>∃ v' h',e=.returned (.agg #[.string kind,.string nm,.string team,v',.bool en,h',.int .i64 ver])/\Zw_ w w'/\Zfv w.heap.size w' v' h' V Ho:=by
 have HV:=Zab hV;have HH:=Zab hH;obtain⟨a,n,cap,rfl⟩:=hV.form;obtain⟨a',n',cap',rfl⟩:=hH.form;clear hV hH;have HW:∀ o o',Hd (Zw_ w ((w.alloc o).alloc o')):=fun o o'=>(Zb_.alloc Zl_ _).alloc (by simp) _
 go_enter func266,ntmps266;go_wp2_with fail;refine (Ze4 _ V _ (HV.o.below (HW _ _).o) n1).mono ?_;rintro e w1 ⟨v1,rfl,hb,hs⟩;obtain⟨a1,cap1,rfl⟩:=hs.form;have HS:Hd (Zaf (w.heap.size+2) w1.heap.size w1 (.slice a1 V.length cap1) V):=hs.wide (by simp) Zl_;have hz:w.heap.size+1 < w1.heap.size:=by have:=hb.size;simp at this;omega
 obtain⟨hc,hf⟩:=Zkb hb;have HB:Hd (Zw_ w w1):=(HW _ _).o.trans (hb.mono (by simp;omega));clear hb hs;have hz0:w.heap.size < w1.heap.size:=by omega
 have g0:∀ i,w1.cell? ⟨w.heap.size,i,none⟩=(#[.string kind,.string nm,.string team,.slice a n cap,.bool en,.slice a' n' cap',.int .i64 ver]:Array Value)[i]?:=fun i=>by
  rw [hc _ _ (by simp;omega),((Below.refl (w.alloc (.cells #[.string kind,.string nm,.string team,.slice a n cap,.bool en,.slice a' n' cap',.int .i64 ver] 126)).heap.size _).alloc Zl_ _).cell (p:=⟨w.heap.size,i,none⟩) (by simp)];simp
 have g1:∀ i,w1.cell? ⟨w.heap.size+1,i,none⟩=(#[.string ⟨#[]⟩,.string ⟨#[]⟩,.string ⟨#[]⟩,.slice none 0 0,.bool false,.slice none 0 0,.int .i64 0]:Array Value)[i]?:=fun i=>by
  rw [hc _ _ (by simp)];simp
 go_wp2_with fail;have hX:Hd (Zw_ w (w1.setCell ⟨w.heap.size,3,none⟩ (.slice a1 V.length cap1))):=HB.o.setCell Zl_ _;have hXs:(w1.setCell ⟨w.heap.size,3,none⟩ (.slice a1 V.length cap1)).heap.size=w1.heap.size:=by simp [World.setCell]
 have HS':=Zab (HS.o.setCell (p:=⟨w.heap.size,3,none⟩) (by simp only [];omega) (.slice a1 V.length cap1));refine (Ze4 _ Ho _ (HH.o.below hX.o) n2).mono ?_;rintro e w2 ⟨v2,rfl,hb2,hs2⟩;obtain⟨a2,cap2,rfl⟩:=hs2.form;have HS2:Hd (Zaf (w.heap.size+2) w1.heap.size w2 (.slice a1 V.length cap1) V):=HS'.o.below hb2;have HH2:Hd (Zaf w1.heap.size w2.heap.size w2 (.slice a2 Ho.length cap2) Ho):=by unfold Hd;rw [<- hXs];exact hs2
 have hz2:w.heap.size+1 < w2.heap.size:=by have:=hb2.size;rw [hXs] at this;omega
 have hz3:w1.heap.size<=w2.heap.size:=by have:=hb2.size;rw [hXs] at this;exact this
 have HB2:Hd (Zw_ w w2):=hX.o.trans (hb2.mono hX.o.size);have hc2:∀ b o,b < w1.heap.size->w2.cell? ⟨b,o,none⟩=(w1.setCell ⟨w.heap.size,3,none⟩ (.slice a1 V.length cap1)).cell? ⟨b,o,none⟩:=fun b o h=>hb2.cell (p:=⟨b,o,none⟩) (by rw [hXs];exact h)
 have hf2:∀ b o,b < w1.heap.size->w2.frozen? ⟨b,o,none⟩=(w1.setCell ⟨w.heap.size,3,none⟩ (.slice a1 V.length cap1)).frozen? ⟨b,o,none⟩:=fun b o h=>hb2.frozen (p:=⟨b,o,none⟩) (by rw [hXs];exact h)
 clear hb2 hs2 hXs;have k0:w2.cell? ⟨w.heap.size,0,none⟩=some (.string kind):=by rw [hc2 _ _ hz0];rw [show (w1.setCell ⟨w.heap.size,3,none⟩ (.slice a1 V.length cap1)).cell? ⟨w.heap.size,0,none⟩=w1.cell? ⟨w.heap.size,0,none⟩ from by apply World.cell?_setCell_other;simp,g0];rfl
 have k1:w2.cell? ⟨w.heap.size,1,none⟩=some (.string nm):=by rw [hc2 _ _ hz0];rw [show (w1.setCell ⟨w.heap.size,3,none⟩ (.slice a1 V.length cap1)).cell? ⟨w.heap.size,1,none⟩=w1.cell? ⟨w.heap.size,1,none⟩ from by apply World.cell?_setCell_other;simp,g0];rfl
 have k2:w2.cell? ⟨w.heap.size,2,none⟩=some (.string team):=by rw [hc2 _ _ hz0];rw [show (w1.setCell ⟨w.heap.size,3,none⟩ (.slice a1 V.length cap1)).cell? ⟨w.heap.size,2,none⟩=w1.cell? ⟨w.heap.size,2,none⟩ from by apply World.cell?_setCell_other;simp,g0];rfl
 have k3:w2.cell? ⟨w.heap.size,3,none⟩=some (.slice a1 V.length cap1):=by rw [hc2 _ _ hz0];exact World.cell?_setCell_same' _ _ _ (by rw [g0];rfl)
 have k4:w2.cell? ⟨w.heap.size,4,none⟩=some (.bool en):=by rw [hc2 _ _ hz0];rw [show (w1.setCell ⟨w.heap.size,3,none⟩ (.slice a1 V.length cap1)).cell? ⟨w.heap.size,4,none⟩=w1.cell? ⟨w.heap.size,4,none⟩ from by apply World.cell?_setCell_other;simp,g0];rfl
 have k5:w2.cell? ⟨w.heap.size,5,none⟩=some (.slice a' n' cap'):=by rw [hc2 _ _ hz0];rw [show (w1.setCell ⟨w.heap.size,3,none⟩ (.slice a1 V.length cap1)).cell? ⟨w.heap.size,5,none⟩=w1.cell? ⟨w.heap.size,5,none⟩ from by apply World.cell?_setCell_other;simp,g0];rfl
 have k6:w2.cell? ⟨w.heap.size,6,none⟩=some (.int .i64 ver):=by rw [hc2 _ _ hz0];rw [show (w1.setCell ⟨w.heap.size,3,none⟩ (.slice a1 V.length cap1)).cell? ⟨w.heap.size,6,none⟩=w1.cell? ⟨w.heap.size,6,none⟩ from by apply World.cell?_setCell_other;simp,g0];rfl
 have j0:w2.cell? ⟨w.heap.size+1,0,none⟩=some (.string ⟨#[]⟩):=by rw [hc2 _ _ hz,show (w1.setCell ⟨w.heap.size,3,none⟩ (.slice a1 V.length cap1)).cell? ⟨w.heap.size+1,0,none⟩=w1.cell? ⟨w.heap.size+1,0,none⟩ from by apply World.cell?_setCell_other;simp,g1];rfl
 have j1:w2.cell? ⟨w.heap.size+1,1,none⟩=some (.string ⟨#[]⟩):=by rw [hc2 _ _ hz,show (w1.setCell ⟨w.heap.size,3,none⟩ (.slice a1 V.length cap1)).cell? ⟨w.heap.size+1,1,none⟩=w1.cell? ⟨w.heap.size+1,1,none⟩ from by apply World.cell?_setCell_other;simp,g1];rfl
 have j2:w2.cell? ⟨w.heap.size+1,2,none⟩=some (.string ⟨#[]⟩):=by rw [hc2 _ _ hz,show (w1.setCell ⟨w.heap.size,3,none⟩ (.slice a1 V.length cap1)).cell? ⟨w.heap.size+1,2,none⟩=w1.cell? ⟨w.heap.size+1,2,none⟩ from by apply World.cell?_setCell_other;simp,g1];rfl
 have j3:w2.cell? ⟨w.heap.size+1,3,none⟩=some (.slice none 0 0):=by rw [hc2 _ _ hz,show (w1.setCell ⟨w.heap.size,3,none⟩ (.slice a1 V.length cap1)).cell? ⟨w.heap.size+1,3,none⟩=w1.cell? ⟨w.heap.size+1,3,none⟩ from by apply World.cell?_setCell_other;simp,g1];rfl
 have j4:w2.cell? ⟨w.heap.size+1,4,none⟩=some (.bool false):=by rw [hc2 _ _ hz,show (w1.setCell ⟨w.heap.size,3,none⟩ (.slice a1 V.length cap1)).cell? ⟨w.heap.size+1,4,none⟩=w1.cell? ⟨w.heap.size+1,4,none⟩ from by apply World.cell?_setCell_other;simp,g1];rfl
 have j5:w2.cell? ⟨w.heap.size+1,5,none⟩=some (.slice none 0 0):=by rw [hc2 _ _ hz,show (w1.setCell ⟨w.heap.size,3,none⟩ (.slice a1 V.length cap1)).cell? ⟨w.heap.size+1,5,none⟩=w1.cell? ⟨w.heap.size+1,5,none⟩ from by apply World.cell?_setCell_other;simp,g1];rfl
 have j6:w2.cell? ⟨w.heap.size+1,6,none⟩=some (.int .i64 0):=by rw [hc2 _ _ hz,show (w1.setCell ⟨w.heap.size,3,none⟩ (.slice a1 V.length cap1)).cell? ⟨w.heap.size+1,6,none⟩=w1.cell? ⟨w.heap.size+1,6,none⟩ from by apply World.cell?_setCell_other;simp,g1];rfl
 have fz0:∀ o,w2.frozen? ⟨w.heap.size,o,none⟩=false:=fun o=>by rw [hf2 _ _ hz0,World.frozen?_setCell,hf _ _ (by simp;omega)];simp
 have fz1:∀ o,w2.frozen? ⟨w.heap.size+1,o,none⟩=false:=fun o=>by rw [hf2 _ _ hz,World.frozen?_setCell,hf _ _ (by simp)];simp
 clear hc2 hf2 hc hf g0 g1;go_wp2;refine bodyPost_ret (v:=.agg #[.string kind,.string nm,.string team,.slice a1 V.length cap1,.bool en,.slice a2 Ho.length cap2,.int .i64 ver]) (by simp [results,results266,go_sem,j0,j1,j2,j3,j4,j5,j6]) rfl ⟨_,_,rfl,?_,w1.heap.size,by omega,by simp only [World.setCell,Array.size_modify];exact hz3,?_,?_⟩
 . repeat (refine Below.setCell ?_ (by simp only [];omega) _)
   exact HB2.o
 . refine Zaf.wide (lo:=w.heap.size+2) (hi:=w1.heap.size) ?_ (by omega) Zl_
   repeat (refine Zaf.setCell ?_ (by simp only [];omega) _)
   exact HS2.o
 . refine Zaf.wide (lo:=w1.heap.size) (hi:=w2.heap.size) ?_ Zl_ (by simp [World.setCell])
   repeat (refine Zaf.setCell ?_ (by simp only [];omega) _)
   exact HH2.o
end
end
section
def ZnW (b:Bool):Value:=if b=true then .nilIface else .iface 348 (.agg #[.int .i64 1,.int .i64 0])
theorem ZaL (b:Bool) (w:World):Calls prog 273 #[.bool b] w fun e w'=>e=.returned (ZnW b)/\Zw_ w w':=by
 cases b with
 | true=>
  go_enter func273,ntmps273;go_wp2;go_ret;exact⟨rfl,Below.refl _ _⟩
 | false=>
  go_enter func273,ntmps273;go_wp2;go_ret;exact⟨rfl,Below.refl _ _⟩
section
variable (kd kind nm team:Zy_) (vv hv fv:Value) (en:Bool) (ver:Int) (V Ho:List Zy_) (Fs:List Fd) (w:World) (lo:Nat)
theorem Zha (s2:nm.size<=maxLen) (s3:team.size<=maxLen) :
 Calls prog 261 #[.agg #[.string kd,fv],.agg #[.string kind,.string nm,.string team,vv,.bool en,hv,.int .i64 ver]] w
  fun e w'=>e=.returned (ZnW (Zan nm&&Zan team))/\Zw_ w w':=by
 have HW:∀ o o',Hd (Zw_ w ((w.alloc o).alloc o')):=fun o o'=>(Zb_.alloc Zl_ _).alloc (by simp) _
 cases hn:Zan nm with
 | false=>
  go_enter func261,ntmps261
  go_wp2_with (first
   | (go_at_call 68;refine (Zak _ _ (by assumption)).mono ?_;rintro e w' ⟨rfl,rfl⟩)
   | (go_at_call 273;refine (ZaL _ _).mono ?_;rintro e w' ⟨rfl,hb⟩))
  go_ret;exact⟨rfl,(HW _ _).o.trans (hb.mono (HW _ _).o.size)⟩
 | true=>
  cases ht:Zan team with
  | false=>
   go_enter func261,ntmps261
   go_wp2_with (first
    | (go_at_call 68;refine (Zak _ _ (by assumption)).mono ?_;rintro e w' ⟨rfl,rfl⟩)
    | (go_at_call 273;refine (ZaL _ _).mono ?_;rintro e w' ⟨rfl,hb⟩))
   go_ret;exact⟨rfl,(HW _ _).o.trans (hb.mono (HW _ _).o.size)⟩
  | true=>
   go_enter func261,ntmps261
   go_wp2_with (first
    | (go_at_call 68;refine (Zak _ _ (by assumption)).mono ?_;rintro e w' ⟨rfl,rfl⟩)
    | (go_at_call 273;refine (ZaL _ _).mono ?_;rintro e w' ⟨rfl,hb⟩))
   go_ret;exact⟨rfl,(HW _ _).o.trans (hb.mono (HW _ _).o.size)⟩
theorem Zib (a a1:Option Addr) (cap cap1 n m:Nat) :
 Calls prog 262 #[.agg #[.string kd,.slice a1 m cap1],.agg #[.string kind,.string nm,.string team,.slice a n cap,.bool en,hv,.int .i64 ver]] w
  fun e w'=>e=.returned (ZnW (decide (n=m)))/\Zw_ w w':=by
 have HW:∀ o o',Hd (Zw_ w ((w.alloc o).alloc o')):=fun o o'=>(Zb_.alloc Zl_ _).alloc (by simp) _
 by_cases hnm:n=m
 . have hd:decide (n=m)=true:=by simpa using hnm
   have hi:((n:Int) == (m:Int))=true:=by rw [hnm];simp
   rw [hd];clear hnm hd;go_enter func262,ntmps262
   go_wp2_with (first
    | (go_at_call 273;refine (ZaL _ _).mono ?_;rintro e w' ⟨rfl,hb⟩))
   go_ret;exact⟨rfl,(HW _ _).o.trans (hb.mono (HW _ _).o.size)⟩
 . have hd:decide (n=m)=false:=by simpa using hnm
   have hi:((n:Int) == (m:Int))=false:=by simp;omega
   rw [hd];clear hnm hd;go_enter func262,ntmps262
   go_wp2_with (first
    | (go_at_call 273;refine (ZaL _ _).mono ?_;rintro e w' ⟨rfl,hb⟩))
   go_ret;exact⟨rfl,(HW _ _).o.trans (hb.mono (HW _ _).o.size)⟩
theorem Zg9 (hH:Zae w hv Ho) :
 Calls prog 263 #[.agg #[.string kd,fv],.agg #[.string kind,.string nm,.string team,vv,.bool en,hv,.int .i64 ver]] w
  fun e w'=>e=.returned (ZnW (decide (Ho.length<=3)&&ZmU Ho))/\Zw_ w w':=by
 have HW:∀ o o',Hd (Zw_ w ((w.alloc o).alloc o')):=fun o o'=>(Zb_.alloc Zl_ _).alloc (by simp) _
 have HH:=Zab hH
 obtain⟨a,cap,rfl⟩:∃ a cap,hv=.slice a Ho.length cap:=by
  rcases hH with ⟨a,cap,h,rfl⟩ | ⟨b,off,cap,h,_⟩
  . exact⟨_,_,h⟩
  . exact⟨_,_,h⟩
 clear hH
 by_cases h3:Ho.length<=3
 . have hd:decide (Ho.length<=3)=true:=by simpa using h3
   have hi:(Ho.length:Int)<=3:=by omega
   rw [hd,Bool.true_and];generalize hB:ZmU Ho=B;have HB:=Zab hB;clear h3 hd hB;go_enter func263,ntmps263;go_wp2_with fail;refine (Zfx _ Ho _ (HH.o.below (HW _ _).o)).mono ?_;rintro e w1 ⟨rfl,hb1⟩;have HB1:Hd (Zw_ w w1):=by rw [hb1];exact (HW _ _).o
   rw [HB.o];subst hb1;go_wp2_with fail;refine (ZaL _ _).mono ?_;rintro e w' ⟨rfl,hb⟩;have HB2:Hd (Zw_ w w'):=HB1.o.trans (hb.mono HB1.o.size);clear hb;go_wp2;go_ret;exact⟨rfl,HB2.o⟩
 . have hd:decide (Ho.length<=3)=false:=by simpa using h3
   have hi:¬ (Ho.length:Int)<=3:=by omega
   rw [hd,Bool.false_and];clear h3 hd;go_enter func263,ntmps263
   go_wp2_with (first
    | (go_at_call 273;refine (ZaL _ _).mono ?_;rintro e w' ⟨rfl,hb⟩))
   go_ret;exact⟨rfl,(HW _ _).o.trans (hb.mono (HW _ _).o.size)⟩
theorem ZfW :
 Calls prog 264 #[.agg #[.string kd,fv],.agg #[.string kind,.string nm,.string team,vv,.bool en,hv,.int .i64 ver]] w
  fun e w'=>e=.returned (ZnW (inB 0 1000000 ver))/\Zw_ w w':=by
 have HW:∀ o o',Hd (Zw_ w ((w.alloc o).alloc o')):=fun o o'=>(Zb_.alloc Zl_ _).alloc (by simp) _
 by_cases h0:0<=ver
 . by_cases h1:ver<=1000000
   . have hd:inB 0 1000000 ver=true:=by simp [inB];omega
     rw [hd];clear hd;go_enter func264,ntmps264
     go_wp2_with (first
      | (go_at_call 273;refine (ZaL _ _).mono ?_;rintro e w' ⟨rfl,hb⟩))
     go_ret;exact⟨rfl,(HW _ _).o.trans (hb.mono (HW _ _).o.size)⟩
   . have hd:inB 0 1000000 ver=false:=by simp [inB];omega
     rw [hd];clear hd;go_enter func264,ntmps264
     go_wp2_with (first
      | (go_at_call 273;refine (ZaL _ _).mono ?_;rintro e w' ⟨rfl,hb⟩))
     go_ret;exact⟨rfl,(HW _ _).o.trans (hb.mono (HW _ _).o.size)⟩
 . have hd:inB 0 1000000 ver=false:=by simp [inB];omega
   rw [hd];clear hd;go_enter func264,ntmps264
   go_wp2_with (first
    | (go_at_call 273;refine (ZaL _ _).mono ?_;rintro e w' ⟨rfl,hb⟩))
   go_ret;exact⟨rfl,(HW _ _).o.trans (hb.mono (HW _ _).o.size)⟩
end
end
variable {a:Option Addr} {n cap:Nat}
def Zbq (f:Fd) (v:Zy_):Int:=if v.toList.isEmpty=true then (if f.mu=true then 2 else 0) else if ZaN f.kd f.le f.mo f.words v=true then 0 else 3
def Zbg (Fs:List Fd) (V:List Zy_):List Int:=List.zipWith Zbq Fs V
def ff:List Int->Nat->Int×Int
 | [],_=>(0,0)
 | c :: r,n=>if c=0 then ff r (n+1) else (c,n)
theorem ZpT:∀ (L:List Int) (n:Nat),(∀ k (hk:k < L.length),L[k]=0)->ff L n=(0,0)
 | [],_,_=>rfl
 | c :: r,n,h=>by
  have h0:c=0:=h 0 (by simp);unfold ff;rw [if_pos h0];exact ZpT r (n+1) fun k hk=>h (k+1) (by simpa using hk)
theorem ZpU:∀ (L:List Int) (n k:Nat) (hk:k < L.length),L[k]≠0->(∀ j (hj:j < L.length),j < k->L[j]=0)->ff L n=(L[k],((n+k:Nat):Int))
 | c :: r,n,0,_,h,_=>by
  have h':c≠0:=h;unfold ff;rw [if_neg h'];simp
 | c :: r,n,k+1,hk,h,hall=>by
  have h0:c=0:=hall 0 (by simp) (by omega);unfold ff;rw [if_pos h0,ZpU r (n+1) k (by simpa using hk) h (fun j hj hjk=>hall (j+1) (by simpa using hj) (by omega))];simp only [List.getElem_cons_succ,Prod.mk.injEq,true_and]
  omega
theorem Zdm {Fs:List Fd}{V:List Zy_} (h:V.length=Fs.length):(Zbg Fs V).length=Fs.length:=by simp [Zbg,h]
theorem Zfn {Fs:List Fd}{V:List Zy_}{i:Nat} (h:i < (Zbg Fs V).length) (h1:i < Fs.length) (h2:i < V.length):(Zbg Fs V)[i]=Zbq Fs[i] V[i]:=by simp [Zbg]
theorem Zgu {Fs:List Fd}{V:List Zy_} (hl:V.length=Fs.length) (h:∀ j (h1:j < Fs.length) (h2:j < V.length),j < Fs.length->Zbq Fs[j] V[j]=0):ff (Zbg Fs V) 0=(0,0):=
 ZpT _ _ fun k hk=>by rw [Zfn hk (by rw [Zdm hl] at hk;exact hk) (by rw [Zdm hl] at hk;omega)];exact h k _ _ (by rw [Zdm hl] at hk;exact hk)
theorem Zei {Fs:List Fd}{V:List Zy_} (hl:V.length=Fs.length) {k:Nat} {c:Int} (h1:k < Fs.length) (h2:k < V.length) (hc:Zbq Fs[k] V[k]=c) (h0:c≠0) (h:∀ j (h1:j < Fs.length) (h2:j < V.length),j < k->Zbq Fs[j] V[j]=0):ff (Zbg Fs V) 0=(c,(k:Int)):=by
 have hk:k < (Zbg Fs V).length:=by rw [Zdm hl];exact h1
 have e:(Zbg Fs V)[k]=c:=by rw [Zfn hk h1 h2];exact hc
 rw [ZpU _ 0 k hk (by rw [e];exact h0) (fun j hj hjk=>by rw [Zfn hj (by rw [Zdm hl] at hj;exact hj) (by omega)];exact h j _ _ hjk),e,Nat.zero_add]
def Zkl (r:Int×Int):Value:=if r.1=0 then .nilIface else .iface 348 (.agg #[.int .i64 r.1,.int .i64 r.2])
theorem ZaU.fullz {lo:Nat}{w:World}{Fs:List Fd} (h:ZaU lo w (.slice a n cap) Fs) (hL:0 < Fs.length) :
 ∃ b off,a=some ⟨b,off,none⟩/\b < w.heap.size/\∀ i (h:i < Fs.length),Zew Fs[i]/\∃ wv,Zdx w b (off+i*11) Fs[i] wv/\Zae w wv Fs[i].words:=by
 rcases h with ⟨a',cap',h,rfl⟩ | ⟨b',off',cap',h1,h2,h3,h4,h5,h6,h7⟩
 . simp at hL
 . injection h1 with e1 e2 e3
   exact⟨b',off',e1,h4,fun i hi=>by obtain⟨q1,wv,q2,q3⟩:=h7 i hi;exact⟨q1,wv,q2,q3.at⟩⟩
theorem ZaU.len {lo:Nat}{w:World}{v:Value}{Fs:List Fd} (h:ZaU lo w v Fs):Fs.length<=maxLen:=by
 rcases h with ⟨_,_,_,rfl⟩ | ⟨_,_,_,_,_,h,_⟩
 . exact Nat.zero_le _
 . exact h
theorem Zae.fullz {w:World}{L:List Zy_} (h:Zae w (.slice a n cap) L) (hL:0 < L.length) :
 ∃ b off,a=some ⟨b,off,none⟩/\n=L.length/\b < w.heap.size/\∀ i (h:i < L.length),L[i].size<=maxLen/\w.cell? ⟨b,off+i,none⟩=some (.string L[i]):=by
 rcases h with ⟨a',cap',h,rfl⟩ | ⟨b',off',cap',h1,h2,h3,h4,h5,h6⟩
 . simp at hL
 . injection h1 with e1 e2 e3
   exact⟨b',off',e1,e2,h4,fun i hi=>⟨h6 _ (List.getElem_mem hi),h5 i hi⟩⟩
section
variable (kd kind nm team:Zy_) (vv hv fv:Value) (en:Bool) (ver:Int) (V Ho:List Zy_) (Fs:List Fd) (w:World) (lo:Nat)
theorem Zgn (hV:Zae w vv V) (hF:ZaU lo w fv Fs) (hl:V.length=Fs.length) :
 Calls prog 265 #[.agg #[.string kd,fv],.agg #[.string kind,.string nm,.string team,vv,.bool en,hv,.int .i64 ver]] w
  fun e w'=>e=.returned (Zkl (ff (Zbg Fs V) 0))/\Zw_ w w':=by
 have HV:=Zab hV;have HF:=Zab hF;obtain⟨a,n,cap,rfl⟩:=hV.form;obtain⟨a1,cap1,rfl⟩:=hF.form;have HL:=Zab hl;have hn:=hF.len;unfold maxLen at hn;clear hV hF hl;have HW:∀ o o',Hd (Zw_ w ((w.alloc o).alloc o')):=fun o o'=>(Zb_.alloc Zl_ _).alloc (by simp) _
 go_enter func265,ntmps265;go_wp2_with fail;refine (Zej _).mono ?_;rintro e w1 ⟨rfl,hw1⟩;have hr1:w1.heap[w.heap.size+2]?=some (.map Zaj 4):=by have:=ZfH ((w.alloc (.cells #[.string kd,.slice a1 Fs.length cap1] 115)).alloc (.cells #[.string kind,.string nm,.string team,.slice a n cap,.bool en,hv,.int .i64 ver] 126)) (.map Zaj 4);rw [<- hw1] at this;simpa using this
 have hbx:Hd (∀ i,w1.cell? ⟨w.heap.size,i,none⟩=(#[.string kd,.slice a1 Fs.length cap1]:Array Value)[i]?):=fun i=>by
  rw [hw1,World.cell?_alloc_lt _ _ _ (by simp;omega),World.cell?_alloc_lt _ _ _ (by simp)];simp
 have hby:Hd (∀ i,w1.cell? ⟨w.heap.size+1,i,none⟩=(#[.string kind,.string nm,.string team,.slice a n cap,.bool en,hv,.int .i64 ver]:Array Value)[i]?):=fun i=>by
  rw [hw1,World.cell?_alloc_lt _ _ _ (by simp)];simp
 have HB1:Hd (Zw_ w w1):=by rw [hw1];exact (HW _ _).o.alloc (by simp;omega) _
 have hz1:w1.heap.size=w.heap.size+3:=by rw [hw1];simp
 have HR1:=Zab hr1;clear hw1 hr1;have q0:=hbx.o;go_wp2
 go_loopw [13] (fun i wr=>∃ k:Nat,i=.int .i64 k/\k<=Fs.length/\Below w1.heap.size w1 wr/\∀ j (h1:j < Fs.length) (h2:j < V.length),j < k->Zbq Fs[j] V[j]=0) (fun i _=>Fs.length - (intOf i).toNat)
 case atStart=>exact⟨0,rfl,by omega,Below.refl _ _,fun j _ _ h=>by omega⟩
 case round=>
  obtain⟨k,rfl,hk,hb,hall⟩:=hrel;have HA:=Zab hall;have HBB:=Zab hb;have hszr:w.heap.size+2 < wr.heap.size:=by have:=hb.size;omega
  have hsz1:w.heap.size+1 < wr.heap.size:=by omega
  have HBr:Hd (Zw_ w wr):=HB1.o.trans (hb.mono (by omega));have HRr:Hd (wr.heap[w.heap.size+1+1]?=some (.map Zaj 4)):=by unfold Hd;rw [hb.block _ (by omega)];exact HR1.o
  have hO:∀ i,wr.cell? ⟨w.heap.size+1,i,none⟩=(#[.string kind,.string nm,.string team,.slice a n cap,.bool en,hv,.int .i64 ver]:Array Value)[i]?:=fun i=>by
   rw [hb.cell (p:=⟨w.heap.size+1,i,none⟩) (by simp only [];omega)];exact hby.o i
  clear hb hall q0
  by_cases hlt:k < Fs.length
  . have hlv:k < V.length:=by have:=HL.o;omega
    obtain⟨fb,foff,rfl,hfb,hfc⟩:=HF.o.fullz (by omega);obtain⟨hsz,wv,hcell,hst⟩:=hfc k hlt;obtain⟨c0,c1,c2,c3,c4,c5,c6,c7,c8,c9,c10⟩:=hcell.below HBr.o hfb;obtain⟨wa,wn,wcap,rfl⟩:=hst.form;obtain⟨vb,voff,rfl,rfl,hvb,hvc⟩:=HV.o.fullz (by omega);have hvk:wr.cell? ⟨vb,voff+k,none⟩=some (.string V[k]):=by rw [HBr.o.cell (p:=⟨vb,_,none⟩) hvb];exact (hvc k hlv).2
    have hvbr:vb < wr.heap.size:=by have:=HBr.o.size;omega
    have HZ:=Zab (hvc k hlv).1;have HST:=Zab hst;clear hcell hst hvc hfc hsz
    cases he:V[k].toList.isEmpty with
    | true=>
     cases hm:Fs[k].mu with
     | true=>
      have HX:Hd (ff (Zbg Fs V) 0=(2,(k:Int))):=Zei HL.o hlt hlv (by unfold Zbq;rw [he,hm];rfl) (by decide) HA.o;have HBo:∀ o,Hd (Zw_ w (wr.alloc o)):=fun o=>HBr.o.alloc (by omega) o
      rw [hm] at c7;clear HA;go_wp2;go_ret;exact⟨by rw [HX.o];rfl,(HBo _).o⟩
     | false=>
      have HX:Hd (Zbq Fs[k] V[k]=0):=by unfold Hd Zbq;rw [he,hm];rfl
      rw [hm] at c7;go_wp2;go_roundw
      case rel=>exact⟨k+1,by go_num,by omega,HBB.o.alloc (HBB.o.size) _,fun j h1 h2 hj=>by
                 by_cases e:j=k
                 . subst e;exact HX.o
                 . exact HA.o j h1 h2 (by omega)⟩
      . simp [intOf];omega
    | false=>
     have HBo:∀ o,Hd (Below wr.heap.size wr (wr.alloc o)):=fun o=>Zb_.alloc Zl_ o
     have HRo:∀ o,Hd ((wr.alloc o).heap[w.heap.size+1+1]?=some (.map Zaj 4)):=fun o=>by unfold Hd;rw [Below.heap_alloc _ _ _ (by omega)];exact HRr.o
     go_wp2_with fail;refine (ZhA _ _ _ _ _ _ _ _ _ _ Fs[k].words _ _ _ _ (HRo _).o (HST.o.below (HBr.o.trans ((HBo _).o.mono HBr.o.size))) HZ.o).mono ?_;rintro e w2 ⟨rfl,hb2⟩;have HB2:Hd (Below wr.heap.size wr w2):=(HBo _).o.trans (hb2.mono (HBo _).o.size);have HBw:Hd (Zw_ w w2):=HBr.o.trans (HB2.o.mono HBr.o.size);have HB3:Hd (Below w1.heap.size w1 w2):=HBB.o.trans (HB2.o.mono HBB.o.size);clear hb2
     cases hf:ZaN Fs[k].kd Fs[k].le Fs[k].mo Fs[k].words V[k] with
     | true=>
      have HX:Hd (Zbq Fs[k] V[k]=0):=by unfold Hd Zbq;rw [he,hf];rfl
      go_wp2;go_roundw
      case rel=>exact⟨k+1,by go_num,by omega,HB3.o,fun j h1 h2 hj=>by
                 by_cases e:j=k
                 . subst e;exact HX.o
                 . exact HA.o j h1 h2 (by omega)⟩
      . simp [intOf];omega
     | false=>
      have HX:Hd (ff (Zbg Fs V) 0=(3,(k:Int))):=Zei HL.o hlt hlv (by unfold Zbq;rw [he,hf];rfl) (by decide) HA.o;clear HA;go_wp2;go_ret;exact⟨by rw [HX.o];rfl,HBw.o⟩
  . have HX:Hd (ff (Zbg Fs V) 0=(0,0)):=Zgu HL.o (fun j h1 h2 _=>HA.o j h1 h2 (by omega))
    clear HA;go_wp2;go_ret;exact⟨by rw [HX.o];rfl,HBr.o⟩
end
end Go.Proofs.YtbdhbihhgfpnnaaGreat
