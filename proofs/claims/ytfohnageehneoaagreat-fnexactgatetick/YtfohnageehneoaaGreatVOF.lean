import Derived.Test.YtfohnageehneoaaGreatVOE
import Derived.Test.YtfohnageehneoaaGreatVHB
import Derived.Lib.SliceRun
import Derived.Deep.RegionLaw
import Derived.Deep.RegionHeldLaw
set_option maxHeartbeats 16000000
set_option maxRecDepth 100000
open Go.Proofs.Tryz
namespace Go.Proofs.YtfohnageehneoaaGreat
open Go.RowKit Go.Deep
theorem Zoq {P:Prop} (h:Hid P):P:=h.out
theorem ZgQ (X:World) (a b c:Obj):Below X.heap.size X (((X.alloc a).alloc b).alloc c):=((Zb_.alloc Zl_ _).alloc (by simp) _).alloc (by simp;omega) _
theorem Zlc (lo:Nat) (r:Ru) (vv:Value) (w:World) (hv:Zau lo w vv r.vb) (hn:r.vb.length≤1048576) :
 Calls prog 97 #[.agg #[vv,.string r.kd,.string r.tm,.string r.pf]] w fun e w'=>∃ v',e=.returned (.agg #[v',.string r.kd,.string r.tm,.string r.pf])∧Zw_ w w'∧Zat w.heap.size w'.heap.size w' v' r.vb:=by
 obtain⟨i0,hi,hz0,hz1,hz2⟩:=info_parts Tryz.info3;have HI:=Zab (And.intro hi (And.intro hz0 (And.intro hz1 hz2)));clear hi hz0 hz1 hz2;have HV:=Zab hv;obtain⟨a,cap,rfl⟩:=hv.form;clear hv
 cases a with
 | none=>
  have hL:r.vb=[]:=by
   rcases HV.out with ⟨_,_,_,h⟩ | ⟨_,_,_,h,_⟩
   · exact h
   · injection h with h;cases h
  obtain⟨vb,kd,tm,pf⟩:=r;simp only [] at hL;subst hL;go_enter func97,ntmps97;go_wp2;refine bodyPost_ret (v:=.agg #[.slice (some ⟨w.heap.size+1+1,0,none⟩) 0 0,.string kd,.string tm,.string pf]) (by simp [results,results97,go_sem]) rfl ⟨_,rfl,ZgQ _ _ _ _,Or.inl ⟨_,_,rfl,rfl⟩⟩
 | some ad=>
  go_enter func97,ntmps97;go_wp2_with (at_builtin;apply Zoq);unfold Hid
  (refine wpList_append_own_at _ rfl (.tmp 3) (.tmp 5) 60 rfl (w.heap.size+2) 3 i0 (.int .i64 0) 1 8 underlying60 HI.out.1 HI.out.2.1 HI.out.2.2.1 HI.out.2.2.2 rfl (by decide) _ 0 [] rfl (Zbg _ _ 3 1 (by simp) (by omega)) ad r.vb.length cap (ivO r.vb) rfl (by unfold ivO;rw [List.length_map,Nat.mul_one]) (HV.out.newsO (ZgQ _ _ _ _)) (Zg5 _) (by unfold maxLen;omega) (by omega) (by simp) ?_;intro v' w4 hown4 hgrow4 hnil4 hat4)
  rw [Nat.zero_add,List.nil_append] at hown4;have hB:Below (w.heap.size+2) _ w4:=Zbw (Zbg _ (w.heap.size+1+1) 3 1 (by simp) (by omega)) hgrow4 (by simp);have HO:Hid (Zat (w.heap.size+2) w4.heap.size w4 v' r.vb):=ZhW hown4;have HB:Hid (Zw_ w w4):=(ZgQ _ _ _ _).trans (hB.mono (by omega));have hz:w.heap.size+1 < w4.heap.size:=by have:=hB.size;simp at this;omega
  have b1:Box w4 w.heap.size #[.slice (some ad) r.vb.length cap,.string r.kd,.string r.tm,.string r.pf]:=(((Box.new w _ 70 w.heap.size rfl).on (Zac _ _)).on (Zac _ _)).below hB (by omega);have b2:Box w4 (w.heap.size+1) #[.slice none 0 0,.string ⟨#[]⟩,.string ⟨#[]⟩,.string ⟨#[]⟩]:=((Box.new _ _ 70 (w.heap.size+1) (by simp)).on (Zac _ _)).below hB (by omega);obtain⟨a',cap',rfl⟩:=HO.out.form;simp only [];have c0:=b1.cell 0;have c1:=b1.cell 1;have c2:=b1.cell 2;have c3:=b1.cell 3;have d0:=b2.cell 0;have d1:=b2.cell 1;have d2:=b2.cell 2;have d3:=b2.cell 3;have f0:=b1.free;have f1:=b2.free;clear b1 b2 hown4 hB hgrow4 hnil4 hat4;go_wp2;refine bodyPost_ret (v:=.agg #[.slice a' r.vb.length cap',.string r.kd,.string r.tm,.string r.pf]) (by simp [results,results97,go_sem,d0,d1,d2,d3]) rfl ⟨_,rfl,?_,?_⟩
  · repeat (refine Below.setCell ?_ (by simp only [];omega) _)
    exact HB.out
  · refine Zat.wide (lo:=w.heap.size+2) (hi:=w4.heap.size) ?_ (by omega) (by simp [World.setCell])
    repeat (refine Zat.setLow ?_ (by simp only [];omega) _)
    exact HO.out
section
variable (lo:Nat) (ov gv lv pv:Value) (B:Bk) (w:World)
end
def Zc3 (Ls:List Le) (p:Nat) (am:Int):List Le:=match Ls[p]? with
 | some x=>Ls.set p { x with fr:=x.fr+am }
 | none=>Ls
theorem ZlE {Ls:List Le} {p:Nat} (h:p < Ls.length) (am:Int):Zc3 Ls p am=Ls.set p { Ls[p] with fr:=Ls[p].fr+am }:=by
 unfold Zc3;rw [List.getElem?_eq_getElem h]
theorem Zba (Ls:List Le) (p:Nat) (am:Int):(Zc3 Ls p am).length=Ls.length:=by
 unfold Zc3
 split
 · rw [List.length_set]
 · rfl
theorem ZqN {Ls:List Le} {t r:Zy_} {p:Nat} (hr:ZcO Zcn Ls=true) (hs:Zsn Zcn Ls ⟨t,r,0,0⟩ p) (ha:Ls.any (Zb8 t r)=true):∃ h:p < Ls.length,Ls[p].tm=t∧Ls[p].re=r:=by
 have h1:=Zmc Zez (fun x y h1 h2=>by
  obtain⟨e1,e2⟩:=ZdS.1 h2;unfold Zcn at h1 ⊢;simp only [] at e1 e2 ⊢;rw [← e1,← e2];exact h1) hr hs
 rw [Zn4,ha] at h1;unfold Zp5 at h1
 by_cases hp:p < Ls.length
 · refine⟨hp,?_⟩
   rw [List.getElem?_eq_getElem hp] at h1;simp only [] at h1
   have h2:Zcn Ls[p] ⟨t,r,0,0⟩=0:=by
    first
    | exact of_decide_eq_true h1
    | exact of_decide_eq_true h1.symm
   exact ZdS.1 h2
 · rw [List.getElem?_eq_none (by omega)] at h1
   simp at h1
theorem ZaO.frz {l0 l1:Nat} {W:World} {b off cap:Nat} {Ls:List Le} (h:ZaO l0 l1 W (.slice (some ⟨b,off,none⟩) Ls.length cap) Ls) (hp:0 < Ls.length):∀ i,W.frozen? ⟨b,i,none⟩=false:=by
 rcases h with ⟨_,_,_,h⟩ | ⟨b',off',cap',c,X,h1,h2,h3,h4,h5,h6⟩
 · rw [h] at hp;simp at hp
 · injection h1 with e1 _ e3
   injection e1 with e1
   injection e1 with e1 e2
   subst e1 e2 e3;exact h6.frz
theorem ZaO.free {l0 l1:Nat} {W:World} {b off cap:Nat} {Ls:List Le} (h:ZaO l0 l1 W (.slice (some ⟨b,off,none⟩) Ls.length cap) Ls) {p:Nat} (hp:p < Ls.length) (am:Int) :
 ZaO l0 l1 (W.setCell ⟨b,off+p*4+3,none⟩ (.int .i64 (Ls[p].fr+am))) (.slice (some ⟨b,off,none⟩) Ls.length cap) (Zc3 Ls p am)∧Zad l0 l1 W (W.setCell ⟨b,off+p*4+3,none⟩ (.int .i64 (Ls[p].fr+am))):=by
 rcases h with ⟨_,_,_,h⟩ | ⟨b',off',cap',c,X,h1,h2,h3,h4,h5,h6⟩
 · rw [h] at hp;simp at hp
 · injection h1 with e1 _ e3
   injection e1 with e1
   injection e1 with e1 e2
   subst e1 e2 e3;have hx:=h6.row p hp;rw [h5 p hp] at hx;obtain⟨hz,hc⟩:=hx;have hbc:b < c p:=Zk_ h6.bc (h6.le Zz_ (by omega))
   have hst:Zjc W b (off+p*4) (c p) (c (p+1)) W Ls[p]:=⟨ZbW.refl _ _ _ _ _ _,hbc,hc,h6.frz,h6.lt⟩;have hs3:=hst.s3 (Ls[p].fr+am);have hrow:=h6.near hp hs3.near (show Zfx b (off+p*4) (c p) (c (p+1)) _ { Ls[p] with fr:=Ls[p].fr+am } from ⟨⟨hz.s0,hz.s1⟩,hs3.cells⟩);refine⟨Or.inr ⟨b,off,cap,c,_,by rw [Zba],?_,by rw [Zba];exact h3,by rw [Zba];exact h4,fun i hi=>?_,by rw [Zba];exact hrow⟩,hs3.near.wide h6.lt (by have:=h6.low;omega) (Nat.le_trans (h6.le (by omega) Zl_) h6.top) ⟨h6.low,h6.bh⟩⟩
   · intro e
     have:=congrArg List.length e;rw [Zba] at this;exact h2 (List.length_eq_zero_iff.1 (by simpa using this))
   · have hi':i < Ls.length:=by rw [Zba] at hi;exact hi
     have e:(Zc3 Ls p am)[i]=(Ls.set p { Ls[p] with fr:=Ls[p].fr+am })[i]'(by rw [List.length_set];exact hi'):=by
      have:=ZlE hp am;simp only [this]
     rw [e,List.getElem_set]
     by_cases ei:i=p
     · subst ei;simp
     · rw [if_neg ei,if_neg (fun h=>ei h.symm)];exact h5 i hi'
theorem Zls (β l0 l1 b off cap:Nat) (n0 n1 n2 ov gv pv:Value) (Ls:List Le) (dr t r:Zy_) (am un:Int) (w:World) (hX:Box w β #[n0,n1,n2,ov,gv,.slice (some ⟨b,off,none⟩) Ls.length cap,pv]) (hL:ZaO l0 l1 w (.slice (some ⟨b,off,none⟩) Ls.length cap) Ls) (hn:Ls.length≤1048576) (hr:ZcO Zcn Ls=true) (ha:Ls.any (Zb8 t r)=true)
 (_hb:β < l0∨l1≤β) (hf:∀ i (h:i < Ls.length),0≤Ls[i].fr∧Ls[i].fr≤10000000000000) (ham:0≤am∧am≤1000000) (_hl1:l1≤w.heap.size) :
 Calls prog 128 #[.pointer (some ⟨β,0,none⟩),.agg #[.string dr,.string t,.string r,.int .i64 am,.int .i64 un]] w fun e w'=>(∃ v,e=.returned v)∧∃ p,(∃ h:p < Ls.length,Ls[p].tm=t∧Ls[p].re=r)∧Zad l0 l1 w w'∧ZaO l0 l1 w' (.slice (some ⟨b,off,none⟩) Ls.length cap) (Zc3 Ls p am):=by
 have HL:=Zab hL;have HR:=Zab hr;have HA:=Zab ha;have HF:=Zab hf;have hbl:=hX.lt;have HX0:=Zab hX;clear hL hr ha hf hX;go_enter func128,ntmps128;go_wp2;generalize hWa:w.alloc _=Wa;have hba:Zw_ w Wa:=by rw [← hWa];exact Zac w _
 have FB:Hid (Box Wa w.heap.size #[.string dr,.string t,.string r,.int .i64 am,.int .i64 un]):=by rw [← hWa];exact Box.new _ _ _ _ rfl
 have FA:=Zab (HX0.out.on hba);have HLa:=Zab (HL.out.below hba);have HBa:=Zab hba;clear hWa hba HX0 HL
 go_cut [4] (fun pv wc=>∃ p:Nat,pv=.int .i64 p∧Zsn Zcn Ls ⟨t,r,0,0⟩ p∧Below Wa.heap.size Wa wc)
 case first=>
  go_region_held3 (ZaC Wa β #[n0,n1,n2,ov,gv,.slice (some ⟨b,off,none⟩) Ls.length cap,pv] w.heap.size #[.string dr,.string t,.string r,.int .i64 am,.int .i64 un])
   (first
     | (with_reducible exact ZaC.drew FA.out FB.out)
     | (with_reducible exact ZaC.on (by assumption) (by assumption))
     | assumption)
   (first
     | (go_at_call 109
        refine (Zek l0 _ Ls t r _ (HLa.out.at.below (Zb_.drew)) hn HR.out).mono ?_;rintro e w1 ⟨⟨p,hp,rfl⟩,hb1⟩;have HP:=Zab hp;have HC1:Hid (Below Wa.heap.size Wa w1):=Zb_.drew.trans (hb1.mono Zl_);clear hp))
  all_goals go_wp2
  all_goals go_meet
  all_goals exact⟨p,rfl,HP.out,HC1.out⟩
 case rest=>
  obtain⟨p,rfl,hp,hwc⟩:=hcut;obtain⟨hpl,ht,hre⟩:=ZqN HR.out hp HA.out;have HTR:=Zab (And.intro ht hre);have FAc:=Zab (FA.out.on hwc);have FBc:=Zab (FB.out.on hwc);have HLc:=Zab (HLa.out.below hwc);have HCw:=Zab hwc;obtain⟨b',off',e',hbw,-,hc⟩:=HLc.out.at.full' (by omega);injection e' with e'
  injection e' with e1 e2
  subst e1 e2;obtain⟨_,hcl⟩:=hc p hpl;have c3:=hcl.c3;have fz:=HLc.out.frz (by omega);have x5:=FAc.out.cell 5;have y3:=FBc.out.cell 3;simp at x5 y3;have hfp:=HF.out p hpl;clear hc hcl hwc ht hre FA FB HLa;have HFR:=Zab (HLc.out.free hpl am);have HT0:Hid (Zad l0 l1 w wc):=(Zad.below HBa.out).trans (Zad.below HCw.out);go_wp2
  go_region
  all_goals go_end0
  all_goals exact⟨⟨_,rfl⟩,p,⟨hpl,HTR.out⟩,(HT0.out.trans HFR.out.2).trans (Zad.below (Zb_.drew)),HFR.out.1.below (Zb_.drew)⟩
end Go.Proofs.YtfohnageehneoaaGreat
namespace Go.Proofs.YtfohnageehneoaaGreat
open Go.RowKit Go.Deep Go.Lib
end Go.Proofs.YtfohnageehneoaaGreat
namespace Go.Proofs.YtfohnageehneoaaGreat
open Go.RowKit Go.Deep
theorem ZgG:∀ (A B:List Pu),Zch (A ++ B)=Zch A ++ Zch B
 | [],B=>rfl
 | x :: A,B=>by simp only [List.cons_append,Zch,ZgG A B]
theorem Zie (L:List Pu) (k:Nat):Zch L=Zch (L.take k) ++ Zch (L.drop k):=by
 rw [← ZgG,List.take_append_drop]
theorem ZoQ (L:List Pu) (k:Nat) (h:k≤L.length):Zch (L.drop k)=(Zch L).drop (k*5):=by
 have hl:(Zch (L.take k)).length=k*5:=by rw [Zc7,List.length_take];omega
 have h1:=List.drop_left' (l₂:=Zch (L.drop k)) hl;rw [← Zie] at h1;exact h1.symm
theorem Zoo (L:List Pu) (k:Nat) (h:k≤L.length):Zch (L.take k)=(Zch L).take (k*5):=by
 have hl:(Zch (L.take k)).length=k*5:=by rw [Zc7,List.length_take];omega
 have h1:=List.take_left' (l₂:=Zch (L.drop k)) hl;rw [← Zie] at h1;exact h1.symm
theorem Zm9 (L:List Pu) (i:Nat) (h:i < L.length):Zch (L.eraseIdx i)=(Zch L).take (i*5) ++ (Zch L).drop ((i+1)*5):=by
 rw [List.eraseIdx_eq_take_drop_succ,ZgG,Zoo L i (by omega),ZoQ L (i+1) (by omega)]
theorem Za5.facts {p0 p1 b off cap:Nat} {w:World} {Ps:List Pu} (h:Za5 p0 p1 w (.slice (some ⟨b,off,none⟩) Ps.length cap) Ps) (hp:0 < Ps.length):b < w.heap.size∧p0≤b∧b < p1∧(∀ i,w.frozen? ⟨b,i,none⟩=false)∧Ps.length≤maxLen∧Ps.length≤cap∧(∀ i (hi:i < Ps.length),Zcr Ps[i])∧∀ q u,(Zch Ps)[q]?=some u→w.cell? ⟨b,off+q,none⟩=some u:=by
 have hnews:=Zel h.at (Below.refl w.heap.size w)
 rcases h with ⟨_,_,_,h⟩ | ⟨b',off',cap',c,X,h1,h2,h3,h4,h5,h6⟩
 · rw [h] at hp;simp at hp
 · injection h1 with e1 _ e3
   injection e1 with e1
   injection e1 with e1 e2
   subst e1 e2 e3;exact⟨h6.lt,h6.low,h6.bh,h6.frz,h3,h4,fun i hi=>by have:=(h6.row i hi).1;rw [h5 i hi] at this;exact this,fun q u hu=>by have:=hnews q u hu;rwa [Go.WideShapes.add_plain] at this⟩
end Go.Proofs.YtfohnageehneoaaGreat
