import Derived.Test.YtlmippkhpjcfcaaGreatVOE
import Derived.Test.YtlmippkhpjcfcaaGreatVHB
import Derived.Lib.SliceRun
import Derived.Deep.RegionLaw
import Derived.Deep.RegionHeldLaw
set_option maxHeartbeats 16000000
set_option maxRecDepth 100000
open Go.Proofs.Tryz
namespace Go.Proofs.YtlmippkhpjcfcaaGreat
open Go.RowKit Go.Deep
theorem Zqg {P:Prop} (h:Hid P):P:=h.out
theorem Zhm (X:World) (a b c:Obj):Below X.heap.size X (((X.alloc a).alloc b).alloc c):=((Zb_.alloc Zl_ _).alloc (by simp) _).alloc (by simp;omega) _
theorem ZlF (lo:Nat) (r:Ru) (vv:Value) (w:World) (hv:Zav lo w vv r.vb) (hn:r.vb.length≤1048576) :
 Calls prog 93 #[.agg #[vv,.string r.kd,.string r.tm,.string r.pf]] w fun e w'=>∃ v',e=.returned (.agg #[v',.string r.kd,.string r.tm,.string r.pf])∧Zw_ w w'∧Zau w.heap.size w'.heap.size w' v' r.vb:=by
 obtain⟨i0,hi,hz0,hz1,hz2⟩:=info_parts Tryz.info3;have HI:=Zab (And.intro hi (And.intro hz0 (And.intro hz1 hz2)));clear hi hz0 hz1 hz2;have HV:=Zab hv;obtain⟨a,cap,rfl⟩:=hv.form;clear hv
 cases a with
 | none=>
  have hL:r.vb=[]:=by
   rcases HV.out with ⟨_,_,_,h⟩ | ⟨_,_,_,h,_⟩
   · exact h
   · injection h with h;cases h
  obtain⟨vb,kd,tm,pf⟩:=r;simp only [] at hL;subst hL;go_enter func93,ntmps93;go_wp2;refine bodyPost_ret (v:=.agg #[.slice (some ⟨w.heap.size+1+1,0,none⟩) 0 0,.string kd,.string tm,.string pf]) (by simp [results,results93,go_sem]) rfl ⟨_,rfl,Zhm _ _ _ _,Or.inl ⟨_,_,rfl,rfl⟩⟩
 | some ad=>
  go_enter func93,ntmps93;go_wp2_with (at_builtin;apply Zqg);unfold Hid
  (refine wpList_append_own_at _ rfl (.tmp 3) (.tmp 5) 56 rfl (w.heap.size+2) 3 i0 (.int .i64 0) 1 8 underlying56 HI.out.1 HI.out.2.1 HI.out.2.2.1 HI.out.2.2.2 rfl (by decide) _ 0 [] rfl (Zbh _ _ 3 1 (by simp) (by omega)) ad r.vb.length cap (ivO r.vb) rfl (by unfold ivO;rw [List.length_map,Nat.mul_one]) (HV.out.newsO (Zhm _ _ _ _)) (ZhK _) (by unfold maxLen;omega) (by omega) (by simp) ?_;intro v' w4 hown4 hgrow4 hnil4 hat4)
  rw [Nat.zero_add,List.nil_append] at hown4;have hB:Below (w.heap.size+2) _ w4:=ZbS (Zbh _ (w.heap.size+1+1) 3 1 (by simp) (by omega)) hgrow4 (by simp);have HO:Hid (Zau (w.heap.size+2) w4.heap.size w4 v' r.vb):=ZiC hown4;have HB:Hid (Zw_ w w4):=(Zhm _ _ _ _).trans (hB.mono (by omega));have hz:w.heap.size+1 < w4.heap.size:=by have:=hB.size;simp at this;omega
  have b1:Box w4 w.heap.size #[.slice (some ad) r.vb.length cap,.string r.kd,.string r.tm,.string r.pf]:=(((Box.new w _ 63 w.heap.size rfl).on (Zac _ _)).on (Zac _ _)).below hB (by omega);have b2:Box w4 (w.heap.size+1) #[.slice none 0 0,.string ⟨#[]⟩,.string ⟨#[]⟩,.string ⟨#[]⟩]:=((Box.new _ _ 63 (w.heap.size+1) (by simp)).on (Zac _ _)).below hB (by omega);obtain⟨a',cap',rfl⟩:=HO.out.form;simp only [];have c0:=b1.cell 0;have c1:=b1.cell 1;have c2:=b1.cell 2;have c3:=b1.cell 3;have d0:=b2.cell 0;have d1:=b2.cell 1;have d2:=b2.cell 2;have d3:=b2.cell 3;have f0:=b1.free;have f1:=b2.free;clear b1 b2 hown4 hB hgrow4 hnil4 hat4;go_wp2;refine bodyPost_ret (v:=.agg #[.slice a' r.vb.length cap',.string r.kd,.string r.tm,.string r.pf]) (by simp [results,results93,go_sem,d0,d1,d2,d3]) rfl ⟨_,rfl,?_,?_⟩
  · repeat (refine Below.setCell ?_ (by simp only [];omega) _)
    exact HB.out
  · refine Zau.wide (lo:=w.heap.size+2) (hi:=w4.heap.size) ?_ (by omega) (by simp [World.setCell])
    repeat (refine Zau.setLow ?_ (by simp only [];omega) _)
    exact HO.out
def ZmD (d t r:Zy_) (p:Pu):Bool:=(p.dr.toList == d.toList)&&(p.tm.toList == t.toList)&&(p.re.toList == r.toList)
def ZsF (Ps:List Pu) (d t r:Zy_):Nat:=Ps.findIdx (ZmD d t r)
def ZgV (Ps:List Pu) (d t r:Zy_):Int:=if ZsF Ps d t r < Ps.length then (ZsF Ps d t r:Int) else -1
theorem Zsh {Ps:List Pu} {d t r:Zy_} {k:Nat} (hk:k < Ps.length) (h:ZmD d t r Ps[k]=true) (hall:∀ i (h:i < Ps.length),i < k→ZmD d t r Ps[i]=false):ZsF Ps d t r=k:=by
 unfold ZsF;rw [List.findIdx_eq hk];exact⟨h,fun j hj=>by simpa using hall j (by omega) hj⟩
theorem Zp4 {Ps:List Pu} {d t r:Zy_} {k:Nat} (hk:k < Ps.length) (h:ZmD d t r Ps[k]=true) (hall:∀ i (h:i < Ps.length),i < k→ZmD d t r Ps[i]=false):ZgV Ps d t r=k:=by
 unfold ZgV;rw [Zsh hk h hall,if_pos hk]
theorem Zow {Ps:List Pu} {d t r:Zy_} (hall:∀ i (h:i < Ps.length),ZmD d t r Ps[i]=false):ZgV Ps d t r= -1:=by
 unfold ZgV;rw [if_neg];unfold ZsF;rw [List.findIdx_lt_length];rintro⟨x,hx,h⟩;obtain⟨i,hi,rfl⟩:=List.getElem_of_mem hx;rw [hall i hi] at h
 cases h
section
variable (lo:Nat) (ov gv lv pv:Value) (B:Bk) (w:World)
theorem ZlM (d t r:Zy_) (h:ZaU lo w ov gv lv pv B) :
 Calls prog 36 #[.agg #[.int .i64 B.now,.int .i64 B.tick,.int .i64 B.given,ov,gv,lv,pv],.string d,.string t,.string r] w fun e w'=>e=.returned (.int .i64 (ZgV B.ps d t r))∧Zw_ w w':=by
 have HG:=Zab h.pus;have hmax:=h.pus.max;unfold maxLen at hmax;obtain⟨a0,k0,rfl⟩:=h.obs.form;obtain⟨a1,k1,rfl⟩:=h.grs.form;obtain⟨a2,k2,rfl⟩:=h.les.form;obtain⟨a3,k3,rfl⟩:=h.pus.form;clear h;go_enter func36,ntmps36;go_wp2;generalize hWa:w.alloc _=Wa;have HB:Hid (Zw_ w Wa):=by rw [← hWa];exact Zac w _
 have HX:Hid (Box Wa w.heap.size #[.int .i64 B.now,.int .i64 B.tick,.int .i64 B.given,.slice a0 B.os.length k0,.slice a1 B.gs.length k1,.slice a2 B.ls.length k2,.slice a3 B.ps.length k3]):=by rw [← hWa];exact Box.new _ _ _ _ rfl
 clear hWa
 go_loop [9] (fun i=>∃ k:Nat,i=.int .i64 k∧k≤B.ps.length∧∀ j (h:j < B.ps.length),j < k→ZmD d t r B.ps[j]=false) (fun i=>B.ps.length - (intOf i).toNat)
 case atStart=>exact⟨0,rfl,Nat.zero_le _,fun j _ h=>by omega⟩
 case round=>
  obtain⟨k,rfl,hk,hall⟩:=hrel;have HA:=Zab hall;clear hall;have x6:=HX.out.cell 6;simp at x6
  by_cases hlt:k < B.ps.length
  · obtain⟨b,off,rfl,hbw,-,hc⟩:=HG.out.full' (by omega)
    obtain⟨hs,hcell⟩:=hc k hlt;obtain⟨c0,c1,c2,c3,c4⟩:=hcell.below HB.out hbw;have HQ:Hid (ZmD d t r B.ps[k]=((B.ps[k].dr.toList == d.toList)&&(B.ps[k].tm.toList == t.toList)&&(B.ps[k].re.toList == r.toList))):=rfl;clear hc hcell hs
    cases q1:(B.ps[k].dr.toList == d.toList) with
    | false=>
     have HF:Hid (ZmD d t r B.ps[k]=false):=by unfold Hid;rw [HQ.out,q1];rfl
     go_wp2
     go_round
     case rel=>exact⟨k+1,by go_num,by omega,fun j hj hjk=>by
      by_cases e:j=k
      · subst e;exact HF.out
      · exact HA.out j hj (by omega)⟩
     case measure=>simp [intOf];omega
    | true=>
     cases q2:(B.ps[k].tm.toList == t.toList) with
     | false=>
      have HF:Hid (ZmD d t r B.ps[k]=false):=by unfold Hid;rw [HQ.out,q1,q2];rfl
      go_wp2
      go_round
      case rel=>exact⟨k+1,by go_num,by omega,fun j hj hjk=>by
       by_cases e:j=k
       · subst e;exact HF.out
       · exact HA.out j hj (by omega)⟩
      case measure=>simp [intOf];omega
     | true=>
      cases q3:(B.ps[k].re.toList == r.toList) with
      | false=>
       have HF:Hid (ZmD d t r B.ps[k]=false):=by unfold Hid;rw [HQ.out,q1,q2,q3];rfl
       go_wp2
       go_round
       case rel=>exact⟨k+1,by go_num,by omega,fun j hj hjk=>by
        by_cases e:j=k
        · subst e;exact HF.out
        · exact HA.out j hj (by omega)⟩
       case measure=>simp [intOf];omega
      | true=>
       have HT:Hid (ZgV B.ps d t r=k):=Zp4 hlt (by rw [HQ.out,q1,q2,q3];rfl) HA.out;go_wp2;go_ret;exact⟨congrArg (fun x=>Ending.returned (Value.int .i64 x)) HT.out.symm,HB.out⟩
  · have HN:Hid (ZgV B.ps d t r= -1):=Zow (fun i hi=>HA.out i hi (by omega))
    go_wp2;go_ret;exact⟨congrArg (fun x=>Ending.returned (Value.int .i64 x)) HN.out.symm,HB.out⟩
end
def ZgF (Ls:List Le) (p:Nat) (am:Int):List Le:=match Ls[p]? with
 | some x=>Ls.set p { x with fr:=x.fr+am }
 | none=>Ls
theorem Zq5 {Ls:List Le} {p:Nat} (h:p < Ls.length) (am:Int):ZgF Ls p am=Ls.set p { Ls[p] with fr:=Ls[p].fr+am }:=by
 unfold ZgF;rw [List.getElem?_eq_getElem h]
theorem Zcu (Ls:List Le) (p:Nat) (am:Int):(ZgF Ls p am).length=Ls.length:=by
 unfold ZgF
 split
 · rw [List.length_set]
 · rfl
theorem ZqX {Ls:List Le} {t r:Zy_} {p:Nat} (hr:Zdb Zcz Ls=true) (hs:Zos Zcz Ls ⟨t,r,0,0⟩ p) (ha:Ls.any (Zcx t r)=true):∃ h:p < Ls.length,Ls[p].tm=t∧Ls[p].re=r:=by
 have h1:=Zjb ZeN (fun x y h1 h2=>by
  obtain⟨e1,e2⟩:=ZdL.1 h2;unfold Zcz at h1 ⊢;simp only [] at e1 e2 ⊢;rw [← e1,← e2];exact h1) hr hs
 rw [Zqi,ha] at h1;unfold Zg9 at h1
 by_cases hp:p < Ls.length
 · refine⟨hp,?_⟩
   rw [List.getElem?_eq_getElem hp] at h1;simp only [] at h1
   have h2:Zcz Ls[p] ⟨t,r,0,0⟩=0:=by
    first
    | exact of_decide_eq_true h1
    | exact of_decide_eq_true h1.symm
   exact ZdL.1 h2
 · rw [List.getElem?_eq_none (by omega)] at h1
   simp at h1
theorem ZaR.frz {l0 l1:Nat} {W:World} {b off cap:Nat} {Ls:List Le} (h:ZaR l0 l1 W (.slice (some ⟨b,off,none⟩) Ls.length cap) Ls) (hp:0 < Ls.length):∀ i,W.frozen? ⟨b,i,none⟩=false:=by
 rcases h with ⟨_,_,_,h⟩ | ⟨b',off',cap',c,X,h1,h2,h3,h4,h5,h6⟩
 · rw [h] at hp;simp at hp
 · injection h1 with e1 _ e3
   injection e1 with e1
   injection e1 with e1 e2
   subst e1 e2 e3;exact h6.frz
theorem ZaR.free {l0 l1:Nat} {W:World} {b off cap:Nat} {Ls:List Le} (h:ZaR l0 l1 W (.slice (some ⟨b,off,none⟩) Ls.length cap) Ls) {p:Nat} (hp:p < Ls.length) (am:Int) :
 ZaR l0 l1 (W.setCell ⟨b,off+p*4+3,none⟩ (.int .i64 (Ls[p].fr+am))) (.slice (some ⟨b,off,none⟩) Ls.length cap) (ZgF Ls p am)∧Zae l0 l1 W (W.setCell ⟨b,off+p*4+3,none⟩ (.int .i64 (Ls[p].fr+am))):=by
 rcases h with ⟨_,_,_,h⟩ | ⟨b',off',cap',c,X,h1,h2,h3,h4,h5,h6⟩
 · rw [h] at hp;simp at hp
 · injection h1 with e1 _ e3
   injection e1 with e1
   injection e1 with e1 e2
   subst e1 e2 e3;have hx:=h6.row p hp;rw [h5 p hp] at hx;obtain⟨hz,hc⟩:=hx;have hbc:b < c p:=Zk_ h6.bc (h6.le Zz_ (by omega))
   have hst:Zjn W b (off+p*4) (c p) (c (p+1)) W Ls[p]:=⟨ZbZ.refl _ _ _ _ _ _,hbc,hc,h6.frz,h6.lt⟩;have hs3:=hst.s3 (Ls[p].fr+am);have hrow:=h6.near hp hs3.near (show ZfO b (off+p*4) (c p) (c (p+1)) _ { Ls[p] with fr:=Ls[p].fr+am } from ⟨⟨hz.s0,hz.s1⟩,hs3.cells⟩);refine⟨Or.inr ⟨b,off,cap,c,_,by rw [Zcu],?_,by rw [Zcu];exact h3,by rw [Zcu];exact h4,fun i hi=>?_,by rw [Zcu];exact hrow⟩,hs3.near.wide h6.lt (by have:=h6.low;omega) (Nat.le_trans (h6.le (by omega) Zl_) h6.top) ⟨h6.low,h6.bh⟩⟩
   · intro e
     have:=congrArg List.length e;rw [Zcu] at this;exact h2 (List.length_eq_zero_iff.1 (by simpa using this))
   · have hi':i < Ls.length:=by rw [Zcu] at hi;exact hi
     have e:(ZgF Ls p am)[i]=(Ls.set p { Ls[p] with fr:=Ls[p].fr+am })[i]'(by rw [List.length_set];exact hi'):=by
      have:=Zq5 hp am;simp only [this]
     rw [e,List.getElem_set]
     by_cases ei:i=p
     · subst ei;simp
     · rw [if_neg ei,if_neg (fun h=>ei h.symm)];exact h5 i hi'
theorem ZlN (β l0 l1 b off cap:Nat) (n0 n1 n2 ov gv pv:Value) (Ls:List Le) (dr t r:Zy_) (am un:Int) (w:World) (hX:Box w β #[n0,n1,n2,ov,gv,.slice (some ⟨b,off,none⟩) Ls.length cap,pv]) (hL:ZaR l0 l1 w (.slice (some ⟨b,off,none⟩) Ls.length cap) Ls) (hn:Ls.length≤1048576) (hr:Zdb Zcz Ls=true) (ha:Ls.any (Zcx t r)=true)
 (_hb:β < l0∨l1≤β) (hf:∀ i (h:i < Ls.length),0≤Ls[i].fr∧Ls[i].fr≤1000000) (ham:0≤am∧am≤1000000) (_hl1:l1≤w.heap.size) :
 Calls prog 107 #[.pointer (some ⟨β,0,none⟩),.agg #[.string dr,.string t,.string r,.int .i64 am,.int .i64 un]] w fun e w'=>(∃ v,e=.returned v)∧∃ p,(∃ h:p < Ls.length,Ls[p].tm=t∧Ls[p].re=r)∧Zae l0 l1 w w'∧ZaR l0 l1 w' (.slice (some ⟨b,off,none⟩) Ls.length cap) (ZgF Ls p am):=by
 have HL:=Zab hL;have HR:=Zab hr;have HA:=Zab ha;have HF:=Zab hf;have hbl:=hX.lt;have HX0:=Zab hX;clear hL hr ha hf hX;go_enter func107,ntmps107;go_wp2;generalize hWa:w.alloc _=Wa;have hba:Zw_ w Wa:=by rw [← hWa];exact Zac w _
 have FB:Hid (Box Wa w.heap.size #[.string dr,.string t,.string r,.int .i64 am,.int .i64 un]):=by rw [← hWa];exact Box.new _ _ _ _ rfl
 have FA:=Zab (HX0.out.on hba);have HLa:=Zab (HL.out.below hba);have HBa:=Zab hba;clear hWa hba HX0 HL
 go_cut [4] (fun pv wc=>∃ p:Nat,pv=.int .i64 p∧Zos Zcz Ls ⟨t,r,0,0⟩ p∧Below Wa.heap.size Wa wc)
 case first=>
  go_region_held3 (Zat Wa β #[n0,n1,n2,ov,gv,.slice (some ⟨b,off,none⟩) Ls.length cap,pv] w.heap.size #[.string dr,.string t,.string r,.int .i64 am,.int .i64 un])
   (first
     | (with_reducible exact Zat.drew FA.out FB.out)
     | (with_reducible exact Zat.on (by assumption) (by assumption))
     | assumption)
   (first
     | (go_at_call 164
        refine (ZeJ l0 _ Ls t r _ (HLa.out.at.below (Zb_.drew)) hn HR.out).mono ?_;rintro e w1 ⟨⟨p,hp,rfl⟩,hb1⟩;have HP:=Zab hp;have HC1:Hid (Below Wa.heap.size Wa w1):=Zb_.drew.trans (hb1.mono Zl_);clear hp))
  all_goals go_wp2
  all_goals go_meet
  all_goals exact⟨p,rfl,HP.out,HC1.out⟩
 case rest=>
  obtain⟨p,rfl,hp,hwc⟩:=hcut;obtain⟨hpl,ht,hre⟩:=ZqX HR.out hp HA.out;have HTR:=Zab (And.intro ht hre);have FAc:=Zab (FA.out.on hwc);have FBc:=Zab (FB.out.on hwc);have HLc:=Zab (HLa.out.below hwc);have HCw:=Zab hwc;obtain⟨b',off',e',hbw,-,hc⟩:=HLc.out.at.full' (by omega);injection e' with e'
  injection e' with e1 e2
  subst e1 e2;obtain⟨_,hcl⟩:=hc p hpl;have c3:=hcl.c3;have fz:=HLc.out.frz (by omega);have x5:=FAc.out.cell 5;have y3:=FBc.out.cell 3;simp at x5 y3;have hfp:=HF.out p hpl;clear hc hcl hwc ht hre FA FB HLa;have HFR:=Zab (HLc.out.free hpl am);have HT0:Hid (Zae l0 l1 w wc):=(Zae.below HBa.out).trans (Zae.below HCw.out);go_wp2
  go_region
  all_goals go_end0
  all_goals exact⟨⟨_,rfl⟩,p,⟨hpl,HTR.out⟩,(HT0.out.trans HFR.out.2).trans (Zae.below (Zb_.drew)),HFR.out.1.below (Zb_.drew)⟩
end Go.Proofs.YtlmippkhpjcfcaaGreat
namespace Go.Proofs.YtlmippkhpjcfcaaGreat
open Go.RowKit Go.Deep Go.Lib
def puZ:List Value:=[.string ⟨#[]⟩,.string ⟨#[]⟩,.string ⟨#[]⟩,.int .i64 0,.int .i64 0]
theorem Zp7 (w:World) (ty:TypeId) (b o n c:Nat) (hn:n=1) (hc:∀ j,j < 5→(w.cell? ⟨b,o+j,none⟩).isSome=true) (hf:∀ j,j < 5→w.frozen? ⟨b,o+j,none⟩=false) :
 (Builtin.clear_ #[38] ty #[.slice (some ⟨b,o,none⟩) n c]).run prog w=.ok (.tuple #[]) (w.setCells b o puZ):=by
 subst hn;have hzc:(Builtin.zeroCells (Value.cells (.agg #[.string ⟨#[]⟩,.string ⟨#[]⟩,.string ⟨#[]⟩,.int .i64 0,.int .i64 0])) 1).toList=puZ:=by first | kernel_rfl|(simp [Builtin.zeroCells,puZ,Value.cells];rfl)
 have hst:=run_storeCells_cells (P:=prog) b o puZ 0 w (by simpa [puZ] using hc) (by simpa [puZ] using hf) (by intro v hv';simp [puZ] at hv';rcases hv' with rfl | rfl <;> rfl);simp only [Nat.add_zero] at hst;simp [Builtin.clear_,run_underlying underlying38,hzc,hst]
end Go.Proofs.YtlmippkhpjcfcaaGreat
namespace Go.Proofs.YtlmippkhpjcfcaaGreat
open Go.RowKit Go.Deep
theorem Zjg:∀ (A B:List Pu),Zck (A ++ B)=Zck A ++ Zck B
 | [],B=>rfl
 | x :: A,B=>by simp only [List.cons_append,Zck,Zjg A B]
theorem Ziv (L:List Pu) (k:Nat):Zck L=Zck (L.take k) ++ Zck (L.drop k):=by
 rw [← Zjg,List.take_append_drop]
theorem Zpg (L:List Pu) (k:Nat) (h:k≤L.length):Zck (L.drop k)=(Zck L).drop (k*5):=by
 have hl:(Zck (L.take k)).length=k*5:=by rw [Zb1,List.length_take];omega
 have h1:=List.drop_left' (l₂:=Zck (L.drop k)) hl;rw [← Ziv] at h1;exact h1.symm
theorem Zqt (L:List Pu) (k:Nat) (h:k≤L.length):Zck (L.take k)=(Zck L).take (k*5):=by
 have hl:(Zck (L.take k)).length=k*5:=by rw [Zb1,List.length_take];omega
 have h1:=List.take_left' (l₂:=Zck (L.drop k)) hl;rw [← Ziv] at h1;exact h1.symm
theorem Zib (L:List Pu) (i:Nat) (h:i < L.length):Zck (L.eraseIdx i)=(Zck L).take (i*5) ++ (Zck L).drop ((i+1)*5):=by
 rw [List.eraseIdx_eq_take_drop_succ,Zjg,Zqt L i (by omega),Zpg L (i+1) (by omega)]
theorem Zsf {p0 p1 b off cap:Nat} {W:World} {L:List Pu} (hc:∀ q u,(Zck L)[q]?=some u→W.cell? ⟨b,off+q,none⟩=some u) (hz:∀ i (hi:i < L.length),ZcT L[i]) (hf:∀ i,W.frozen? ⟨b,i,none⟩=false) (hlt:b < W.heap.size) (h0:p0≤b) (h1:b < p1) (hm:L.length≤maxLen) (hcap:L.length≤cap) :
 ZaY p0 p1 W (.slice (some ⟨b,off,none⟩) L.length cap) L:=by
 by_cases hL:L=[]
 · subst hL;exact Or.inl ⟨_,_,rfl,rfl⟩
 · have h0':0 < L.length:=List.length_pos_iff.2 hL
   refine Or.inr ⟨b,off,cap,fun _=>b+1,fun i=>if h:i < L.length then L[i] else L[0],rfl,hL,hm,hcap,fun i hi=>by simp [hi],hlt,h0,Nat.lt_succ_self _,h1,fun _ _=>Nat.le_refl _,h1,hf,fun i hi=>?_⟩;obtain⟨v0,v1,v2,v3,v4⟩:=ZiW L i hi;simp only [hi,dif_pos];have e:∀ t,off+i*5+t=off+(i*5+t):=fun t=>by omega
   exact⟨hz i hi,⟨hc _ _ v0,by rw [e];exact hc _ _ v1,by rw [e];exact hc _ _ v2,by rw [e];exact hc _ _ v3,by rw [e];exact hc _ _ v4⟩⟩
theorem Zdz (p0 p1 b:Nat) (h:p0≤b∧b < p1):∀ (vs:List Value) (o:Nat) (w:World),Zae p0 p1 w (w.setCells b o vs)
 | [],_,w=>Zae.refl _ _ _
 | v :: r,o,w=>by
  rw [World.setCells];exact (Zae.setCell p0 p1 w ⟨b,o,none⟩ v h).trans (Zdz p0 p1 b h r (o+1) _)
theorem ZdC (b:Nat):∀ (vs:List Value) (o:Nat) (w:World),(w.setCells b o vs).heap.size=w.heap.size
 | [],_,_=>rfl
 | v :: r,o,w=>by rw [World.setCells,ZdC b r];simp [World.setCell]
theorem ZaY.facts {p0 p1 b off cap:Nat} {w:World} {Ps:List Pu} (h:ZaY p0 p1 w (.slice (some ⟨b,off,none⟩) Ps.length cap) Ps) (hp:0 < Ps.length):b < w.heap.size∧p0≤b∧b < p1∧(∀ i,w.frozen? ⟨b,i,none⟩=false)∧Ps.length≤maxLen∧Ps.length≤cap∧(∀ i (hi:i < Ps.length),ZcT Ps[i])∧∀ q u,(Zck Ps)[q]?=some u→w.cell? ⟨b,off+q,none⟩=some u:=by
 have hnews:=Zeq h.at (Below.refl w.heap.size w)
 rcases h with ⟨_,_,_,h⟩ | ⟨b',off',cap',c,X,h1,h2,h3,h4,h5,h6⟩
 · rw [h] at hp;simp at hp
 · injection h1 with e1 _ e3
   injection e1 with e1
   injection e1 with e1 e2
   subst e1 e2 e3;exact⟨h6.lt,h6.low,h6.bh,h6.frz,h3,h4,fun i hi=>by have:=(h6.row i hi).1;rw [h5 i hi] at this;exact this,fun q u hu=>by have:=hnews q u hu;rwa [Go.WideShapes.add_plain] at this⟩
theorem ZjA (p0 p1 b off cap i:Nat) (Ps:List Pu) (w:World) (h:ZaY p0 p1 w (.slice (some ⟨b,off,none⟩) Ps.length cap) Ps) (hi:i < Ps.length) (hn:Ps.length≤1048576) :
 Calls prog 108 #[.slice (some ⟨b,off,none⟩) Ps.length cap,.int .i64 i,.int .i64 (i+1)] w
  fun e w'=>e=.returned (.slice (some ⟨b,off,none⟩) (i+(Ps.length - (i+1))) cap)∧Zae p0 p1 w w'∧ZaY p0 p1 w' (.slice (some ⟨b,off,none⟩) (Ps.eraseIdx i).length cap) (Ps.eraseIdx i):=by
 obtain⟨i0,hi0,hz0,hz1,hz2⟩:=info_parts Tryz.info102;obtain⟨f1,f2,f3,f4,f5,f6,f7,f8⟩:=h.facts (by omega);obtain⟨news,hnews⟩:∃ news,news=(Zck Ps).drop ((i+1)*5):=⟨_,rfl⟩
 have hlen:news.length=(Ps.length - (i+1))*5:=by rw [hnews,List.length_drop,Zb1];omega
 have hget:∀ t,news[t]?=(Zck Ps)[(i+1)*5+t]?:=fun t=>by rw [hnews,List.getElem?_drop]
 obtain⟨A,hA,hsrc⟩:∃ A:Addr,(if cap=i+1 then some (⟨b,off,none⟩:Addr) else some ⟨b,off+(i+1)*5,none⟩)=some A∧Hid (∀ t u,news[t]?=some u→w.drew.cell? (A.add t)=some u):=by
  by_cases hc:cap=i+1
  · refine⟨⟨b,off,none⟩,by simp [hc],fun t u hu=>?_⟩
    have h0:news.length=0:=by rw [hlen];omega
    rw [List.length_eq_zero_iff.1 h0] at hu;simp at hu
  · refine⟨⟨b,off+(i+1)*5,none⟩,by simp [hc],fun t u hu=>?_⟩
    rw [hget] at hu;rw [Go.WideShapes.add_plain];have:=f8 _ _ hu
    rwa [← Nat.add_assoc] at this
 have hsome:∀ q,q < Ps.length*5→(w.cell? ⟨b,off+q,none⟩).isSome=true:=fun q hq=>by
  rw [f8 q _ (List.getElem?_eq_getElem (by rw [Zb1];exact hq))];rfl
 have S1:=Zab hlen;have S2:Hid (∀ u ∈ news,u.oneCell'=true):=fun u hu=>ZeP Ps u (List.mem_of_mem_drop (by rw [← hnews];exact hu))
 have S3:Hid (∀ t,t < news.length→(w.drew.cell? ⟨b,off+i*5+t,none⟩).isSome=true∧w.drew.frozen? ⟨b,off+i*5+t,none⟩=false):=fun t ht=>by
  rw [hlen] at ht;refine⟨?_,f4 _⟩;rw [Nat.add_assoc];exact hsome _ (by omega)
 obtain⟨W1,hW1⟩:∃ W1,W1=w.drew.setCells b (off+i*5) news:=⟨_,rfl⟩
 have hcl:∀ ty,(Builtin.clear_ #[38] ty #[.slice (some ⟨b,off+(i+(Ps.length - (i+1)))*5,none⟩) (Ps.length - (i+(Ps.length - (i+1)))) (cap - (i+(Ps.length - (i+1))))]).run prog W1=.ok (.tuple #[]) (W1.setCells b (off+(i+(Ps.length - (i+1)))*5) puZ):=fun ty=>
  Zp7 W1 ty b _ _ _ (by omega) (fun j hj=>by
   rw [hW1,World.cell?_setCells_out b _ _ _ _ (fun _ _=>Or.inr (by simp only [];rw [hlen];omega)),Nat.add_assoc];exact hsome _ (by omega)) (fun j hj=>by rw [hW1,World.frozen?_setCells];exact f4 _)
 obtain⟨W2,hW2⟩:∃ W2,W2=W1.setCells b (off+(i+(Ps.length - (i+1)))*5) puZ:=⟨_,rfl⟩
 have HT:Hid (Zae p0 p1 w W2):=by
  rw [hW2,hW1];exact ((Zae.below (Zb_.drew)).trans (Zdz p0 p1 b ⟨f2,f3⟩ _ _ _)).trans (Zdz p0 p1 b ⟨f2,f3⟩ _ _ _)
 have hle:(Ps.eraseIdx i).length=Ps.length - 1:=List.length_eraseIdx_of_lt hi
 have HO:Hid (ZaY p0 p1 W2 (.slice (some ⟨b,off,none⟩) (Ps.eraseIdx i).length cap) (Ps.eraseIdx i)):=by
  refine Zsf (fun q u hu=>?_) (fun k hk=>?_) (fun k=>?_) ?_ f2 f3 (by unfold maxLen;omega) (by omega)
  · have hq:q < (Ps.length - 1)*5:=by
     have:=(List.getElem?_eq_some_iff.1 hu).1;rw [Zb1,hle] at this;exact this
    rw [Zib Ps i hi] at hu;have hpl:(Zck Ps).length=Ps.length*5:=Zb1 _;have htl:((Zck Ps).take (i*5)).length=i*5:=by rw [List.length_take];omega
    rw [hW2,World.cell?_setCells_out b _ _ _ _ (fun _ _=>Or.inl (by simp only [];omega)),hW1]
    by_cases hqi:q < i*5
    · rw [World.cell?_setCells_out b _ _ _ _ (fun _ _=>Or.inl (by simp only [];omega))]
      rw [List.getElem?_append_left (by omega),List.getElem?_take_of_lt hqi] at hu;exact f8 q u hu
    · rw [List.getElem?_append_right (by omega),htl] at hu
      have hj:q - i*5 < news.length:=by rw [hlen];omega
      have hin:=World.cell?_setCells_in b news (off+i*5) w.drew (fun j hj=>(S3.out j hj).1) (q - i*5) hj;rw [show off+i*5+(q - i*5)=off+q by omega] at hin;rw [hin];rw [← hnews,List.getElem?_eq_getElem hj] at hu;exact hu
  · have hm:=List.getElem_mem hk
    obtain⟨k',hk',e⟩:=List.getElem_of_mem (List.mem_of_mem_eraseIdx hm);rw [← e];exact f7 k' hk'
  · rw [hW2,hW1,World.frozen?_setCells,World.frozen?_setCells];exact f4 _
  · rw [hW2,hW1,ZdC,ZdC];exact f1
 have HW1:=Zab hW1;have HW2:=Zab hW2;have hic:i≤cap:=by omega
 have hjc:i+1≤cap:=by omega
 have hil:i≤Ps.length:=by omega
 have hij:(0:Int)≤(i:Int)+1∧(i:Int)+1≤(Ps.length:Int):=by omega
 clear h f4 f7 f8 hget hsome hnews hlen hW1 hW2 hle;go_enter func108,ntmps108;go_wp2_with fail
 go_region_law (refine step_append_room rfl (.tmp 22) (.tmp 25) 38 rfl 102 i0 5 underlying38 hi0 hz1 b off i cap (by simp [Act.eval,Act.put]) A (Ps.length - (i+1)) (cap - (i+1)) news (by simp [Act.eval,Act.put]) S1.out hsrc.out S2.out (by omega) S3.out ?_;rw [← HW1.out])
 go_wp2;rw [← HW2.out];go_ret;exact⟨rfl,HT.out,HO.out⟩
end Go.Proofs.YtlmippkhpjcfcaaGreat
