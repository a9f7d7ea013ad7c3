import Derived.Test.YtlmippkhpjcfcaaGreatVOF
import Derived.Test.YtlmippkhpjcfcaaGreatVJB
set_option maxHeartbeats 16000000
set_option maxRecDepth 100000
open Go.Proofs.Tryz
namespace Go.Proofs.YtlmippkhpjcfcaaGreat
open Go.RowKit Go.Deep
theorem Zma (x:Pu) (d t r:Zy_) (am un:Int):decide (ZcJ x ⟨d,t,r,am,un⟩=0)=ZmD d t r x:=by
 unfold ZmD ZcJ;rw [Bool.eq_iff_iff,Bool.and_eq_true,Bool.and_eq_true,ZaJ,ZaJ,ZaJ,decide_eq_true_iff,Zj4];exact⟨fun ⟨a,b,c⟩=>⟨⟨a,b⟩,c⟩,fun ⟨⟨a,b⟩,c⟩=>⟨a,b,c⟩⟩
theorem ZpA {Ps:List Pu} {d t r:Zy_} {am un:Int} {p:Nat} (hs:Zos ZcJ Ps ⟨d,t,r,am,un⟩ p) (ha:Zg9 ZcJ Ps ⟨d,t,r,am,un⟩ p=true):p < Ps.length∧ZgV Ps d t r=p∧∃ h:p < Ps.length,ZmD d t r Ps[p]=true:=by
 unfold Zg9 at ha
 by_cases hp:p < Ps.length
 · rw [List.getElem?_eq_getElem hp] at ha
   simp only [] at ha;rw [Zma] at ha;refine⟨hp,Zp4 hp ha (fun i hi hip=>?_),hp,ha⟩;have hl:=hs.less i hi hip;rw [← Zma Ps[i] d t r am un];exact decide_eq_false (by omega)
 · rw [List.getElem?_eq_none (by omega)] at ha
   simp at ha
theorem Zof {Ps:List Pu} {d t r:Zy_} {am un:Int} {p:Nat} (hr:Zdb ZcJ Ps=true) (hs:Zos ZcJ Ps ⟨d,t,r,am,un⟩ p) (ha:Zg9 ZcJ Ps ⟨d,t,r,am,un⟩ p=false):ZgV Ps d t r= -1:=by
 have h1:=Zjb Zf0 (fun x y h1 h2=>by
  obtain⟨e1,e2,e3⟩:=Zj4.1 h2;unfold ZcJ at h1 ⊢;simp only [] at e1 e2 e3 ⊢;rw [← e1,← e2,← e3];exact h1) hr hs
 rw [ha] at h1;refine Zow (fun i hi=>?_);have h2:=List.any_eq_false.1 h1.symm Ps[i] (List.getElem_mem hi);rw [← Zma Ps[i] d t r am un]
 simpa using h2
theorem ZaR.some {l0 l1:Nat} {W:World} {a:Option Addr} {n cap:Nat} {Ls:List Le} (h:ZaR l0 l1 W (.slice a n cap) Ls) (hp:0 < Ls.length):∃ b off,a=some ⟨b,off,none⟩:=by
 rcases h with ⟨_,_,_,h⟩ | ⟨b',off',cap',c,X,h1,_⟩
 · rw [h] at hp;simp at hp
 · injection h1 with e1
   exact⟨b',off',e1⟩
theorem ZaY.some {l0 l1:Nat} {W:World} {a:Option Addr} {n cap:Nat} {Ls:List Pu} (h:ZaY l0 l1 W (.slice a n cap) Ls) (hp:0 < Ls.length):∃ b off,a=some ⟨b,off,none⟩:=by
 rcases h with ⟨_,_,_,h⟩ | ⟨b',off',cap',c,X,h1,_⟩
 · rw [h] at hp;simp at hp
 · injection h1 with e1
   exact⟨b',off',e1⟩
structure Zp1 (Ls:List Le) (Ps:List Pu):Prop where
 nl:Ls.length≤1048576
 np:Ps.length≤1048576
 rl:Zdb Zcz Ls=true
 rp:Zdb ZcJ Ps=true
 led:∀ i (h:i < Ps.length),Ls.any (Zcx Ps[i].tm Ps[i].re)=true
 fr:∀ i (h:i < Ls.length),0≤Ls[i].fr∧Ls[i].fr≤1000000
 am:∀ i (h:i < Ps.length),0≤Ps[i].am∧Ps[i].am≤1000000
theorem ZjO (β:Nat) (n0 n1 n2 ov gv lv:Value) (pa:Option Addr) (pc:Nat) (Ps:List Pu) (d t r:Zy_) (am un:Int) (w:World) (hX:Box w β #[n0,n1,n2,ov,gv,lv,.slice pa Ps.length pc]) (hP:ZbD 0 w (.slice pa Ps.length pc) Ps) (hn:Ps.length≤1048576) (hr:Zdb ZcJ Ps=true) (hno:ZgV Ps d t r= -1) :
 Calls prog 47 #[.pointer (some ⟨β,0,none⟩),.agg #[.string d,.string t,.string r,.int .i64 am,.int .i64 un]] w fun e w'=>e=.returned (.int .i64 2)∧Zw_ w w':=by
 have HP:=Zab hP;have HR:=Zab hr;have HNO:=Zab hno;have HX0:=Zab hX;have hbl:=hX.lt;clear hP hr hno hX;go_enter func47,ntmps47;go_wp2;generalize hWa:w.alloc _=Wa;have HBa:Hid (Zw_ w Wa):=by rw [← hWa];exact Zac w _
 have FB:Hid (Box Wa w.heap.size #[.string d,.string t,.string r,.int .i64 am,.int .i64 un]):=by rw [← hWa];exact Box.new _ _ _ _ rfl
 have FA:=Zab (HX0.out.on HBa.out);have HPa:=Zab (HP.out.below HBa.out);clear hWa HX0 HP
 go_cut [5,6] (fun pv bv wc=>∃ p:Nat,pv=.int .i64 p∧bv=.bool (Zg9 ZcJ Ps ⟨d,t,r,am,un⟩ p)∧Zos ZcJ Ps ⟨d,t,r,am,un⟩ p∧Below Wa.heap.size Wa wc)
 case first=>
  go_region_held3 (Zat Wa β #[n0,n1,n2,ov,gv,lv,.slice pa Ps.length pc] w.heap.size #[.string d,.string t,.string r,.int .i64 am,.int .i64 un])
   (first
     | (with_reducible exact Zat.drew FA.out FB.out)
     | (with_reducible exact Zat.on (by assumption) (by assumption))
     | assumption)
   (first
     | (go_at_call 105
        refine (Zfz 0 _ Ps ⟨d,t,r,am,un⟩ _ (HPa.out.below (Zb_.drew)) hn (ZhJ Zf0 HR.out _)).mono ?_;rintro e w1 ⟨⟨p,hp,rfl⟩,hb1⟩;have HSP:=Zab hp;have HC1:Hid (Below Wa.heap.size Wa w1):=Zb_.drew.trans (hb1.mono Zl_);clear hp))
  all_goals go_wp2
  all_goals go_meet
  all_goals exact⟨p,rfl,rfl,HSP.out,HC1.out⟩
 case rest=>
  obtain⟨p,rfl,hbv,hp,hwc⟩:=hcut
  have hf:Zg9 ZcJ Ps ⟨d,t,r,am,un⟩ p=false:=by
   cases ha:Zg9 ZcJ Ps ⟨d,t,r,am,un⟩ p with
   | false=>rfl
   | true=>
    have h1:=(ZpA hp ha).2.1;rw [HNO.out] at h1
    omega
  rw [hf] at hbv;subst hbv;have HCw:=Zab hwc;clear hwc hp hf;go_wp2;go_ret;exact⟨rfl,bt HBa.out HCw.out⟩
theorem Zkt (β l0 l1 p0 p1 lb lf lc pb pf pc q:Nat) (n0 n1 n2 ov gv:Value) (Ls:List Le) (Ps:List Pu) (d t r:Zy_) (am un:Int) (w:World) (hX:Box w β #[n0,n1,n2,ov,gv,.slice (some ⟨lb,lf,none⟩) Ls.length lc,.slice (some ⟨pb,pf,none⟩) Ps.length pc])
 (hL:ZaR l0 l1 w (.slice (some ⟨lb,lf,none⟩) Ls.length lc) Ls) (hP:ZaY p0 p1 w (.slice (some ⟨pb,pf,none⟩) Ps.length pc) Ps) (hok:Zp1 Ls Ps)
 (hbl:β < l0∨l1≤β) (hbp:β < p0∨p1≤β) (hlp:l1≤p0∨p1≤l0) (hl1:l1≤w.heap.size) (_hp1:p1≤w.heap.size) (hq:q < Ps.length) (hat:ZgV Ps d t r=q) :
 Calls prog 47 #[.pointer (some ⟨β,0,none⟩),.agg #[.string d,.string t,.string r,.int .i64 am,.int .i64 un]] w fun e w'=>e=.returned (.int .i64 0)∧∃ k,(∃ h:k < Ls.length,Ls[k].tm=Ps[q].tm∧Ls[k].re=Ps[q].re)∧
  (∃ wa wb wc,Zw_ w wa∧Zae l0 l1 wa wb∧Zae p0 p1 wb wc∧Zae β (β+1) wc w')∧
  Box w' β #[n0,n1,n2,ov,gv,.slice (some ⟨lb,lf,none⟩) Ls.length lc,.slice (some ⟨pb,pf,none⟩) (Ps.eraseIdx q).length pc]∧
  ZaR l0 l1 w' (.slice (some ⟨lb,lf,none⟩) Ls.length lc) (ZgF Ls k Ps[q].am)∧ZaY p0 p1 w' (.slice (some ⟨pb,pf,none⟩) (Ps.eraseIdx q).length pc) (Ps.eraseIdx q):=by
 have HL:=Zab hL;have HP:=Zab hP;have HOK:=Zab hok;have HAT:=Zab hat;have HX0:=Zab hX;have hblt:=hX.lt;have hnp:=hok.np;clear hL hP hok hat hX;go_enter func47,ntmps47;go_wp2;generalize hWa:w.alloc _=Wa;have HBa:Hid (Zw_ w Wa):=by rw [← hWa];exact Zac w _
 have FB:Hid (Box Wa w.heap.size #[.string d,.string t,.string r,.int .i64 am,.int .i64 un]):=by rw [← hWa];exact Box.new _ _ _ _ rfl
 have FA:=Zab (HX0.out.on HBa.out);have HLa:=Zab (HL.out.below HBa.out);have HPa:=Zab (HP.out.below HBa.out);clear hWa HX0 HL HP
 go_cut [5,6] (fun pv bv wc=>∃ p:Nat,pv=.int .i64 p∧bv=.bool (Zg9 ZcJ Ps ⟨d,t,r,am,un⟩ p)∧Zos ZcJ Ps ⟨d,t,r,am,un⟩ p∧Below Wa.heap.size Wa wc)
 case first=>
  go_region_held3 (Zat Wa β #[n0,n1,n2,ov,gv,.slice (some ⟨lb,lf,none⟩) Ls.length lc,.slice (some ⟨pb,pf,none⟩) Ps.length pc] w.heap.size #[.string d,.string t,.string r,.int .i64 am,.int .i64 un])
   (first
     | (with_reducible exact Zat.drew FA.out FB.out)
     | (with_reducible exact Zat.on (by assumption) (by assumption))
     | assumption)
   (first
     | (go_at_call 105
        refine (Zfz p0 _ Ps ⟨d,t,r,am,un⟩ _ (HPa.out.at.below (Zb_.drew)) hnp (ZhJ Zf0 HOK.out.rp _)).mono ?_;rintro e w1 ⟨⟨p,hp,rfl⟩,hb1⟩;have HSP:=Zab hp;have HC1:Hid (Below Wa.heap.size Wa w1):=Zb_.drew.trans (hb1.mono Zl_);clear hp))
  all_goals go_wp2
  all_goals go_meet
  all_goals exact⟨p,rfl,rfl,HSP.out,HC1.out⟩
 case rest=>
  obtain⟨p,rfl,hbv,hp,hwc⟩:=hcut
  have htrue:Zg9 ZcJ Ps ⟨d,t,r,am,un⟩ p=true:=by
   cases ha:Zg9 ZcJ Ps ⟨d,t,r,am,un⟩ p with
   | true=>rfl
   | false=>
    have h1:=Zof HOK.out.rp hp ha;rw [HAT.out] at h1
    omega
  have hpq:p=q:=by
   have h1:=(ZpA hp htrue).2.1;rw [HAT.out] at h1
   omega
  subst hpq;rw [htrue] at hbv;subst hbv;have FAc:=Zab (FA.out.on hwc);have HLc:=Zab (HLa.out.below hwc);have HPc:=Zab (HPa.out.below hwc);have HBc:Hid (Zw_ w wc):=bt HBa.out hwc;have hszc:=HBc.out.size;clear hwc hp htrue FA FB HLa HPa HBa;obtain⟨b',off',e',hbw,-,hc⟩:=HPc.out.at.full' (by omega);injection e' with e'
  injection e' with e1 e2
  subst e1 e2;obtain⟨_,hcl⟩:=hc p hq;obtain⟨c0,c1,c2,c3,c4⟩:=hcl;have x6:=FAc.out.cell 6;simp at x6;go_wp2_with fail;clear hc c0 c1 c2 c3 c4 x6;refine (ZlN β l0 l1 lb lf lc n0 n1 n2 ov gv _ Ls Ps[p].dr Ps[p].tm Ps[p].re Ps[p].am Ps[p].un _ FAc.out HLc.out HOK.out.nl HOK.out.rl (HOK.out.led p hq) hbl HOK.out.fr (HOK.out.am p hq) (by omega)).mono ?_;rintro e w2 ⟨⟨v2,rfl⟩,k,hk,ht2,hl2⟩;have FA2:=Zab (FAc.out.touch ht2 hbl);have HP2:=Zab (HPc.out.touch ht2 (by omega));have HL2:=Zab hl2;have HT2:=Zab ht2;have hsz2:=ht2.size;have HK:=Zab hk;clear ht2 hl2 hk FAc HLc HPc;have x6:=FA2.out.cell 6;simp at x6;go_wp2_with fail;clear x6;refine (ZjA p0 p1 pb pf pc p Ps _ HP2.out hq hnp).mono ?_;rintro e w3 ⟨rfl,ht3,ho3⟩;have FA3:=Zab (FA2.out.touch ht3 hbp);have HL3:=Zab (HL2.out.touch ht3 (by omega));have HO3:=Zab ho3;have HT3:=Zab ht3;have hsz3:=ht3.size
  have hle:p+(Ps.length - (p+1))=(Ps.eraseIdx p).length:=by rw [List.length_eraseIdx_of_lt hq];omega
  rw [hle];clear ht3 ho3 FA2 HL2 HP2;have x6:=FA3.out.cell 6;have f6:=FA3.out.free;simp at x6;go_wp2;clear x6 f6;go_ret;have FA4:=FA3.out.set (k:=6) (.slice (some ⟨pb,pf,none⟩) (Ps.eraseIdx p).length pc) (by simp);refine⟨rfl,k,HK.out,⟨wc,w2,w3,HBc.out,HT2.out,HT3.out,Zae.setB β _ _ _⟩,?_,HL3.out.touch (Zae.setB β _ _ _) (by omega),HO3.out.touch (Zae.setB β _ _ _) (by omega)⟩
  simpa using FA4
theorem Zep {Ss:List Sh} {Ms:List Md} {Ts:List Tm} {B:Bk} {FF:Nat→List Zy_} (h:ZcF Ss Ms Ts B FF=true):Zp1 B.ls B.ps:=by
 unfold ZcF Zei ZgK at h;simp only [Bool.and_eq_true] at h;obtain⟨-,-,-,-,hl,hp,-⟩:=h;unfold ZaO at hl;unfold Za9 at hp;simp only [Bool.and_eq_true,decide_eq_true_eq,List.all_eq_true] at hl hp;obtain⟨⟨l1,l2⟩,l3⟩:=hl;obtain⟨⟨p1,p2⟩,p3⟩:=hp;refine⟨by omega,by omega,l2,p2,fun i hi=>?_,fun i hi=>?_,fun i hi=>?_⟩
 · have:=p3 _ (List.getElem_mem hi)
   unfold puB at this;simp only [Bool.and_eq_true] at this;exact this.1.1.1
 · have:=l3 _ (List.getElem_mem hi)
   unfold leB at this;simp only [Bool.and_eq_true,Zeh,decide_eq_true_eq] at this;obtain⟨⟨-,h2⟩,h3⟩:=this
   omega
 · have:=p3 _ (List.getElem_mem hi)
   unfold puB at this;simp only [Bool.and_eq_true,Zeh,decide_eq_true_eq] at this;obtain⟨⟨-,h2⟩,-⟩:=this
   omega
theorem Zaw.setLow {lo hi:Nat} {w:World} {ov gv lv pv:Value} {B:Bk} (h:Zaw lo hi w ov gv lv pv B) {p:Addr} (hp:p.block < lo) (u:Value):Zaw lo hi (w.setCell p u) ov gv lv pv B:=h.touch (Zae.setCell p.block (p.block+1) w p u ⟨Nat.le_refl _,Nat.lt_succ_self _⟩) (Or.inr hp)
def ZdJ (B:Bk) (q k:Nat):Bk:=match B.ps[q]? with
 | some p=>⟨B.now,B.tick,B.given,B.os,B.gs,ZgF B.ls k p.am,B.ps.eraseIdx q⟩
 | none=>B
theorem ZdH {B:Bk} {q k:Nat} (h:q < B.ps.length):ZdJ B q k=⟨B.now,B.tick,B.given,B.os,B.gs,ZgF B.ls k B.ps[q].am,B.ps.eraseIdx q⟩:=by
 unfold ZdJ;rw [List.getElem?_eq_getElem h]
section
variable (δ:Nat) (sv mv tv ov gv lv pv:Value) (Ss:List Sh) (Ms:List Md) (Ts:List Tm) (B:Bk) (FF:Nat→List Zy_) (d t r:Zy_) (w:World)
theorem Zkv (hl:ZaS 0 w sv mv tv Ss Ms Ts) (h:ZaU 0 w ov gv lv pv B) (hn:ZaA B) (hsh:Zbs Ss Ms B.os FF) (hbk:ZcF Ss Ms Ts B FF=false) (fv:Value) :
 Calls prog 45 #[.agg #[sv,mv,tv],.agg #[.int .i64 B.now,.int .i64 B.tick,.int .i64 B.given,ov,gv,lv,pv],fv] w fun e w'=>e=.returned (.tuple #[.agg #[.int .i64 0,.int .i64 0,.int .i64 0,.slice none 0 0,.slice none 0 0,.slice none 0 0,.slice none 0 0],.int .i64 1])∧Zw_ w w':=by
 have HL:=Zab hl;have HK:=Zab h;have HN:=Zab hn;have HSH:=Zab hsh;have HQ:=Zab hbk;obtain⟨sa,sc,rfl⟩:=hl.shs.form;obtain⟨ma,mc,rfl⟩:=hl.mds.form;obtain⟨ta,tc,rfl⟩:=hl.tms.form;obtain⟨a0,k0,rfl⟩:=h.obs.form;obtain⟨a1,k1,rfl⟩:=h.grs.form;obtain⟨a2,k2,rfl⟩:=h.les.form;obtain⟨a3,k3,rfl⟩:=h.pus.form;clear hl h hn hsh hbk;go_enter func45,ntmps45;go_wp2_with fail;generalize hWa:World.alloc (World.alloc (w.alloc _) _) _=Wa;have HBa:Hid (Zw_ w Wa):=by rw [← hWa];exact ((Zac w _).alloc (by simp) _).alloc (by simp;omega) _
 have FB:Hid (Box Wa (w.heap.size+1) #[.int .i64 B.now,.int .i64 B.tick,.int .i64 B.given,.slice a0 B.os.length k0,.slice a1 B.gs.length k1,.slice a2 B.ls.length k2,.slice a3 B.ps.length k3]):=by rw [← hWa];exact (Box.new _ _ _ _ (by simp)).on (Zac _ _)
 have FC:Hid (Box Wa (w.heap.size+2) #[.int .i64 0,.int .i64 0,.int .i64 0,.slice none 0 0,.slice none 0 0,.slice none 0 0,.slice none 0 0]):=by rw [← hWa];exact Box.new _ _ _ _ (by simp)
 clear hWa;refine (ZeC 0 _ _ _ _ _ _ _ Ss Ms Ts B FF _ (HL.out.below HBa.out) (HK.out.below HBa.out) HN.out HSH.out).mono ?_;rintro e w1 ⟨rfl,hb1⟩;rw [HQ.out];have HB1:Hid (Zw_ w w1):=bt HBa.out hb1;replace FB:=Zab (FB.out.on hb1);replace FC:=Zab (FC.out.on hb1);clear hb1 HBa;have r0:=FC.out.cell;have g0:=FC.out.free;have hlt:=FC.out.lt;go_wp2;refine bodyPost_ret (v:=.tuple #[.agg #[.int .i64 0,.int .i64 0,.int .i64 0,.slice none 0 0,.slice none 0 0,.slice none 0 0,.slice none 0 0],.int .i64 1]) (by simp [results,results45,go_sem,r0]) rfl ⟨rfl,?_⟩
 repeat (refine Below.setCell ?_ (by simp only [];omega) _)
 exact HB1.out
theorem Zh4 (hl:ZaS 0 w sv mv tv Ss Ms Ts) (h:ZaU 0 w ov gv lv pv B) (hn:ZaA B) (hsh:Zbs Ss Ms B.os FF) (hbk:ZcF Ss Ms Ts B FF=true) (hat:ZgV B.ps d t r= -1) (h1:Box w δ #[.string d]) (h2:Box w (δ+1) #[.string t]) (h3:Box w (δ+2) #[.string r]) :
 Calls prog 45 #[.agg #[sv,mv,tv],.agg #[.int .i64 B.now,.int .i64 B.tick,.int .i64 B.given,ov,gv,lv,pv],.func (.func 46) #[] #[.pointer (some ⟨δ,0,none⟩),.pointer (some ⟨δ+1,0,none⟩),.pointer (some ⟨δ+2,0,none⟩)]] w fun e w'=>∃ b0 m0 b1 m1 b2 m2 b3 m3,e=.returned (.tuple #[.agg #[.int .i64 B.now,.int .i64 B.tick,.int .i64 B.given,.slice b0 B.os.length m0,.slice b1 B.gs.length m1,.slice b2 B.ls.length m2,.slice b3 B.ps.length m3],.int .i64 2])∧Zw_ w w'∧
  Zaw w.heap.size w'.heap.size w' (.slice b0 B.os.length m0) (.slice b1 B.gs.length m1) (.slice b2 B.ls.length m2) (.slice b3 B.ps.length m3) B:=by
 have HOK:=Zab (Zep hbk);have HAT:=Zab hat;have D1:=Zab h1;have D2:=Zab h2;have D3:=Zab h3;clear hat h1 h2 h3;have HL:=Zab hl;have HK:=Zab h;have HN:=Zab hn;have HSH:=Zab hsh;have HQ:=Zab hbk;obtain⟨sa,sc,rfl⟩:=hl.shs.form;obtain⟨ma,mc,rfl⟩:=hl.mds.form;obtain⟨ta,tc,rfl⟩:=hl.tms.form;obtain⟨a0,k0,rfl⟩:=h.obs.form;obtain⟨a1,k1,rfl⟩:=h.grs.form;obtain⟨a2,k2,rfl⟩:=h.les.form;obtain⟨a3,k3,rfl⟩:=h.pus.form;clear hl h hn hsh hbk;go_enter func45,ntmps45;go_wp2_with fail;generalize hWa:World.alloc (World.alloc (w.alloc _) _) _=Wa;have HBa:Hid (Zw_ w Wa):=by rw [← hWa];exact ((Zac w _).alloc (by simp) _).alloc (by simp;omega) _
 have FB:Hid (Box Wa (w.heap.size+1) #[.int .i64 B.now,.int .i64 B.tick,.int .i64 B.given,.slice a0 B.os.length k0,.slice a1 B.gs.length k1,.slice a2 B.ls.length k2,.slice a3 B.ps.length k3]):=by rw [← hWa];exact (Box.new _ _ _ _ (by simp)).on (Zac _ _)
 have FC:Hid (Box Wa (w.heap.size+2) #[.int .i64 0,.int .i64 0,.int .i64 0,.slice none 0 0,.slice none 0 0,.slice none 0 0,.slice none 0 0]):=by rw [← hWa];exact Box.new _ _ _ _ (by simp)
 clear hWa;refine (ZeC 0 _ _ _ _ _ _ _ Ss Ms Ts B FF _ (HL.out.below HBa.out) (HK.out.below HBa.out) HN.out HSH.out).mono ?_;rintro e w1 ⟨rfl,hb1⟩;rw [HQ.out];have HB1:Hid (Zw_ w w1):=bt HBa.out hb1;replace FB:=Zab (FB.out.on hb1);replace FC:=Zab (FC.out.on hb1);clear hb1 HBa;have g1:=FB.out.cell;go_wp2_with fail;clear g1;refine (ZgB 0 _ _ _ _ B _ (HK.out.below HB1.out) HN.out).mono ?_;rintro e w2 ⟨b0,m0,b1,m1,b2,m2,b3,m3,rfl,hb2,ho2⟩;have HB2:Hid (Zw_ w w2):=bt HB1.out hb2;have hz1:=FC.out.lt;replace FC:=Zab (FC.out.on hb2);have hz2:=FC.out.lt;have hs12:=hb2.size;have hs01:=HB1.out.size;have HO2:=Zab ho2;clear hb2 ho2 HB1 FB;go_wp2_with fail;generalize hWx:w2.alloc _=Wx;have hx:Below w2.heap.size w2 Wx:=by rw [← hWx];exact Zac _ _
 have FX:Hid (Box Wx w2.heap.size #[.int .i64 B.now,.int .i64 B.tick,.int .i64 B.given,.slice b0 B.os.length m0,.slice b1 B.gs.length m1,.slice b2 B.ls.length m2,.slice b3 B.ps.length m3]):=by rw [← hWx];exact Box.new _ _ _ _ rfl
 have hxs:Wx.heap.size=w2.heap.size+1:=by rw [← hWx];simp
 clear hWx;have HBx:Hid (Zw_ w Wx):=bt HB2.out hx;have HOx:=Zab (HO2.out.below hx);replace FC:=Zab (FC.out.on hx);clear hx HB2 HO2
 have hcall:Hid (Calls prog 46 #[.pointer (some ⟨w2.heap.size,0,none⟩),.pointer (some ⟨δ,0,none⟩),.pointer (some ⟨δ+1,0,none⟩),.pointer (some ⟨δ+2,0,none⟩)] Wx fun e w'=>e=.returned (.int .i64 2)∧Below Wx.heap.size Wx w'):=by
  unfold Hid;have c1:=(D1.out.on HBx.out).cell 0;have c2:=(D2.out.on HBx.out).cell 0;have c3:=(D3.out.on HBx.out).cell 0;simp at c1 c2 c3;go_enter func46,ntmps46;go_wp2_with fail;refine (ZjO w2.heap.size _ _ _ _ _ _ _ _ B.ps d t r 0 0 _ FX.out (HOx.out.at.pus.mono Zz_) HOK.out.np HOK.out.rp HAT.out).mono ?_;rintro e w4 ⟨rfl,hb4⟩;have HB4:=Zab hb4;clear hb4 c1 c2 c3;go_wp2;go_ret;exact⟨rfl,HB4.out⟩
 refine hcall.out.mono ?_;rintro e w5 ⟨rfl,hb5⟩;have FX5:=Zab (FX.out.on hb5);have FC5:=Zab (FC.out.on hb5);have HO5:=Zab (HOx.out.below hb5);have HB5:=Zab (bt HBx.out hb5);have hs5:=hb5.size;clear hb5 hcall FX FC HOx HBx;have o0:=FX5.out.cell;have r0:=FC5.out.cell;have g0:=FC5.out.free;go_wp2;clear o0 g0;refine bodyPost_ret (v:=.tuple #[.agg #[.int .i64 B.now,.int .i64 B.tick,.int .i64 B.given,.slice b0 B.os.length m0,.slice b1 B.gs.length m1,.slice b2 B.ls.length m2,.slice b3 B.ps.length m3],.int .i64 2]) (by simp [results,results45,go_sem,r0]) rfl ⟨_,_,_,_,_,_,_,_,rfl,?_,?_⟩
 · repeat (refine Below.setCell ?_ (by simp only [];omega) _)
   exact HB5.out
 · refine Zaw.wide (lo:=w1.heap.size+2) (hi:=w2.heap.size) ?_ (by omega) (by simp [World.setCell];omega)
   iterate 7 (refine Zaw.setLow ?_ (by simp only [];omega) _)
   exact HO5.out
theorem Zh2 (hl:ZaS 0 w sv mv tv Ss Ms Ts) (h:ZaU 0 w ov gv lv pv B) (hn:ZaA B) (hsh:Zbs Ss Ms B.os FF) (hbk:ZcF Ss Ms Ts B FF=true) (q:Nat) (hq:q < B.ps.length) (hat:ZgV B.ps d t r=q) (h1:Box w δ #[.string d]) (h2:Box w (δ+1) #[.string t]) (h3:Box w (δ+2) #[.string r]) :
 Calls prog 45 #[.agg #[sv,mv,tv],.agg #[.int .i64 B.now,.int .i64 B.tick,.int .i64 B.given,ov,gv,lv,pv],.func (.func 46) #[] #[.pointer (some ⟨δ,0,none⟩),.pointer (some ⟨δ+1,0,none⟩),.pointer (some ⟨δ+2,0,none⟩)]] w fun e w'=>∃ b0 m0 b1 m1 b2 m2 b3 m3,e=.returned (.tuple #[.agg #[.int .i64 B.now,.int .i64 B.tick,.int .i64 B.given,.slice b0 B.os.length m0,.slice b1 B.gs.length m1,.slice b2 B.ls.length m2,.slice b3 (B.ps.eraseIdx q).length m3],.int .i64 0])∧Zw_ w w'∧
  ∃ k,(∃ h:k < B.ls.length,B.ls[k].tm=B.ps[q].tm∧B.ls[k].re=B.ps[q].re)∧Zaw w.heap.size w'.heap.size w' (.slice b0 B.os.length m0) (.slice b1 B.gs.length m1) (.slice b2 B.ls.length m2) (.slice b3 (B.ps.eraseIdx q).length m3) (ZdJ B q k):=by
 have HOK:=Zab (Zep hbk);have HAT:=Zab hat;have D1:=Zab h1;have D2:=Zab h2;have D3:=Zab h3
 have hls:0 < B.ls.length:=by
  have h1:=HOK.out.led q hq
  rcases Nat.eq_zero_or_pos B.ls.length with e | e
  · rw [List.length_eq_zero_iff.1 e] at h1;simp at h1
  · exact e
 clear hat h1 h2 h3;have HL:=Zab hl;have HK:=Zab h;have HN:=Zab hn;have HSH:=Zab hsh;have HQ:=Zab hbk;obtain⟨sa,sc,rfl⟩:=hl.shs.form;obtain⟨ma,mc,rfl⟩:=hl.mds.form;obtain⟨ta,tc,rfl⟩:=hl.tms.form;obtain⟨a0,k0,rfl⟩:=h.obs.form;obtain⟨a1,k1,rfl⟩:=h.grs.form;obtain⟨a2,k2,rfl⟩:=h.les.form;obtain⟨a3,k3,rfl⟩:=h.pus.form;clear hl h hn hsh hbk;go_enter func45,ntmps45;go_wp2_with fail;generalize hWa:World.alloc (World.alloc (w.alloc _) _) _=Wa;have HBa:Hid (Zw_ w Wa):=by rw [← hWa];exact ((Zac w _).alloc (by simp) _).alloc (by simp;omega) _
 have FB:Hid (Box Wa (w.heap.size+1) #[.int .i64 B.now,.int .i64 B.tick,.int .i64 B.given,.slice a0 B.os.length k0,.slice a1 B.gs.length k1,.slice a2 B.ls.length k2,.slice a3 B.ps.length k3]):=by rw [← hWa];exact (Box.new _ _ _ _ (by simp)).on (Zac _ _)
 have FC:Hid (Box Wa (w.heap.size+2) #[.int .i64 0,.int .i64 0,.int .i64 0,.slice none 0 0,.slice none 0 0,.slice none 0 0,.slice none 0 0]):=by rw [← hWa];exact Box.new _ _ _ _ (by simp)
 clear hWa;refine (ZeC 0 _ _ _ _ _ _ _ Ss Ms Ts B FF _ (HL.out.below HBa.out) (HK.out.below HBa.out) HN.out HSH.out).mono ?_;rintro e w1 ⟨rfl,hb1⟩;rw [HQ.out];have HB1:Hid (Zw_ w w1):=bt HBa.out hb1;replace FB:=Zab (FB.out.on hb1);replace FC:=Zab (FC.out.on hb1);clear hb1 HBa;have g1:=FB.out.cell;go_wp2_with fail;clear g1;refine (ZgB 0 _ _ _ _ B _ (HK.out.below HB1.out) HN.out).mono ?_;rintro e w2 ⟨b0,m0,b1,m1,b2,m2,b3,m3,rfl,hb2,ho2⟩;have HB2:Hid (Zw_ w w2):=bt HB1.out hb2;have hz1:=FC.out.lt;replace FC:=Zab (FC.out.on hb2);have hz2:=FC.out.lt;have hs12:=hb2.size;have hs01:=HB1.out.size;have HO2:=Zab ho2;clear hb2 ho2 HB1 FB;go_wp2_with fail;generalize hWx:w2.alloc _=Wx;have hx:Below w2.heap.size w2 Wx:=by rw [← hWx];exact Zac _ _
 have FX:Hid (Box Wx w2.heap.size #[.int .i64 B.now,.int .i64 B.tick,.int .i64 B.given,.slice b0 B.os.length m0,.slice b1 B.gs.length m1,.slice b2 B.ls.length m2,.slice b3 B.ps.length m3]):=by rw [← hWx];exact Box.new _ _ _ _ rfl
 have hxs:Wx.heap.size=w2.heap.size+1:=by rw [← hWx];simp
 clear hWx;have HBx:Hid (Zw_ w Wx):=bt HB2.out hx;have HOx:=Zab (HO2.out.below hx);replace FC:=Zab (FC.out.on hx);clear hx HB2 HO2;obtain⟨o0,o1,g0,g1,l0,l1,p0,p1,ha,hO,hG,hLo,hPo⟩:=HOx.out;obtain⟨pb,pf,rfl⟩:=hPo.some (by omega);obtain⟨lb,lf,rfl⟩:=hLo.some hls;have HAP:=Zab ha;obtain⟨⟨y1,y2⟩,⟨y3,y4⟩,⟨y5,y6⟩,⟨y7,y8⟩,yog,yol,yop,ygl,ygp,ylp⟩:=ha;have HO1:=Zab hO;have HG1:=Zab hG;have HL1:=Zab hLo;have HP1:=Zab hPo;clear hO hG hLo hPo HOx
 have hcall:Hid (Calls prog 46 #[.pointer (some ⟨w2.heap.size,0,none⟩),.pointer (some ⟨δ,0,none⟩),.pointer (some ⟨δ+1,0,none⟩),.pointer (some ⟨δ+2,0,none⟩)] Wx fun e w'=>e=.returned (.int .i64 0)∧∃ k,(∃ h:k < B.ls.length,B.ls[k].tm=B.ps[q].tm∧B.ls[k].re=B.ps[q].re)∧
  (∃ wa wb wc,Below Wx.heap.size Wx wa∧Zae l0 l1 wa wb∧Zae p0 p1 wb wc∧Zae w2.heap.size (w2.heap.size+1) wc w')∧Box w' w2.heap.size #[.int .i64 B.now,.int .i64 B.tick,.int .i64 B.given,.slice b0 B.os.length m0,.slice b1 B.gs.length m1,.slice (some ⟨lb,lf,none⟩) B.ls.length m2,.slice (some ⟨pb,pf,none⟩) (B.ps.eraseIdx q).length m3]∧
  ZaR l0 l1 w' (.slice (some ⟨lb,lf,none⟩) B.ls.length m2) (ZgF B.ls k B.ps[q].am)∧ZaY p0 p1 w' (.slice (some ⟨pb,pf,none⟩) (B.ps.eraseIdx q).length m3) (B.ps.eraseIdx q)):=by
  unfold Hid;have c1:=(D1.out.on HBx.out).cell 0;have c2:=(D2.out.on HBx.out).cell 0;have c3:=(D3.out.on HBx.out).cell 0;simp at c1 c2 c3;go_enter func46,ntmps46;go_wp2_with fail;refine (Zkt w2.heap.size l0 l1 p0 p1 lb lf m2 pb pf m3 q _ _ _ _ _ B.ls B.ps d t r 0 0 _ FX.out HL1.out HP1.out HOK.out (by omega) (by omega) (by omega) (by omega) (by omega) hq HAT.out).mono ?_;rintro e w4 ⟨rfl,hpost⟩;have HPO:=Zab hpost;clear hpost c1 c2 c3;go_wp2;go_ret;exact⟨rfl,HPO.out⟩
 refine hcall.out.mono ?_;rintro e w5 ⟨rfl,k,hk,⟨wa,wb,wc,ta1,ta2,ta3,ta4⟩,hbx,hl5,hp5⟩;have s1:=ta1.size;have s2:=ta2.size;have s3:=ta3.size;have s4:=ta4.size;have FX5:=Zab hbx;have FC5:=Zab ((((FC.out.on ta1).touch ta2 (by omega)).touch ta3 (by omega)).touch ta4 (by omega));have HO5:=Zab ((((HO1.out.below ta1).touch ta2 (by omega)).touch ta3 (by omega)).touch ta4 (by omega));have HG5:=Zab ((((HG1.out.below ta1).touch ta2 (by omega)).touch ta3 (by omega)).touch ta4 (by omega));have HL5:=Zab hl5;have HP5:=Zab hp5;have HK:=Zab hk
 have HB5:Hid (Zw_ w w5):=HBx.out.trans (((((ta1.mono HBx.out.size).trans ((ta2.wide (lo':=w.heap.size) (hi':=wa.heap.size+1) (by omega) (by omega)).under (by omega))).trans ((ta3.wide (lo':=w.heap.size) (hi':=wb.heap.size+1) (by omega) (by omega)).under (by omega))).trans ((ta4.wide (lo':=w.heap.size) (hi':=wc.heap.size+1) (by omega) (by omega)).under (by omega))));clear ta1 ta2 ta3 ta4 hbx hl5 hp5 hk hcall FX FC HO1 HG1 HL1 HP1 HBx;have o0:=FX5.out.cell;have r0:=FC5.out.cell;have g0:=FC5.out.free;go_wp2;clear o0 g0;refine bodyPost_ret (v:=.tuple #[.agg #[.int .i64 B.now,.int .i64 B.tick,.int .i64 B.given,.slice b0 B.os.length m0,.slice b1 B.gs.length m1,.slice (some ⟨lb,lf,none⟩) B.ls.length m2,.slice (some ⟨pb,pf,none⟩) (B.ps.eraseIdx q).length m3],.int .i64 0]) (by simp [results,results45,go_sem,r0]) rfl ⟨_,_,_,_,_,_,_,_,rfl,?_,k,HK.out,?_⟩
 · repeat (refine Below.setCell ?_ (by simp only [];omega) _)
   exact HB5.out
 · rw [ZdH hq]
   refine Zaw.wide (lo:=w1.heap.size+2) (hi:=w2.heap.size) ?_ (by omega) (by simp [World.setCell];omega)
   iterate 7 (refine Zaw.setLow ?_ (by simp only [];omega) _)
   refine⟨o0,o1,g0,g1,l0,l1,p0,p1,HAP.out,HO5.out,HG5.out,?_,HP5.out⟩;exact HL5.out
end
section
variable (sv mv tv ov gv lv pv:Value) (Ss:List Sh) (Ms:List Md) (Ts:List Tm) (B:Bk) (FF:Nat→List Zy_) (d t r:Zy_) (w:World)
theorem Zia (hl:ZaS 0 w sv mv tv Ss Ms Ts) (h:ZaU 0 w ov gv lv pv B) (hn:ZaA B) (hsh:Zbs Ss Ms B.os FF) (hbk:ZcF Ss Ms Ts B FF=false) :
 Calls prog 11 #[.agg #[sv,mv,tv],.agg #[.int .i64 B.now,.int .i64 B.tick,.int .i64 B.given,ov,gv,lv,pv],.string d,.string t,.string r] w fun e w'=>e=.returned (.tuple #[.agg #[.int .i64 0,.int .i64 0,.int .i64 0,.slice none 0 0,.slice none 0 0,.slice none 0 0,.slice none 0 0],.int .i64 1])∧Zw_ w w':=by
 have HL:=Zab hl;have HK:=Zab h;have HN:=Zab hn;have HSH:=Zab hsh;have HQ:=Zab hbk;obtain⟨sa,sc,rfl⟩:=hl.shs.form;obtain⟨ma,mc,rfl⟩:=hl.mds.form;obtain⟨ta,tc,rfl⟩:=hl.tms.form;obtain⟨a0,k0,rfl⟩:=h.obs.form;obtain⟨a1,k1,rfl⟩:=h.grs.form;obtain⟨a2,k2,rfl⟩:=h.les.form;obtain⟨a3,k3,rfl⟩:=h.pus.form;clear hl h hn hsh hbk;go_enter func11,ntmps11;go_wp2_with fail;generalize hWa:World.alloc (World.alloc (World.alloc (World.alloc (World.alloc (w.alloc _) _) _) _) _) _=Wa;have HBa:Hid (Zw_ w Wa):=by rw [← hWa];exact (((((Zac w _).alloc (by simp) _).alloc (by simp;omega) _).alloc (by simp;omega) _).alloc (by simp;omega) _).alloc (by simp;omega) _
 have hsa:Wa.heap.size=w.heap.size+6:=by rw [← hWa];simp
 have F1:Hid (Box Wa (w.heap.size+2) #[.string d]):=by rw [← hWa];exact (((Box.new _ _ _ _ (by simp)).on (Zac _ _)).on (Zac _ _)).on (Zac _ _)
 have F2:Hid (Box Wa (w.heap.size+2+1) #[.string t]):=by rw [← hWa];exact ((Box.new _ _ _ _ (by simp)).on (Zac _ _)).on (Zac _ _)
 have F3:Hid (Box Wa (w.heap.size+2+2) #[.string r]):=by rw [← hWa];exact (Box.new _ _ _ _ (by simp)).on (Zac _ _)
 have FC:Hid (Box Wa (w.heap.size+5) #[.int .i64 0,.int .i64 0,.int .i64 0,.slice none 0 0,.slice none 0 0,.slice none 0 0,.slice none 0 0]):=by rw [← hWa];exact Box.new _ _ _ _ (by simp)
 clear hWa;refine (Zkv _ _ _ _ _ _ _ Ss Ms Ts B FF _ (HL.out.below HBa.out) (HK.out.below HBa.out) HN.out HSH.out HQ.out _).mono ?_;rintro e w1 ⟨rfl,hb1⟩;have HB1:Hid (Zw_ w w1):=bt HBa.out hb1;have hs1:=hb1.size;replace FC:=Zab (FC.out.on hb1);clear hb1 HBa;have r0:=FC.out.cell;have g0:=FC.out.free;go_wp2;refine bodyPost_ret (v:=.tuple #[.agg #[.int .i64 0,.int .i64 0,.int .i64 0,.slice none 0 0,.slice none 0 0,.slice none 0 0,.slice none 0 0],.int .i64 1]) (by simp [results,results11,go_sem,r0]) rfl ⟨rfl,?_⟩
 · repeat (refine Below.setCell ?_ (by simp only [];omega) _)
   exact HB1.out
theorem ZgM (hl:ZaS 0 w sv mv tv Ss Ms Ts) (h:ZaU 0 w ov gv lv pv B) (hn:ZaA B) (hsh:Zbs Ss Ms B.os FF) (hbk:ZcF Ss Ms Ts B FF=true) (hat:ZgV B.ps d t r= -1) :
 Calls prog 11 #[.agg #[sv,mv,tv],.agg #[.int .i64 B.now,.int .i64 B.tick,.int .i64 B.given,ov,gv,lv,pv],.string d,.string t,.string r] w fun e w'=>∃ b0 m0 b1 m1 b2 m2 b3 m3,e=.returned (.tuple #[.agg #[.int .i64 B.now,.int .i64 B.tick,.int .i64 B.given,.slice b0 B.os.length m0,.slice b1 B.gs.length m1,.slice b2 B.ls.length m2,.slice b3 B.ps.length m3],.int .i64 2])∧Zw_ w w'∧
  Zaw w.heap.size w'.heap.size w' (.slice b0 B.os.length m0) (.slice b1 B.gs.length m1) (.slice b2 B.ls.length m2) (.slice b3 B.ps.length m3) B:=by
 have HL:=Zab hl;have HK:=Zab h;have HN:=Zab hn;have HSH:=Zab hsh;have HQ:=Zab hbk;obtain⟨sa,sc,rfl⟩:=hl.shs.form;obtain⟨ma,mc,rfl⟩:=hl.mds.form;obtain⟨ta,tc,rfl⟩:=hl.tms.form;obtain⟨a0,k0,rfl⟩:=h.obs.form;obtain⟨a1,k1,rfl⟩:=h.grs.form;obtain⟨a2,k2,rfl⟩:=h.les.form;obtain⟨a3,k3,rfl⟩:=h.pus.form;clear hl h hn hsh hbk;go_enter func11,ntmps11;go_wp2_with fail;generalize hWa:World.alloc (World.alloc (World.alloc (World.alloc (World.alloc (w.alloc _) _) _) _) _) _=Wa;have HBa:Hid (Zw_ w Wa):=by rw [← hWa];exact (((((Zac w _).alloc (by simp) _).alloc (by simp;omega) _).alloc (by simp;omega) _).alloc (by simp;omega) _).alloc (by simp;omega) _
 have hsa:Wa.heap.size=w.heap.size+6:=by rw [← hWa];simp
 have F1:Hid (Box Wa (w.heap.size+2) #[.string d]):=by rw [← hWa];exact (((Box.new _ _ _ _ (by simp)).on (Zac _ _)).on (Zac _ _)).on (Zac _ _)
 have F2:Hid (Box Wa (w.heap.size+2+1) #[.string t]):=by rw [← hWa];exact ((Box.new _ _ _ _ (by simp)).on (Zac _ _)).on (Zac _ _)
 have F3:Hid (Box Wa (w.heap.size+2+2) #[.string r]):=by rw [← hWa];exact (Box.new _ _ _ _ (by simp)).on (Zac _ _)
 have FC:Hid (Box Wa (w.heap.size+5) #[.int .i64 0,.int .i64 0,.int .i64 0,.slice none 0 0,.slice none 0 0,.slice none 0 0,.slice none 0 0]):=by rw [← hWa];exact Box.new _ _ _ _ (by simp)
 clear hWa;refine (Zh4 (w.heap.size+2) _ _ _ _ _ _ _ Ss Ms Ts B FF d t r _ (HL.out.below HBa.out) (HK.out.below HBa.out) HN.out HSH.out HQ.out hat F1.out F2.out F3.out).mono ?_;rintro e w1 ⟨b0,m0,b1,m1,b2,m2,b3,m3,rfl,hb1,ho⟩;have HO:=Zab ho;clear ho;have HB1:Hid (Zw_ w w1):=bt HBa.out hb1;have hs1:=hb1.size;replace FC:=Zab (FC.out.on hb1);clear hb1 HBa;have r0:=FC.out.cell;have g0:=FC.out.free;go_wp2;refine bodyPost_ret (v:=.tuple #[.agg #[.int .i64 B.now,.int .i64 B.tick,.int .i64 B.given,.slice b0 B.os.length m0,.slice b1 B.gs.length m1,.slice b2 B.ls.length m2,.slice b3 B.ps.length m3],.int .i64 2]) (by simp [results,results11,go_sem,r0]) rfl ⟨_,_,_,_,_,_,_,_,rfl,?_,?_⟩
 · repeat (refine Below.setCell ?_ (by simp only [];omega) _)
   exact HB1.out
 · refine Zaw.wide (lo:=Wa.heap.size) (hi:=w1.heap.size) ?_ (by omega) (by simp [World.setCell])
   iterate 7 (refine Zaw.setLow ?_ (by simp only [];omega) _)
   exact HO.out
theorem ZgN (hl:ZaS 0 w sv mv tv Ss Ms Ts) (h:ZaU 0 w ov gv lv pv B) (hn:ZaA B) (hsh:Zbs Ss Ms B.os FF) (hbk:ZcF Ss Ms Ts B FF=true) (q:Nat) (hq:q < B.ps.length) (hat:ZgV B.ps d t r=q) :
 Calls prog 11 #[.agg #[sv,mv,tv],.agg #[.int .i64 B.now,.int .i64 B.tick,.int .i64 B.given,ov,gv,lv,pv],.string d,.string t,.string r] w fun e w'=>∃ b0 m0 b1 m1 b2 m2 b3 m3,e=.returned (.tuple #[.agg #[.int .i64 B.now,.int .i64 B.tick,.int .i64 B.given,.slice b0 B.os.length m0,.slice b1 B.gs.length m1,.slice b2 B.ls.length m2,.slice b3 (B.ps.eraseIdx q).length m3],.int .i64 0])∧Zw_ w w'∧
  ∃ k,(∃ h:k < B.ls.length,B.ls[k].tm=B.ps[q].tm∧B.ls[k].re=B.ps[q].re)∧Zaw w.heap.size w'.heap.size w' (.slice b0 B.os.length m0) (.slice b1 B.gs.length m1) (.slice b2 B.ls.length m2) (.slice b3 (B.ps.eraseIdx q).length m3) (ZdJ B q k):=by
 have HL:=Zab hl;have HK:=Zab h;have HN:=Zab hn;have HSH:=Zab hsh;have HQ:=Zab hbk;obtain⟨sa,sc,rfl⟩:=hl.shs.form;obtain⟨ma,mc,rfl⟩:=hl.mds.form;obtain⟨ta,tc,rfl⟩:=hl.tms.form;obtain⟨a0,k0,rfl⟩:=h.obs.form;obtain⟨a1,k1,rfl⟩:=h.grs.form;obtain⟨a2,k2,rfl⟩:=h.les.form;obtain⟨a3,k3,rfl⟩:=h.pus.form;clear hl h hn hsh hbk;go_enter func11,ntmps11;go_wp2_with fail;generalize hWa:World.alloc (World.alloc (World.alloc (World.alloc (World.alloc (w.alloc _) _) _) _) _) _=Wa;have HBa:Hid (Zw_ w Wa):=by rw [← hWa];exact (((((Zac w _).alloc (by simp) _).alloc (by simp;omega) _).alloc (by simp;omega) _).alloc (by simp;omega) _).alloc (by simp;omega) _
 have hsa:Wa.heap.size=w.heap.size+6:=by rw [← hWa];simp
 have F1:Hid (Box Wa (w.heap.size+2) #[.string d]):=by rw [← hWa];exact (((Box.new _ _ _ _ (by simp)).on (Zac _ _)).on (Zac _ _)).on (Zac _ _)
 have F2:Hid (Box Wa (w.heap.size+2+1) #[.string t]):=by rw [← hWa];exact ((Box.new _ _ _ _ (by simp)).on (Zac _ _)).on (Zac _ _)
 have F3:Hid (Box Wa (w.heap.size+2+2) #[.string r]):=by rw [← hWa];exact (Box.new _ _ _ _ (by simp)).on (Zac _ _)
 have FC:Hid (Box Wa (w.heap.size+5) #[.int .i64 0,.int .i64 0,.int .i64 0,.slice none 0 0,.slice none 0 0,.slice none 0 0,.slice none 0 0]):=by rw [← hWa];exact Box.new _ _ _ _ (by simp)
 clear hWa;refine (Zh2 (w.heap.size+2) _ _ _ _ _ _ _ Ss Ms Ts B FF d t r _ (HL.out.below HBa.out) (HK.out.below HBa.out) HN.out HSH.out HQ.out q hq hat F1.out F2.out F3.out).mono ?_;rintro e w1 ⟨b0,m0,b1,m1,b2,m2,b3,m3,rfl,hb1,k,hk,ho⟩;have HO:=Zab ho;have HKK:=Zab hk;clear ho hk;have HB1:Hid (Zw_ w w1):=bt HBa.out hb1;have hs1:=hb1.size;replace FC:=Zab (FC.out.on hb1);clear hb1 HBa;have r0:=FC.out.cell;have g0:=FC.out.free;go_wp2;refine bodyPost_ret (v:=.tuple #[.agg #[.int .i64 B.now,.int .i64 B.tick,.int .i64 B.given,.slice b0 B.os.length m0,.slice b1 B.gs.length m1,.slice b2 B.ls.length m2,.slice b3 (B.ps.eraseIdx q).length m3],.int .i64 0]) (by simp [results,results11,go_sem,r0]) rfl ⟨_,_,_,_,_,_,_,_,rfl,?_,k,HKK.out,?_⟩
 · repeat (refine Below.setCell ?_ (by simp only [];omega) _)
   exact HB1.out
 · refine Zaw.wide (lo:=Wa.heap.size) (hi:=w1.heap.size) ?_ (by omega) (by simp [World.setCell])
   iterate 7 (refine Zaw.setLow ?_ (by simp only [];omega) _)
   exact HO.out
end
end Go.Proofs.YtlmippkhpjcfcaaGreat
