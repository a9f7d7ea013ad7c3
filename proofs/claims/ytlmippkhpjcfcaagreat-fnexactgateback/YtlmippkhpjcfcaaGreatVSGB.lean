import Derived.Test.YtlmippkhpjcfcaaGreatVOI
import Derived.Test.YtlmippkhpjcfcaaGreatVOJ
set_option maxHeartbeats 16000000
set_option maxRecDepth 100000
open Go.Proofs.Tryz
namespace Go.Proofs.YtlmippkhpjcfcaaGreat
open Go.RowKit Go.Deep
def Zf7 (w:World) (e:Ending) (w':World) (B:Bk) (c:Int):Prop:=
 ∃ b0 m0 b1 m1 b2 m2 b3 m3,e=.returned (.tuple #[.agg #[.int .i64 B.now,.int .i64 B.tick,.int .i64 B.given,.slice b0 B.os.length m0,.slice b1 B.gs.length m1,.slice b2 B.ls.length m2,.slice b3 B.ps.length m3],.int .i64 c])∧Zw_ w w'∧
  Zaw w.heap.size w'.heap.size w' (.slice b0 B.os.length m0) (.slice b1 B.gs.length m1) (.slice b2 B.ls.length m2) (.slice b3 B.ps.length m3) B
def Zfv:Bk:=⟨0,0,0,[],[],[],[]⟩
theorem ZoE (lo hi:Nat) (hh:lo≤hi) (w:World):Zaw lo hi w (.slice none 0 0) (.slice none 0 0) (.slice none 0 0) (.slice none 0 0) Zfv:=
 ⟨lo,lo,lo,lo,lo,lo,lo,lo,⟨by omega,by omega,by omega,by omega,by omega,by omega,by omega,by omega,by omega,by omega⟩,Or.inl ⟨_,_,rfl,rfl⟩,Or.inl ⟨_,_,rfl,rfl⟩,Or.inl ⟨_,_,rfl,rfl⟩,Or.inl ⟨_,_,rfl,rfl⟩⟩
theorem Zlt:ZaA Zfv:=⟨⟨by simp [Zfv],fun i h=>by simp [Zfv] at h⟩,⟨by simp [Zfv],fun i h=>by simp [Zfv] at h⟩,⟨by simp [Zfv],fun i h=>by simp [Zfv] at h⟩,⟨by simp [Zfv],fun i h=>by simp [Zfv] at h⟩⟩
theorem Zf7.no {w w':World} {e:Ending} (h:e=.returned (.tuple #[.agg #[.int .i64 0,.int .i64 0,.int .i64 0,.slice none 0 0,.slice none 0 0,.slice none 0 0,.slice none 0 0],.int .i64 1])∧Zw_ w w'):Zf7 w e w' Zfv 1:=
 ⟨none,0,none,0,none,0,none,0,h.1,h.2,ZoE _ _ h.2.size _⟩
def Ze0 (Ss:List Sh) (Ms:List Md) (Ts:List Tm) (B:Bk) (FF:Nat→List Zy_) (d t r:Zy_):Bk×Int:=
 if ZcF Ss Ms Ts B FF=true then (if ZgV B.ps d t r < 0 then (B,2) else (ZdJ B (ZgV B.ps d t r).toNat (Zmd B.ls (B.ps.getD (ZgV B.ps d t r).toNat ⟨⟨#[]⟩,⟨#[]⟩,⟨#[]⟩,0,0⟩).tm (B.ps.getD (ZgV B.ps d t r).toNat ⟨⟨#[]⟩,⟨#[]⟩,⟨#[]⟩,0,0⟩).re).toNat,0)) else (Zfv,1)
theorem Zig (Ps:List Pu) (d t r:Zy_):ZgV Ps d t r= -1∨∃ q:Nat,q < Ps.length∧ZgV Ps d t r=q:=by
 unfold ZgV
 by_cases h:ZsF Ps d t r < Ps.length
 · exact Or.inr ⟨_,h,if_pos h⟩
 · exact Or.inl (if_neg h)
theorem ZqV {Ls:List Le} {t r:Zy_} (hr:Zdb Zcz Ls=true) {k:Nat} (hk:k < Ls.length) (h1:Ls[k].tm=t) (h2:Ls[k].re=r):Zmd Ls t r=k:=by
 have hz:∀ i (h:i < Ls.length),Zcx t r Ls[i]=decide (Zcz Ls[i] Ls[k]=0):=fun i hi=>by
  have e:Zcz Ls[i] Ls[k]=0↔Ls[i].tm=t∧Ls[i].re=r:=by unfold Zcz;rw [ZdL,h1,h2]
  cases hd:Zcx t r Ls[i] with
  | true=>
   unfold Zcx at hd;simp only [Bool.and_eq_true,beq_iff_eq] at hd;exact (decide_eq_true (e.2 ⟨toList_inj hd.1,toList_inj hd.2⟩)).symm
  | false=>
   refine (decide_eq_false fun hc=>?_).symm;have:=e.1 hc;unfold Zcx at hd;rw [this.1,this.2] at hd;simp at hd
 refine ZmJ hk (by rw [hz k hk];exact decide_eq_true (by unfold Zcz;rw [ZdL];exact⟨rfl,rfl⟩)) fun i hi hik=>?_
 rw [hz i hi];exact decide_eq_false (by have:=Zi5 ZeN hr hi hk hik;omega)
theorem Zpy {Ls:List Le} {t r:Zy_} (h:Ls.any (Zcx t r)=true):∃ k:Nat,k < Ls.length∧Zmd Ls t r=k:=by
 have hn:=Zmq Ls t r;rw [h] at hn;simp at hn;unfold Zmd at hn ⊢
 by_cases hk:ZjL Ls t r < Ls.length
 · exact⟨_,hk,if_pos hk⟩
 · rw [if_neg hk] at hn;omega
theorem ZmH {Ss:List Sh} {Ms:List Md} {Ts:List Tm} {B:Bk} {FF:Nat→List Zy_} (d t r:Zy_) (h:ZcF Ss Ms Ts B FF=false):Ze0 Ss Ms Ts B FF d t r=(Zfv,1):=by
 unfold Ze0;rw [h];rfl
theorem Zim {Ss:List Sh} {Ms:List Md} {Ts:List Tm} {B:Bk} {FF:Nat→List Zy_} {d t r:Zy_} (h:ZcF Ss Ms Ts B FF=true) (hq:ZgV B.ps d t r= -1):Ze0 Ss Ms Ts B FF d t r=(B,2):=by
 unfold Ze0;rw [if_pos h,hq,if_pos (by omega)]
theorem Zij {Ss:List Sh} {Ms:List Md} {Ts:List Tm} {B:Bk} {FF:Nat→List Zy_} {d t r:Zy_} (h:ZcF Ss Ms Ts B FF=true) {q k:Nat} (hql:q < B.ps.length) (hq:ZgV B.ps d t r=q) (hk:Zmd B.ls B.ps[q].tm B.ps[q].re=k):Ze0 Ss Ms Ts B FF d t r=(ZdJ B q k,0):=by
 have hg:B.ps.getD q ⟨⟨#[]⟩,⟨#[]⟩,⟨#[]⟩,0,0⟩=B.ps[q]:=by rw [List.getD_eq_getElem?_getD,List.getElem?_eq_getElem hql];rfl
 unfold Ze0;rw [if_pos h,hq,if_neg (by omega),Int.toNat_natCast,hg,hk,Int.toNat_natCast]
theorem Zkd {B:Bk} (hn:ZaA B) (q k:Nat):ZaA (ZdJ B q k):=by
 by_cases hq:q < B.ps.length
 · rw [ZdH hq]
   obtain⟨h1,h2,h3,h4⟩:=hn;exact⟨h1,h2,⟨by rw [Zcu];exact h3.1,fun i h=>rfl⟩,⟨Nat.le_trans (List.length_eraseIdx_le _ _) h4.1,fun i h=>rfl⟩⟩
 · unfold ZdJ
   rw [List.getElem?_eq_none (by omega)];exact hn
theorem Zlv {Ss:List Sh} {Ms:List Md} {Ts:List Tm} {B:Bk} {FF:Nat→List Zy_} (d t r:Zy_) (hn:ZaA B):ZaA (Ze0 Ss Ms Ts B FF d t r).1:=by
 unfold Ze0
 split
 · split
   · exact hn
   · exact Zkd hn _ _
 · exact Zlt
section
variable (sv mv tv ov gv lv pv:Value) (Ss:List Sh) (Ms:List Md) (Ts:List Tm) (B:Bk) (FF:Nat→List Zy_) (d t r:Zy_) (w:World)
theorem Zgr (hl:ZaS 0 w sv mv tv Ss Ms Ts) (h:ZaU 0 w ov gv lv pv B) (hn:ZaA B) (hsh:Zbs Ss Ms B.os FF) :
 Calls prog 11 #[.agg #[sv,mv,tv],.agg #[.int .i64 B.now,.int .i64 B.tick,.int .i64 B.given,ov,gv,lv,pv],.string d,.string t,.string r] w fun e w'=>Zf7 w e w' (Ze0 Ss Ms Ts B FF d t r).1 (Ze0 Ss Ms Ts B FF d t r).2:=by
 cases hb:ZcF Ss Ms Ts B FF with
 | false=>
  rw [ZmH d t r hb];exact (Zia sv mv tv ov gv lv pv Ss Ms Ts B FF d t r w hl h hn hsh hb).mono fun e w' h=>Zf7.no h
 | true=>
  rcases Zig B.ps d t r with hq | ⟨q,hql,hq⟩
  · rw [Zim hb hq]
    exact ZgM sv mv tv ov gv lv pv Ss Ms Ts B FF d t r w hl h hn hsh hb hq
  · refine (ZgN sv mv tv ov gv lv pv Ss Ms Ts B FF d t r w hl h hn hsh hb q hql hq).mono fun e w' h=>?_
    obtain⟨b0,m0,b1,m1,b2,m2,b3,m3,he,hbl,k,⟨hk,e1,e2⟩,ho⟩:=h;rw [Zij hb hql hq (ZqV (Zep hb).rl hk e1 e2)];rw [ZdH hql] at ho ⊢;have hf:=Zcu B.ls k B.ps[q].am;exact⟨b0,m0,b1,m1,b2,m2,b3,m3,by rw [he];simp only [hf],hbl,by simp only [hf];exact ho⟩
theorem Zkz (hl:ZaS 0 w sv mv tv Ss Ms Ts) (h:ZaU 0 w ov gv lv pv B) (hn:ZaA B) (hsh:Zbs Ss Ms B.os FF) :
 Calls prog 8 #[.agg #[sv,mv,tv],.agg #[.int .i64 B.now,.int .i64 B.tick,.int .i64 B.given,ov,gv,lv,pv],.string d,.string t,.string r] w fun e w'=>Zf7 w e w' (Ze0 Ss Ms Ts B FF d t r).1 (Ze0 Ss Ms Ts B FF d t r).2:=by
 have HL:=Zab hl;have HK:=Zab h;have HN:=Zab hn;have HSH:=Zab hsh;obtain⟨sa,sc,rfl⟩:=hl.shs.form;obtain⟨ma,mc,rfl⟩:=hl.mds.form;obtain⟨ta,tc,rfl⟩:=hl.tms.form;obtain⟨a0,k0,rfl⟩:=h.obs.form;obtain⟨a1,k1,rfl⟩:=h.grs.form;obtain⟨a2,k2,rfl⟩:=h.les.form;obtain⟨a3,k3,rfl⟩:=h.pus.form;clear hl h hn hsh;go_enter func8,ntmps8;go_wp2_with fail;generalize hWa:World.alloc (World.alloc (w.alloc _) _) _=Wa;have HBa:Hid (Zw_ w Wa):=by rw [← hWa];exact ((Zac w _).alloc (by simp) _).alloc (by simp;omega) _
 have FB:Hid (Box Wa (w.heap.size+1) #[.int .i64 B.now,.int .i64 B.tick,.int .i64 B.given,.slice a0 B.os.length k0,.slice a1 B.gs.length k1,.slice a2 B.ls.length k2,.slice a3 B.ps.length k3]):=by rw [← hWa];exact (Box.new _ _ _ _ (by simp)).on (Zac _ _)
 have FR:Hid (Box Wa (w.heap.size+2) #[.int .i64 0,.int .i64 0,.int .i64 0,.slice none 0 0,.slice none 0 0,.slice none 0 0,.slice none 0 0]):=by rw [← hWa];exact Box.new _ _ _ _ (by simp)
 clear hWa;refine (ZkE 0 _ _ _ _ _ _ _ Ss Ms Ts B FF _ (HL.out.below HBa.out) (HK.out.below HBa.out) HN.out HSH.out).mono ?_;rintro e w1 ⟨rfl,hb1⟩;have HB1:Hid (Zw_ w w1):=bt HBa.out hb1;replace FB:=Zab (FB.out.on hb1);replace FR:=Zab (FR.out.on hb1);clear hb1 HBa
 cases hbk:ZcF Ss Ms Ts B FF with
 | false=>
  have HE:Hid (Ze0 Ss Ms Ts B FF d t r=(Zfv,1)):=ZmH d t r hbk;have r0:=FR.out.cell;have g0:=FR.out.free;go_wp2;refine bodyPost_ret (v:=.tuple #[.agg #[.int .i64 0,.int .i64 0,.int .i64 0,.slice none 0 0,.slice none 0 0,.slice none 0 0,.slice none 0 0],.int .i64 1]) (by simp [results,results8,go_sem,r0]) rfl ?_;rw [HE.out];refine Zf7.no ⟨rfl,?_⟩
  repeat (refine Below.setCell ?_ (by simp only [];omega) _)
  exact HB1.out
 | true=>
 have hx:=FB.out.cell;go_wp2_with fail;clear hx;refine (ZnG 0 _ _ _ _ B _ (HK.out.below HB1.out) HN.out).mono ?_;rintro e w2 ⟨b0,m0,b1,m1,b2,m2,b3,m3,rfl,hb2,ho2⟩;have HB2:Hid (Zw_ w w2):=bt HB1.out hb2;have HO2:Hid (Zaw w.heap.size w2.heap.size w2 (.slice b0 B.os.length m0) (.slice b1 B.gs.length m1) (.slice b2 B.ls.length m2) (.slice b3 B.ps.length m3) B):=Zaw.wide ho2 HB1.out.size Zl_;have HO2':=Zab ho2;have hs1:=FR.out.lt;have hs2:=hb2.size;replace FB:=Zab (FB.out.on hb2);replace FR:=Zab (FR.out.on hb2);clear hb2 ho2 HB1;have hx:=FB.out.cell;have hlx:=FB.out.lt;have hx1:∀ o i,(w2.alloc o).cell? ⟨w.heap.size+1,i,none⟩=_:=fun o i=>(Zai _ _ _ _ hlx).trans (hx i)
 go_wp2_with fail;clear hx hx1 hlx;generalize hWb:w2.alloc _=Wb;have hbb:Below w2.heap.size w2 Wb:=by rw [← hWb];exact Zac _ _
 have FX:Hid (Box Wb w2.heap.size #[.int .i64 B.now,.int .i64 B.tick,.int .i64 B.given,.slice b0 B.os.length m0,.slice b1 B.gs.length m1,.slice b2 B.ls.length m2,.slice b3 B.ps.length m3]):=by rw [← hWb];exact Box.new _ _ _ _ rfl
 have hsb:Wb.heap.size=w2.heap.size+1:=by rw [← hWb];simp
 have HBb:Hid (Zw_ w Wb):=bt HB2.out hbb;have HOb:=Zab (HO2'.out.below hbb);replace FR:=Zab (FR.out.on hbb);clear hWb hbb HO2 HB2 HO2' FB;refine (ZlM 0 _ _ _ _ B _ d t r (HK.out.below HBb.out)).mono ?_;rintro e w3 ⟨rfl,hb3⟩;have HB3:Hid (Zw_ w w3):=bt HBb.out hb3;have HO3:=Zab (HOb.out.below hb3);have hs3:=hb3.size;replace FX:=Zab (FX.out.on hb3);replace FR:=Zab (FR.out.on hb3);clear hb3 HOb HBb
 rcases Zig B.ps d t r with hq | ⟨q,hql,hq⟩
 · have HE:Hid (Ze0 Ss Ms Ts B FF d t r=(B,2)):=Zim hbk hq
   rw [hq];have x0:=FX.out.cell;have r0:=FR.out.cell;have g0:=FR.out.free;go_wp2;refine bodyPost_ret (v:=.tuple #[.agg #[.int .i64 B.now,.int .i64 B.tick,.int .i64 B.given,.slice b0 B.os.length m0,.slice b1 B.gs.length m1,.slice b2 B.ls.length m2,.slice b3 B.ps.length m3],.int .i64 2]) (by simp [results,results8,go_sem,r0]) rfl ?_;rw [HE.out];refine⟨_,_,_,_,_,_,_,_,rfl,?_,?_⟩
   · repeat (refine Below.setCell ?_ (by simp only [];omega) _)
     exact HB3.out
   · refine Zaw.wide (lo:=w1.heap.size) (hi:=w2.heap.size) ?_ (by omega) (by simp [World.setCell];omega)
     iterate 7 (refine Zaw.setLow ?_ (by simp only [];omega) _)
     exact HO3.out
 · obtain⟨k,hkl,hk⟩:=Zpy ((Zep hbk).led q hql)
   have HE:Hid (Ze0 Ss Ms Ts B FF d t r=(ZdJ B q k,0)):=Zij hbk hql hq hk;have HBK:=Zab (Zep hbk);have HKK:=Zab hk
   obtain⟨lb,lf,hlb⟩:∃ lb lf,b2=some ⟨lb,lf,none⟩:=by
    obtain⟨b,off,e,_⟩:=HO3.out.at.les.full' (by omega);exact⟨b,off,e⟩
   obtain⟨pb,pf,hpb⟩:∃ pb pf,b3=some ⟨pb,pf,none⟩:=by
    obtain⟨b,off,e,_⟩:=HO3.out.at.pus.full' (by omega);exact⟨b,off,e⟩
   subst hlb hpb;rw [hq];clear hq hk hbk;have x0:=FX.out.cell;go_wp2_with fail;clear x0;refine (ZnM w1.heap.size w2.heap.size q k lb lf pb pf m0 m1 m2 m3 b0 b1 B _ HO3.out (by omega) HBK.out hql hkl HKK.out).mono ?_;rintro e w4 ⟨v',rfl,ht4,ho4⟩;obtain⟨a9,c9,rfl⟩:=ho4.at.pus.form;have HO4:=Zab ho4;have HB4:Hid (Zw_ w w4):=HB3.out.trans ((ht4.under (by omega)).mono (by omega));have hs4:=ht4.size;replace FR:=Zab (FR.out.touch ht4 (by omega));have hf:=Zcu B.ls k B.ps[q].am;clear ht4 ho4;have r0:=FR.out.cell;have g0:=FR.out.free;go_wp2;refine bodyPost_ret (v:=.tuple #[.agg #[.int .i64 B.now,.int .i64 B.tick,.int .i64 B.given,.slice b0 B.os.length m0,.slice b1 B.gs.length m1,.slice (some ⟨lb,lf,none⟩) B.ls.length m2,.slice a9 (ZdJ B q k).ps.length c9],.int .i64 0]) (by simp [results,results8,go_sem,r0]) rfl ?_;rw [HE.out]
   have HO5:Hid (Zaw w1.heap.size w4.heap.size _ (.slice b0 B.os.length m0) (.slice b1 B.gs.length m1) (.slice (some ⟨lb,lf,none⟩) B.ls.length m2) (.slice a9 (ZdJ B q k).ps.length c9) (ZdJ B q k)):=HO4.out;refine⟨b0,m0,b1,m1,some ⟨lb,lf,none⟩,m2,a9,c9,?_,?_,?_⟩
   · simp only [ZdH hql,hf]
   · repeat (refine Below.setCell ?_ (by simp only [];omega) _)
     exact HB4.out
   · refine Zaw.wide (lo:=w1.heap.size) (hi:=w4.heap.size) ?_ (by omega) (by simp [World.setCell])
     iterate 7 (refine Zaw.setLow ?_ (by simp only [];omega) _)
     have:=HO5.out;simp only [ZdH hql,hf] at this ⊢;exact this
end
end Go.Proofs.YtlmippkhpjcfcaaGreat
