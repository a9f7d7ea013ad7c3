import Derived.Test.YtfohnageehneoaaGreatVOF
import Derived.Test.YtfohnageehneoaaGreatVJB
set_option maxHeartbeats 16000000
set_option maxRecDepth 100000
open Go.Proofs.Tryz
namespace Go.Proofs.YtfohnageehneoaaGreat
open Go.RowKit Go.Deep
theorem ZaO.some {l0 l1:Nat} {W:World} {a:Option Addr} {n cap:Nat} {Ls:List Le} (h:ZaO l0 l1 W (.slice a n cap) Ls) (hp:0 < Ls.length):∃ b off,a=some ⟨b,off,none⟩:=by
 rcases h with ⟨_,_,_,h⟩ | ⟨b',off',cap',c,X,h1,_⟩
 · rw [h] at hp;simp at hp
 · injection h1 with e1
   exact⟨b',off',e1⟩
structure Zdu (Ls:List Le) (Ps:List Pu):Prop where
 nl:Ls.length≤1048576
 np:Ps.length≤1048576
 rl:ZcO Zcn Ls=true
 rp:ZcO ZfA Ps=true
 led:∀ i (h:i < Ps.length),Ls.any (Zb8 Ps[i].tm Ps[i].re)=true
 fr:∀ i (h:i < Ls.length),0≤Ls[i].fr∧Ls[i].fr≤10000000000000 - 1000000*(Ps.length:Int)
 am:∀ i (h:i < Ps.length),0≤Ps[i].am∧Ps[i].am≤1000000
theorem Zdu.fr' {Ls:List Le} {Ps:List Pu} (h:Zdu Ls Ps) (i:Nat) (hi:i < Ls.length):0≤Ls[i].fr∧Ls[i].fr≤10000000000000:=by
 have:=h.fr i hi
 omega
theorem Zax.setLow {lo hi:Nat} {w:World} {ov gv lv pv:Value} {B:Bk} (h:Zax lo hi w ov gv lv pv B) {p:Addr} (hp:p.block < lo) (u:Value):Zax lo hi (w.setCell p u) ov gv lv pv B:=h.touch (Zad.setCell p.block (p.block+1) w p u ⟨Nat.le_refl _,Nat.lt_succ_self _⟩) (Or.inr hp)
def Zg2 (B:Bk) (q k:Nat):Bk:=match B.ps[q]? with
 | some p=>⟨B.now,B.tick,B.given,B.os,B.gs,Zc3 B.ls k p.am,B.ps.eraseIdx q⟩
 | none=>B
theorem Zfi {B:Bk} {q k:Nat} (h:q < B.ps.length):Zg2 B q k=⟨B.now,B.tick,B.given,B.os,B.gs,Zc3 B.ls k B.ps[q].am,B.ps.eraseIdx q⟩:=by
 unfold Zg2;rw [List.getElem?_eq_getElem h]
theorem ZqC {Ls:List Le} {t r:Zy_} (hr:ZcO Zcn Ls=true) {k:Nat} (hk:k < Ls.length) (h1:Ls[k].tm=t) (h2:Ls[k].re=r):ZiH Ls t r=k:=by
 have hz:∀ i (h:i < Ls.length),Zb8 t r Ls[i]=decide (Zcn Ls[i] Ls[k]=0):=fun i hi=>by
  have e:Zcn Ls[i] Ls[k]=0↔Ls[i].tm=t∧Ls[i].re=r:=by unfold Zcn;rw [ZdS,h1,h2]
  cases hd:Zb8 t r Ls[i] with
  | true=>
   unfold Zb8 at hd;simp only [Bool.and_eq_true,beq_iff_eq] at hd;exact (decide_eq_true (e.2 ⟨toList_inj hd.1,toList_inj hd.2⟩)).symm
  | false=>
   refine (decide_eq_false fun hc=>?_).symm;have:=e.1 hc;unfold Zb8 at hd;rw [this.1,this.2] at hd;simp at hd
 refine ZlM hk (by rw [hz k hk];exact decide_eq_true (by unfold Zcn;rw [ZdS];exact⟨rfl,rfl⟩)) fun i hi hik=>?_
 rw [hz i hi];exact decide_eq_false (by have:=ZeF Zez hr hi hk hik;omega)
theorem Zoa {Ls:List Le} {t r:Zy_} (h:Ls.any (Zb8 t r)=true):∃ k:Nat,k < Ls.length∧ZiH Ls t r=k:=by
 have hn:=ZlS Ls t r;rw [h] at hn;simp at hn;unfold ZiH at hn ⊢
 by_cases hk:ZhK Ls t r < Ls.length
 · exact⟨_,hk,if_pos hk⟩
 · rw [if_neg hk] at hn;omega
theorem Zad.ofBelow {m:Nat} {w w':World} (h:Below m w w'):Zad m w.heap.size w w':=⟨h.os,h.tape,h.output,h.size,fun k hk ho=>h.block k (by omega)⟩
theorem ZjK {Ss:List Sh} {Ms:List Md} {Ts:List Tm} {B:Bk} {FF:Nat→List Zy_} (h:ZcW Ss Ms Ts B FF=true):Zdu B.ls B.ps:=by
 unfold ZcW ZdU Zgy at h;simp only [Bool.and_eq_true] at h;obtain⟨-,-,-,-,hl,hp,-⟩:=h;unfold ZaL at hl;unfold Za7 at hp;simp only [Bool.and_eq_true,decide_eq_true_eq,List.all_eq_true] at hl hp;obtain⟨⟨l1,l2⟩,l3⟩:=hl;obtain⟨⟨p1,p2⟩,p3⟩:=hp;refine⟨by omega,by omega,l2,p2,fun i hi=>?_,fun i hi=>?_,fun i hi=>?_⟩
 · have:=p3 _ (List.getElem_mem hi)
   unfold puB at this;simp only [Bool.and_eq_true] at this;exact this.1.1.1
 · have:=l3 _ (List.getElem_mem hi)
   unfold leB at this;simp only [Bool.and_eq_true,Zej,decide_eq_true_eq] at this;obtain⟨⟨-,h2⟩,h3⟩:=this
   omega
 · have:=p3 _ (List.getElem_mem hi)
   unfold puB at this;simp only [Bool.and_eq_true,Zej,decide_eq_true_eq] at this;obtain⟨⟨-,h2⟩,-⟩:=this
   omega
section
variable (δ:Nat) (sv mv tv ov gv lv pv:Value) (Ss:List Sh) (Ms:List Md) (Ts:List Tm) (B:Bk) (FF:Nat→List Zy_) (d t r:Zy_) (w:World)
theorem Zku (hl:ZbO 0 w sv mv tv Ss Ms Ts) (h:ZaW 0 w ov gv lv pv B) (hn:ZaA B) (hsh:ZbT Ss Ms B.os FF) (hbk:ZcW Ss Ms Ts B FF=false) (fv:Value) :
 Calls prog 48 #[.agg #[sv,mv,tv],.agg #[.int .i64 B.now,.int .i64 B.tick,.int .i64 B.given,ov,gv,lv,pv],fv] w fun e w'=>e=.returned (.tuple #[.agg #[.int .i64 0,.int .i64 0,.int .i64 0,.slice none 0 0,.slice none 0 0,.slice none 0 0,.slice none 0 0],.int .i64 1])∧Zw_ w w':=by
 have HL:=Zab hl;have HK:=Zab h;have HN:=Zab hn;have HSH:=Zab hsh;have HQ:=Zab hbk;obtain⟨sa,sc,rfl⟩:=hl.shs.form;obtain⟨ma,mc,rfl⟩:=hl.mds.form;obtain⟨ta,tc,rfl⟩:=hl.tms.form;obtain⟨a0,k0,rfl⟩:=h.obs.form;obtain⟨a1,k1,rfl⟩:=h.grs.form;obtain⟨a2,k2,rfl⟩:=h.les.form;obtain⟨a3,k3,rfl⟩:=h.pus.form;clear hl h hn hsh hbk;go_enter func48,ntmps48;go_wp2_with fail;generalize hWa:World.alloc (World.alloc (w.alloc _) _) _=Wa;have HBa:Hid (Zw_ w Wa):=by rw [← hWa];exact ((Zac w _).alloc (by simp) _).alloc (by simp;omega) _
 have FB:Hid (Box Wa (w.heap.size+1) #[.int .i64 B.now,.int .i64 B.tick,.int .i64 B.given,.slice a0 B.os.length k0,.slice a1 B.gs.length k1,.slice a2 B.ls.length k2,.slice a3 B.ps.length k3]):=by rw [← hWa];exact (Box.new _ _ _ _ (by simp)).on (Zac _ _)
 have FC:Hid (Box Wa (w.heap.size+2) #[.int .i64 0,.int .i64 0,.int .i64 0,.slice none 0 0,.slice none 0 0,.slice none 0 0,.slice none 0 0]):=by rw [← hWa];exact Box.new _ _ _ _ (by simp)
 clear hWa;refine (Zf8 0 _ _ _ _ _ _ _ Ss Ms Ts B FF _ (HL.out.below HBa.out) (HK.out.below HBa.out) HN.out HSH.out).mono ?_;rintro e w1 ⟨rfl,hb1⟩;rw [HQ.out];have HB1:Hid (Zw_ w w1):=bt HBa.out hb1;replace FB:=Zab (FB.out.on hb1);replace FC:=Zab (FC.out.on hb1);clear hb1 HBa;have r0:=FC.out.cell;have g0:=FC.out.free;have hlt:=FC.out.lt;go_wp2;refine bodyPost_ret (v:=.tuple #[.agg #[.int .i64 0,.int .i64 0,.int .i64 0,.slice none 0 0,.slice none 0 0,.slice none 0 0,.slice none 0 0],.int .i64 1]) (by simp [results,results48,go_sem,r0]) rfl ⟨rfl,?_⟩
 repeat (refine Below.setCell ?_ (by simp only [];omega) _)
 exact HB1.out
end
section
variable (sv mv tv ov gv lv pv:Value) (Ss:List Sh) (Ms:List Md) (Ts:List Tm) (B:Bk) (FF:Nat→List Zy_) (d t r:Zy_) (w:World)
end
end Go.Proofs.YtfohnageehneoaaGreat
