import Derived.Test.YtmappejlmapboaaGreatV18
set_option maxHeartbeats 16000000
set_option maxRecDepth 100000
open Go.Proofs.Tryz
namespace Go.Proofs.YtmappejlmapboaaGreat
open Go.RowKit Go.Deep
section
variable {w w' wr w1:World} {b o lo B k:Nat} {vv0 v:Value}
structure Gr where
 nu:Int
 tw:Zy_
 gb:Zy_
 vb:List Int
 kd:Zy_
 tm:Zy_
 pf:Zy_
variable {x:Gr} {Xl:List Gr}
structure ZdS (x:Gr):Prop where
 s0:x.tw.size<=maxLen
 s1:x.gb.size<=maxLen
 s2:x.kd.size<=maxLen
 s3:x.tm.size<=maxLen
 s4:x.pf.size<=maxLen
def ZdT (x:Gr):Prop:=x.vb.length<=1048576
structure Zcx (w:World) (b o:Nat) (x:Gr) (vv0:Value):Prop where
 c0:w.cell? ⟨b,o,none⟩=some (.int .i64 x.nu)
 c1:w.cell? ⟨b,o+1,none⟩=some (.string x.tw)
 c2:w.cell? ⟨b,o+2,none⟩=some (.string x.gb)
 c3:w.cell? ⟨b,o+3,none⟩=some vv0
 c4:w.cell? ⟨b,o+4,none⟩=some (.string x.kd)
 c5:w.cell? ⟨b,o+5,none⟩=some (.string x.tm)
 c6:w.cell? ⟨b,o+6,none⟩=some (.string x.pf)
theorem Zcx.below (h:Zcx w b o x vv0) {m:Nat} (hb:Below m w w') (hlt:b < m):Zcx w' b o x vv0:=by
 have e:∀ o,w'.cell? ⟨b,o,none⟩=w.cell? ⟨b,o,none⟩:=fun o=>hb.cell (p:=⟨b,o,none⟩) hlt
 exact⟨by rw [e];exact h.c0,by rw [e];exact h.c1,by rw [e];exact h.c2,by rw [e];exact h.c3,by rw [e];exact h.c4,by rw [e];exact h.c5,by rw [e];exact h.c6⟩
theorem Zcx.set (h:Zcx w b o x vv0) {p:Addr} (hp:b≠p.block) (u:Value):Zcx (w.setCell p u) b o x vv0:=by
 have e:∀ o,(w.setCell p u).cell? ⟨b,o,none⟩=w.cell? ⟨b,o,none⟩:=fun o=>Zar _ _ _ _ hp
 exact⟨by rw [e];exact h.c0,by rw [e];exact h.c1,by rw [e];exact h.c2,by rw [e];exact h.c3,by rw [e];exact h.c4,by rw [e];exact h.c5,by rw [e];exact h.c6⟩
def ZbK (lo:Nat) (w:World) (v:Value) (Xl:List Gr):Prop:=
 (∃ (a:Option Addr) (cap:Nat),v=.slice a 0 cap/\Xl=[])\/
 ∃ (b off cap:Nat),v=.slice (some ⟨b,off,none⟩) Xl.length cap/\Xl≠[]/\Xl.length<=maxLen/\b < w.heap.size/\lo<=b/\Xl.length<=cap/\
  ∀ i (h:i < Xl.length),ZdS Xl[i]/\∃ vv0,Zcx w b (off+i*7) Xl[i] vv0/\Zat lo w vv0 Xl[i].vb
theorem ZbK.below (h:ZbK lo w v Xl) (hb:Zw_ w w'):ZbK lo w' v Xl:=by
 rcases h with h | ⟨b,off,cap,h1,h2,h3,h4,h5,h6,h7⟩
 . exact Or.inl h
 . refine Or.inr ⟨b,off,cap,h1,h2,h3,Zk_ h4 hb.size,h5,h6,fun i hi=>?_⟩
   obtain⟨hs,vv0,hc,hv0⟩:=h7 i hi;exact⟨hs,vv0,hc.below hb h4,hv0.below hb⟩
theorem ZbK.mono {lo':Nat} (h:ZbK lo w v Xl) (hl:lo'<=lo):ZbK lo' w v Xl:=by
 rcases h with h | ⟨b,off,cap,h1,h2,h3,h4,h5,h6,h7⟩
 . exact Or.inl h
 . refine Or.inr ⟨b,off,cap,h1,h2,h3,h4,Nat.le_trans hl h5,h6,fun i hi=>?_⟩
   obtain⟨hs,vv0,hc,hv0⟩:=h7 i hi;exact⟨hs,vv0,hc,hv0.mono hl⟩
theorem ZbK.set (h:ZbK lo w v Xl) {p:Addr} (hp:p.block < lo) (u:Value):ZbK lo (w.setCell p u) v Xl:=by
 rcases h with h | ⟨b,off,cap,h1,h2,h3,h4,h5,h6,h7⟩
 . exact Or.inl h
 . refine Or.inr ⟨b,off,cap,h1,h2,h3,by simpa [World.setCell] using h4,h5,h6,fun i hi=>?_⟩
   obtain⟨hs,vv0,hc,hv0⟩:=h7 i hi;exact⟨hs,vv0,hc.set (by omega) u,hv0.setCell hp u⟩
theorem ZbK.form (h:ZbK lo w v Xl):∃ a cap,v=.slice a Xl.length cap:=by
 rcases h with ⟨a,cap,h,rfl⟩ | ⟨b,off,cap,h,_⟩
 . exact⟨a,cap,h⟩
 . exact⟨_,cap,h⟩
theorem ZbK.max (h:ZbK lo w v Xl):Xl.length<=maxLen:=by
 rcases h with ⟨a,cap,h,rfl⟩ | ⟨b,off,cap,h,_,h3,_⟩
 . exact Nat.zero_le _
 . exact h3
theorem ZbK.full (h:ZbK lo w v Xl) (hne:Xl≠[]):∃ (b off cap:Nat),v=.slice (some ⟨b,off,none⟩) Xl.length cap/\Xl.length<=maxLen/\b < w.heap.size/\Xl.length<=cap/\
 ∀ i (h:i < Xl.length),ZdS Xl[i]/\∃ vv0,Zcx w b (off+i*7) Xl[i] vv0/\Zat lo w vv0 Xl[i].vb:=by
 rcases h with ⟨_,_,_,h⟩ | ⟨b,off,cap,h1,_,h3,h4,_,h6,h7⟩
 . exact absurd h hne
 . exact⟨b,off,cap,h1,h3,h4,h6,h7⟩
theorem ZbK.full' {a:Option Addr}{n cap:Nat} (h:ZbK lo w (.slice a n cap) Xl) (hL:0 < Xl.length) :
 ∃ b off,a=some ⟨b,off,none⟩/\b < w.heap.size/\lo<=b/\∀ i (h:i < Xl.length),ZdS Xl[i]/\∃ vv0,Zcx w b (off+i*7) Xl[i] vv0/\Zat lo w vv0 Xl[i].vb:=by
 rcases h with ⟨a',cap',h,rfl⟩ | ⟨b',off',cap',h1,h2,h3,h4,h5,h6,h7⟩
 . simp at hL
 . injection h1 with e1 e2 e3
   exact⟨b',off',e1,h4,h5,h7⟩
def Zei (Xl:List Gr):Prop:=Xl.length<=1048576/\∀ i (h:i < Xl.length),ZdT Xl[i]
def Zr5 (Xl:List Gr) (left r:Int):Prop:= -1<=r/\r<=left/\(0<=r->Zei Xl)
def Gr.ru (x:Gr):Ru:=⟨x.vb,x.kd,x.tm,x.pf⟩
theorem ZpY (lo:Nat) (x:Gr) (vv0:Value) (left:Int) (w:World) (h0:0<=left) (h1:left<=1048576) (hv0:Zat lo w vv0 x.vb) (hz:ZdS x) :
 Calls prog 78 #[.agg #[.int .i64 x.nu,.string x.tw,.string x.gb,vv0,.string x.kd,.string x.tm,.string x.pf],.int .i64 left] w
  fun e w'=>∃ r:Int,e=.returned (.int .i64 r)/\Zw_ w w'/\-1<=r/\r<=left/\(0<=r->ZdT x):=by
 have HV:=Zab hv0;obtain⟨a,cap,rfl⟩:=hv0.form;obtain⟨s0,s1,s2,s3,s4⟩:=hz;have HZ:Hd (Zgw x.ru):=⟨s2,s3,s4⟩;unfold maxLen at s0 s1;clear hv0 s2 s3 s4;have HW:∀ o,Hd (Zw_ w (w.alloc o)):=fun o=>Zb_.alloc Zl_ _
 by_cases c0:(x.tw.size:Int)<=left
 . by_cases c1:(x.tw.size:Int)+x.gb.size<=left
   . go_enter func78,ntmps78
     go_wp2_with fail;refine (ZmH lo x.ru _ _ _ (by omega) (by omega) (HV.o.below (HW _).o) HZ.o).mono ?_;rintro e w1 ⟨r,rfl,hb,q0,q1,q2⟩;have HB:Hd (Zw_ w w1):=(HW _).o.trans (hb.mono (HW _).o.size);have Q2:=Zab q2;clear hb q2
     by_cases hr:r < 0
     . go_wp2
       go_ret;exact⟨-1,rfl,HB.o,by omega,by omega,fun h=>by omega⟩
     . go_wp2
       go_ret;exact⟨_,rfl,HB.o,by omega,by omega,fun h=>by have:(x.ru.vb.length:Int)<=_:=Q2.o h;show x.vb.length<=1048576;unfold Gr.ru at this;simp only [] at this;omega⟩
   . go_enter func78,ntmps78
     go_wp2;go_ret;exact⟨-1,rfl,(HW _).o,by omega,by omega,fun h=>by omega⟩
 . go_enter func78,ntmps78
   go_wp2;go_ret;exact⟨-1,rfl,(HW _).o,by omega,by omega,fun h=>by omega⟩
theorem Zp3 (lo:Nat) (x:Gr) (vv0:Value) (w:World) (hv0:Zat lo w vv0 x.vb) (hn:ZdT x) :
 Calls prog 90 #[.agg #[.int .i64 x.nu,.string x.tw,.string x.gb,vv0,.string x.kd,.string x.tm,.string x.pf]] w
  fun e w'=>∃ z0,e=.returned (.agg #[.int .i64 x.nu,.string x.tw,.string x.gb,z0,.string x.kd,.string x.tm,.string x.pf])/\Zw_ w w'/\Zat w.heap.size w' z0 x.vb:=by
 have HV:=Zab hv0;obtain⟨a,cap,rfl⟩:=hv0.form;have hn':x.ru.vb.length<=1048576:=hn;clear hv0 hn;go_enter func90,ntmps90;go_wp2_with fail;refine (ZmT lo x.ru _ _ (HV.o.below ?_) hn').mono ?_
 . exact ((Zb_.alloc Zl_ _).alloc (by simp) _).alloc (by simp;omega) _
 rintro e w1 ⟨v',rfl,hb,hs⟩;obtain⟨a',cap',rfl⟩:=hs.form;have HS:Hd (Zat (w.heap.size+3) w1 (.slice a' x.ru.vb.length cap') x.vb):=hs.mono (by simp);clear hs;have hz:w.heap.size+2 < w1.heap.size:=by have:=hb.size;simp at this;omega
 have hc:∀ b o,b < w.heap.size+3->w1.cell? ⟨b,o,none⟩=_:=fun b o h=>hb.cell (p:=⟨b,o,none⟩) (by simpa using h)
 have hf:∀ b o,b < w.heap.size+3->w1.frozen? ⟨b,o,none⟩=_:=fun b o h=>hb.frozen (p:=⟨b,o,none⟩) (by simpa using h)
 have HB:Hd (Zw_ w w1):=(((Zb_.alloc Zl_ _).alloc (by simp) _).alloc (by simp;omega) _).trans (hb.mono (by simp;omega));clear hb;go_wp2;refine bodyPost_ret (v:=.agg #[.int .i64 x.nu,.string x.tw,.string x.gb,(.slice a' x.ru.vb.length cap'),.string x.kd,.string x.tm,.string x.pf]) (by simp [results,results90,go_sem,hc];exact⟨rfl,rfl,rfl⟩) rfl ⟨_,rfl,?_,?_⟩
 . repeat (refine Below.setCell ?_ (by simp only [];omega) _)
   exact HB.o
 . refine Zat.mono (lo:=w.heap.size+3) ?_ (by omega)
   repeat (refine Zat.setCell ?_ (by simp only [];omega) _)
   exact HS.o
theorem Znx (lo lo':Nat) (x:Gr) (vv0 vv0':Value) (w:World) (hv0:Zat lo w vv0 x.vb) (hw0:Zat lo' w vv0' x.vb) :
 Calls prog 101 #[.agg #[.int .i64 x.nu,.string x.tw,.string x.gb,vv0,.string x.kd,.string x.tm,.string x.pf],.agg #[.int .i64 x.nu,.string x.tw,.string x.gb,vv0',.string x.kd,.string x.tm,.string x.pf]] w fun e w'=>e=.returned (.bool true)/\Zw_ w w':=by
 have HV:=Zab hv0;have HV':=Zab hw0;obtain⟨a,cap,rfl⟩:=hv0.form;obtain⟨a',cap',rfl⟩:=hw0.form;clear hv0 hw0;have HW:∀ o o',Hd (Zw_ w ((w.alloc o).alloc o')):=fun o o'=>(Zb_.alloc Zl_ _).alloc (by simp) _
 go_enter func101,ntmps101;go_wp2_with fail;refine (Zj7 lo lo' x.ru _ _ _ (HV.o.below (HW _ _).o) (HV'.o.below (HW _ _).o)).mono ?_;rintro e w1 ⟨rfl,hb1⟩;have HB1:Hd (Zw_ w w1):=(HW _ _).o.trans (hb1.mono (HW _ _).o.size);clear hb1;go_wp2;go_ret;exact⟨rfl,HB1.o⟩
theorem Zor (lo:Nat) (v:Value) (Xl:List Gr) (left:Int) (w:World) (h0:0<=left) (h1:left<=1048576) (hv:ZbK lo w v Xl) :
 Calls prog 31 #[v,.int .i64 left] w fun e w'=>∃ r:Int,e=.returned (.int .i64 r)/\Zw_ w w'/\Zr5 Xl left r:=by
 rcases hv with ⟨a,cap,rfl,rfl⟩ | ⟨b,off,cap,rfl,hne,hm,hbw,_,_,hc⟩
 . go_enter func31,ntmps31
   go_wp2
   go_loop [1,5] (fun l i=>∃ r:Int,l=.int .i64 r/\0<=r/\r<=left/\i=.int .i64 0) (fun _ _=>0)
   case atStart=>exact⟨_,rfl,by omega,by omega,rfl⟩
   case round=>
    obtain⟨r,rfl,hr0,hr1,rfl⟩:=hrel;go_wp2;go_ret;exact⟨r,rfl,Below.refl _ _,by omega,by omega,fun _=>⟨by simp,fun i h=>by simp at h⟩⟩
 . unfold maxLen at hm
   by_cases hle:(Xl.length:Int)<=left
   . go_enter func31,ntmps31
     go_wp2
     go_loopw [1,5] (fun l i wr=>∃ (r:Int) (k:Nat),l=.int .i64 r/\0<=r/\r<=left/\i=.int .i64 k/\k<=Xl.length/\Zw_ w wr/\∀ j (hj:j < Xl.length),j < k->ZdT Xl[j]) (fun _ i _=>Xl.length - (intOf i).toNat)
     case atStart=>exact⟨_,0,rfl,by omega,by omega,rfl,by omega,Below.refl _ _,fun j _ h=>by omega⟩
     case round=>
      obtain⟨r,k,rfl,hr0,hr1,rfl,hk,hb,hall⟩:=hrel;have HA:=Zab hall;clear hall
      by_cases hlt:k < Xl.length
      . obtain⟨hs,vv0,hc,hv0⟩:=hc k hlt
        have HV0:=Zab (hv0.below hb);obtain⟨a0,k0,rfl⟩:=hv0.form;obtain⟨c0,c1,c2,c3,c4,c5,c6⟩:=hc.below hb hbw;clear hc hv0;go_wp2_with fail;refine (ZpY lo _ _ _ _ hr0 (by omega) HV0.o hs).mono ?_;rintro e w1 ⟨r1,rfl,hb1,q0,q1,q2⟩;have HQ2:=Zab q2;have hB:Hd (Zw_ w w1):=hb.trans (hb1.mono hb.size);clear hb1 c0 c1 c2 c3 c4 c5 c6 hb q2 HV0
        by_cases hneg:r1 < 0
        . go_wp2
          go_ret;exact⟨-1,rfl,hB.o,by omega,by omega,fun h=>by omega⟩
        . have HL:Hd (ZdT Xl[k]):=HQ2.o (by omega)
          clear HQ2;go_wp2;go_roundw
          case rel=>exact⟨_,k+1,rfl,by omega,by omega,by go_num,by omega,hB.o,fun j hj h=>by
                     by_cases e:j=k
                     . subst e;exact HL.o
                     . exact HA.o j hj (by omega)⟩
          . simp [intOf];omega
      . go_wp2
        go_ret;exact⟨r,rfl,hb,by omega,by omega,fun _=>⟨by omega,fun j hj=>HA.o j hj (by omega)⟩⟩
   . go_enter func31,ntmps31
     go_wp2;go_ret;exact⟨-1,rfl,Below.refl _ _,by omega,by omega,fun h=>by omega⟩
theorem ZlG (lo lo':Nat) (v v':Value) (Xl:List Gr) (w:World) (hv:ZbK lo w v Xl) (hv':ZbK lo' w v' Xl) :
 Calls prog 49 #[v,v'] w fun e w'=>e=.returned (.bool true)/\Zw_ w w':=by
 by_cases hL:Xl=[]
 . subst hL
   obtain⟨a,cap,rfl⟩:=hv.form;obtain⟨a',cap',rfl⟩:=hv'.form;clear hv hv';go_enter func49,ntmps49;go_wp2
   go_loop [5] (fun i=>i=.int .i64 0) (fun _=>0)
   case atStart=>rfl
   case round=>
    subst hrel;go_wp2;go_ret;exact⟨rfl,Below.refl _ _⟩
 . obtain⟨b,off,cap,rfl,hm,hbw,_,hc⟩:=hv.full hL
   obtain⟨b',off',cap',rfl,_,hbw',_,hc'⟩:=hv'.full hL;clear hv hv';unfold maxLen at hm;go_enter func49,ntmps49;go_wp2
   go_loopw [5] (fun i wr=>∃ k:Nat,i=.int .i64 k/\k<=Xl.length/\Zw_ w wr) (fun i _=>Xl.length - (intOf i).toNat)
   case atStart=>exact⟨0,rfl,by omega,Below.refl _ _⟩
   case round=>
    obtain⟨k,rfl,hk,hb⟩:=hrel
    by_cases hlt:k < Xl.length
    . obtain⟨hs,vv0,hc,hv0⟩:=hc k hlt
      obtain⟨ht,vv0',hd,hw0⟩:=hc' k hlt;have HV0:=Zab (hv0.below hb);have HW0:=Zab (hw0.below hb);obtain⟨a0,k0,rfl⟩:=hv0.form;obtain⟨e0,g0,rfl⟩:=hw0.form;obtain⟨c0,c1,c2,c3,c4,c5,c6⟩:=hc.below hb hbw;obtain⟨d0,d1,d2,d3,d4,d5,d6⟩:=hd.below hb hbw';clear hc hd hv0 hw0 hs ht;have HB:=Zab hb;clear hb;go_wp2
      go_region_with (go_at_call 101;refine (Znx lo lo' _ _ _ _ (HV0.o.below (Zb_.drew)) (HW0.o.below (Zb_.drew))).mono ?_;rintro e w1 ⟨rfl,hb1⟩;have hB:Hd (Zw_ w w1):=(HB.o.drew).trans (hb1.mono HB.o.size);clear hb1)
      all_goals go_wp2
      all_goals go_roundw
      all_goals first
       | (case rel=>exact⟨k+1,by go_num,by omega,hB.o⟩)
       | (case measure=>simp [intOf];omega)
    . go_wp2
      go_ret;exact⟨rfl,hb⟩
theorem Tryz.info140:(prog.info? 140).map (fun i=>(i.zero,i.size,i.bytes))=some (some (.agg #[.int .i64 0,.string ⟨#[]⟩,.string ⟨#[]⟩,.slice none 0 0,.string ⟨#[]⟩,.string ⟨#[]⟩,.string ⟨#[]⟩]),7,112):=by kernel_rfl
def ZbL (wr:World) (B:Nat) (Xl:List Gr) (k:Nat):Prop:=
 ∃ f,wr.rowIs B 140 (Xl.length*7) f/\∀ i (h:i < Xl.length),i < k->ZdS Xl[i]/\∃ vv0,f (i*7)=.int .i64 Xl[i].nu/\f (i*7+1)=.string Xl[i].tw/\f (i*7+2)=.string Xl[i].gb/\f (i*7+3)=vv0/\f (i*7+4)=.string Xl[i].kd/\f (i*7+5)=.string Xl[i].tm/\f (i*7+6)=.string Xl[i].pf/\Zat (B+1) wr vv0 Xl[i].vb
theorem ZbL.below (h:ZbL wr B Xl k) (hb:Below wr.heap.size wr w1):ZbL w1 B Xl k:=by
 obtain⟨f,hr,hall⟩:=h;refine⟨f,hr.of_block (hb.block B hr.lt),fun i hi hik=>?_⟩;obtain⟨hz,vv0,h0,h1,h2,h3,h4,h5,h6,hv0⟩:=hall i hi hik;exact⟨hz,vv0,h0,h1,h2,h3,h4,h5,h6,hv0.below hb⟩
theorem ZbL.free (h:ZbL wr B Xl k) (i:Nat):wr.frozen? ⟨B,i,none⟩=false:=by
 obtain⟨f,hr,_⟩:=h;exact hr.frozen i
theorem ZbL.there (h:ZbL wr B Xl k) (i:Nat) (hi:i < Xl.length*7):∃ v,wr.cell? ⟨B,i,none⟩=some v:=by
 obtain⟨f,hr,_⟩:=h;exact⟨_,hr.cell hi⟩
theorem ZbL.step (h:ZbL w1 B Xl k) (hk:k < Xl.length) (hz:ZdS Xl[k]) (hv0:Zat (B+1) w1 vv0 Xl[k].vb) :
 ZbL (((((((w1.setCell ⟨B,k*7,none⟩ (.int .i64 Xl[k].nu)).setCell ⟨B,k*7+1,none⟩ (.string Xl[k].tw)).setCell ⟨B,k*7+2,none⟩ (.string Xl[k].gb)).setCell ⟨B,k*7+3,none⟩ vv0).setCell ⟨B,k*7+4,none⟩ (.string Xl[k].kd)).setCell ⟨B,k*7+5,none⟩ (.string Xl[k].tm)).setCell ⟨B,k*7+6,none⟩ (.string Xl[k].pf)) B Xl (k+1):=by
 obtain⟨f,hr,hall⟩:=h;refine⟨_,(((((((hr.set _ _).set _ _).set _ _).set _ _).set _ _).set _ _).set _ _),fun i hi hik=>?_⟩
 by_cases e:i=k
 . subst e
   refine⟨hz,vv0,by simp,by simp,by simp,by simp,by simp,by simp,by simp,?_⟩
   . repeat (refine Zat.setCell ?_ (by simp only [];omega) _)
     exact hv0
 . obtain⟨hz',vv0',h0,h1,h2,h3,h4,h5,h6,hv0'⟩:=hall i hi (by omega)
   refine⟨hz',vv0',?_,?_,?_,?_,?_,?_,?_,?_⟩
   . rw [if_neg (by omega),if_neg (by omega),if_neg (by omega),if_neg (by omega),if_neg (by omega),if_neg (by omega),if_neg (by omega)];exact h0
   . rw [if_neg (by omega),if_neg (by omega),if_neg (by omega),if_neg (by omega),if_neg (by omega),if_neg (by omega),if_neg (by omega)];exact h1
   . rw [if_neg (by omega),if_neg (by omega),if_neg (by omega),if_neg (by omega),if_neg (by omega),if_neg (by omega),if_neg (by omega)];exact h2
   . rw [if_neg (by omega),if_neg (by omega),if_neg (by omega),if_neg (by omega),if_neg (by omega),if_neg (by omega),if_neg (by omega)];exact h3
   . rw [if_neg (by omega),if_neg (by omega),if_neg (by omega),if_neg (by omega),if_neg (by omega),if_neg (by omega),if_neg (by omega)];exact h4
   . rw [if_neg (by omega),if_neg (by omega),if_neg (by omega),if_neg (by omega),if_neg (by omega),if_neg (by omega),if_neg (by omega)];exact h5
   . rw [if_neg (by omega),if_neg (by omega),if_neg (by omega),if_neg (by omega),if_neg (by omega),if_neg (by omega),if_neg (by omega)];exact h6
   . repeat (refine Zat.setCell ?_ (by simp only [];omega) _)
     exact hv0'
theorem ZbL.done (h:ZbL wr B Xl k) (hk:Xl.length<=k) (hne:Xl≠[]) (hm:Xl.length<=maxLen):ZbK B wr (.slice (some ⟨B,0,none⟩) Xl.length Xl.length) Xl:=by
 obtain⟨f,hr,hall⟩:=h;refine Or.inr ⟨B,0,Xl.length,rfl,hne,hm,hr.lt,Nat.le_refl _,Nat.le_refl _,fun i hi=>?_⟩;obtain⟨hz,vv0,h0,h1,h2,h3,h4,h5,h6,hv0⟩:=hall i hi (by omega);rw [Nat.zero_add];exact⟨hz,vv0,⟨by rw [hr.cell (by omega),h0],by rw [hr.cell (by omega),h1],by rw [hr.cell (by omega),h2],by rw [hr.cell (by omega),h3],by rw [hr.cell (by omega),h4],by rw [hr.cell (by omega),h5],by rw [hr.cell (by omega),h6]⟩,hv0.mono (by omega)⟩
theorem ZbL.new (w:World) (Xl:List Gr) (z:Array Value):ZbL (w.alloc (.cells (madeCells z (Xl.length*7)) 140)) w.heap.size Xl 0:=by
 refine⟨fun i=>(madeCells z (Xl.length*7)).getD i default,?_,fun i _ h=>by omega⟩;have:=World.rowIs_alloc w (madeCells z (Xl.length*7)) 140 (fun i=>(madeCells z (Xl.length*7)).getD i default) (fun i hi=>by simp [Array.getD,hi])
 rwa [size_madeCells] at this
theorem ZoH (lo:Nat) (v:Value) (Xl:List Gr) (w:World) (hv:ZbK lo w v Xl) (hn:Zei Xl) :
 Calls prog 40 #[v] w fun e w'=>∃ v',e=.returned v'/\Zw_ w w'/\ZbK w.heap.size w' v' Xl:=by
 obtain⟨i0,hi,hz0,hz1,hz2⟩:=info_parts Tryz.info140;have HSM:=Zab hn.2;have hn1:=hn.1;clear hn
 by_cases hL:Xl=[]
 . subst hL
   obtain⟨a,cap,rfl⟩:=hv.form;clear hv
   have hmk:∀ u:World,(Instr.makeSlice 44 (.int .i64 0) (.int .i64 0)).run prog u=.ok (.slice (some ⟨u.heap.size,0,none⟩) 0 0) (u.alloc (.cells (madeCells (Value.cells (.agg #[.int .i64 0,.string ⟨#[]⟩,.string ⟨#[]⟩,.slice none 0 0,.string ⟨#[]⟩,.string ⟨#[]⟩,.string ⟨#[]⟩])) 0) 140)):=fun u=>by
    have h:=run_make (P:=prog) u 44 140 i0 _ underlying44 hi hz0 .i64 .i64 0 0 (by omega) (by omega) (by omega) (by omega)
    simpa [hz1] using h
   go_enter func40,ntmps40;go_wp2
   go_loop [4] (fun i=>i=.int .i64 0) (fun _=>0)
   case atStart=>rfl
   case round=>
    subst hrel;go_wp2;go_ret;exact⟨_,rfl,Zb_.alloc Zl_ _,Or.inl ⟨_,_,rfl,rfl⟩⟩
 . obtain⟨b,off,cap,rfl,hm,hbw,_,hc⟩:=hv.full hL
   clear hv;have HM:Hd (Xl.length<=maxLen):=hm;unfold maxLen at hm
   have hmk:∀ u:World,(Instr.makeSlice 44 (.int .i64 (Xl.length:Int)) (.int .i64 (Xl.length:Int))).run prog u=.ok (.slice (some ⟨u.heap.size,0,none⟩) Xl.length Xl.length) (u.alloc (.cells (madeCells (Value.cells (.agg #[.int .i64 0,.string ⟨#[]⟩,.string ⟨#[]⟩,.slice none 0 0,.string ⟨#[]⟩,.string ⟨#[]⟩,.string ⟨#[]⟩])) (Xl.length*7)) 140)):=fun u=>by
    have h:=run_make (P:=prog) u 44 140 i0 _ underlying44 hi hz0 .i64 .i64 Xl.length Xl.length (by omega) (by omega) (by rw [hz2];omega) (by omega);rw [hz1] at h
    simpa using h
   clear hi hz0 hz1 hz2;go_enter func40,ntmps40;go_wp2;clear hmk
   go_loopw [4] (fun i wr=>∃ k:Nat,i=.int .i64 k/\k<=Xl.length/\Zw_ w wr/\ZbL wr w.heap.size Xl k) (fun i _=>Xl.length - (intOf i).toNat)
   case atStart=>exact⟨0,rfl,by omega,Zb_.alloc Zl_ _,ZbL.new w Xl _⟩
   case round=>
    obtain⟨k,rfl,hk,hb,hf⟩:=hrel
    by_cases hlt:k < Xl.length
    . obtain⟨hs,vv0,hc,hv0⟩:=hc k hlt
      have HV0:=Zab (hv0.below hb);obtain⟨a0,k0,rfl⟩:=hv0.form;obtain⟨c0,c1,c2,c3,c4,c5,c6⟩:=hc.below hb hbw
      have hBl:w.heap.size < wr.heap.size:=by
       obtain⟨_,hr,_⟩:=hf;exact hr.lt
      clear hc hv0;go_wp2_with fail;refine (Zp3 lo _ _ _ HV0.o (HSM.o k hlt)).mono ?_;rintro e w1 ⟨z0,rfl,hb1,hz0⟩;obtain⟨m0,n0,rfl⟩:=hz0.form;have hf1:=hf.below hb1;have HST:=Zab (hf1.step hlt hs (hz0.mono (by omega)));have hB:Hd (Zw_ w w1):=hb.trans (hb1.mono hb.size);have hfr:=hf1.free;obtain⟨o0,ho0⟩:=hf1.there (k*7) (by omega);obtain⟨o1,ho1⟩:=hf1.there (k*7+1) (by omega);obtain⟨o2,ho2⟩:=hf1.there (k*7+2) (by omega);obtain⟨o3,ho3⟩:=hf1.there (k*7+3) (by omega);obtain⟨o4,ho4⟩:=hf1.there (k*7+4) (by omega);obtain⟨o5,ho5⟩:=hf1.there (k*7+5) (by omega);obtain⟨o6,ho6⟩:=hf1.there (k*7+6) (by omega);clear hf hf1 hb1 hb c0 c1 c2 c3 c4 c5 c6 hz0 HV0;go_wp2;go_roundw
      . 
       exact⟨k+1,by go_num,by omega,(((((((hB.o.setCell Zl_ _).setCell Zl_ _).setCell Zl_ _).setCell Zl_ _).setCell Zl_ _).setCell Zl_ _).setCell Zl_ _),HST.o⟩
      . simp [intOf];omega
    . go_wp2
      go_ret;exact⟨_,rfl,hb,hf.done (by omega) hL HM.o⟩
end
section
variable {w w' wr w1:World} {b o lo B k:Nat} {v:Value}
structure Le where
 tm:Zy_
 re:Zy_
 mo:Int
 fr:Int
variable {x:Le} {Xl:List Le}
structure ZdU (x:Le):Prop where
 s0:x.tm.size<=maxLen
 s1:x.re.size<=maxLen
def Zgu (x:Le):Prop:=x=x
structure Zcy (w:World) (b o:Nat) (x:Le):Prop where
 c0:w.cell? ⟨b,o,none⟩=some (.string x.tm)
 c1:w.cell? ⟨b,o+1,none⟩=some (.string x.re)
 c2:w.cell? ⟨b,o+2,none⟩=some (.int .i64 x.mo)
 c3:w.cell? ⟨b,o+3,none⟩=some (.int .i64 x.fr)
theorem Zcy.below (h:Zcy w b o x ) {m:Nat} (hb:Below m w w') (hlt:b < m):Zcy w' b o x:=by
 have e:∀ o,w'.cell? ⟨b,o,none⟩=w.cell? ⟨b,o,none⟩:=fun o=>hb.cell (p:=⟨b,o,none⟩) hlt
 exact⟨by rw [e];exact h.c0,by rw [e];exact h.c1,by rw [e];exact h.c2,by rw [e];exact h.c3⟩
theorem Zcy.set (h:Zcy w b o x ) {p:Addr} (hp:b≠p.block) (u:Value):Zcy (w.setCell p u) b o x:=by
 have e:∀ o,(w.setCell p u).cell? ⟨b,o,none⟩=w.cell? ⟨b,o,none⟩:=fun o=>Zar _ _ _ _ hp
 exact⟨by rw [e];exact h.c0,by rw [e];exact h.c1,by rw [e];exact h.c2,by rw [e];exact h.c3⟩
def Zbx (lo:Nat) (w:World) (v:Value) (Xl:List Le):Prop:=
 (∃ (a:Option Addr) (cap:Nat),v=.slice a 0 cap/\Xl=[])\/
 ∃ (b off cap:Nat),v=.slice (some ⟨b,off,none⟩) Xl.length cap/\Xl≠[]/\Xl.length<=maxLen/\b < w.heap.size/\lo<=b/\Xl.length<=cap/\
  ∀ i (h:i < Xl.length),ZdU Xl[i]/\Zcy w b (off+i*4) Xl[i]
theorem Zbx.below (h:Zbx lo w v Xl) (hb:Zw_ w w'):Zbx lo w' v Xl:=by
 rcases h with h | ⟨b,off,cap,h1,h2,h3,h4,h5,h6,h7⟩
 . exact Or.inl h
 . refine Or.inr ⟨b,off,cap,h1,h2,h3,Zk_ h4 hb.size,h5,h6,fun i hi=>?_⟩
   obtain⟨hs,hc⟩:=h7 i hi;exact⟨hs,hc.below hb h4⟩
theorem Zbx.mono {lo':Nat} (h:Zbx lo w v Xl) (hl:lo'<=lo):Zbx lo' w v Xl:=by
 rcases h with h | ⟨b,off,cap,h1,h2,h3,h4,h5,h6,h7⟩
 . exact Or.inl h
 . refine Or.inr ⟨b,off,cap,h1,h2,h3,h4,Nat.le_trans hl h5,h6,fun i hi=>?_⟩
   obtain⟨hs,hc⟩:=h7 i hi;exact⟨hs,hc⟩
theorem Zbx.set (h:Zbx lo w v Xl) {p:Addr} (hp:p.block < lo) (u:Value):Zbx lo (w.setCell p u) v Xl:=by
 rcases h with h | ⟨b,off,cap,h1,h2,h3,h4,h5,h6,h7⟩
 . exact Or.inl h
 . refine Or.inr ⟨b,off,cap,h1,h2,h3,by simpa [World.setCell] using h4,h5,h6,fun i hi=>?_⟩
   obtain⟨hs,hc⟩:=h7 i hi;exact⟨hs,hc.set (by omega) u⟩
theorem Zbx.form (h:Zbx lo w v Xl):∃ a cap,v=.slice a Xl.length cap:=by
 rcases h with ⟨a,cap,h,rfl⟩ | ⟨b,off,cap,h,_⟩
 . exact⟨a,cap,h⟩
 . exact⟨_,cap,h⟩
theorem Zbx.max (h:Zbx lo w v Xl):Xl.length<=maxLen:=by
 rcases h with ⟨a,cap,h,rfl⟩ | ⟨b,off,cap,h,_,h3,_⟩
 . exact Nat.zero_le _
 . exact h3
theorem Zbx.full (h:Zbx lo w v Xl) (hne:Xl≠[]):∃ (b off cap:Nat),v=.slice (some ⟨b,off,none⟩) Xl.length cap/\Xl.length<=maxLen/\b < w.heap.size/\Xl.length<=cap/\
 ∀ i (h:i < Xl.length),ZdU Xl[i]/\Zcy w b (off+i*4) Xl[i]:=by
 rcases h with ⟨_,_,_,h⟩ | ⟨b,off,cap,h1,_,h3,h4,_,h6,h7⟩
 . exact absurd h hne
 . exact⟨b,off,cap,h1,h3,h4,h6,h7⟩
theorem Zbx.full' {a:Option Addr}{n cap:Nat} (h:Zbx lo w (.slice a n cap) Xl) (hL:0 < Xl.length) :
 ∃ b off,a=some ⟨b,off,none⟩/\b < w.heap.size/\lo<=b/\∀ i (h:i < Xl.length),ZdU Xl[i]/\Zcy w b (off+i*4) Xl[i]:=by
 rcases h with ⟨a',cap',h,rfl⟩ | ⟨b',off',cap',h1,h2,h3,h4,h5,h6,h7⟩
 . simp at hL
 . injection h1 with e1 e2 e3
   exact⟨b',off',e1,h4,h5,h7⟩
def Zej (Xl:List Le):Prop:=Xl.length<=1048576/\∀ i (h:i < Xl.length),Zgu Xl[i]
def Zr6 (Xl:List Le) (left r:Int):Prop:= -1<=r/\r<=left/\(0<=r->Zej Xl)
theorem ZpZ (x:Le) (left:Int) (w:World) (h0:0<=left) (h1:left<=1048576) (hz:ZdU x) :
 Calls prog 79 #[.agg #[.string x.tm,.string x.re,.int .i64 x.mo,.int .i64 x.fr],.int .i64 left] w
  fun e w'=>∃ r:Int,e=.returned (.int .i64 r)/\Zw_ w w'/\-1<=r/\r<=left/\(0<=r->Zgu x):=by
 obtain⟨s0,s1⟩:=hz;unfold maxLen at s0 s1;go_enter func79,ntmps79;go_wp2
 all_goals go_ret
 all_goals exact⟨_,rfl,Zb_.alloc Zl_ _,by omega,by omega,fun _=>rfl⟩
theorem Zlo (x:Le) (w:World) :
 Calls prog 91 #[.agg #[.string x.tm,.string x.re,.int .i64 x.mo,.int .i64 x.fr]] w fun e w'=>e=.returned (.agg #[.string x.tm,.string x.re,.int .i64 x.mo,.int .i64 x.fr])/\Zw_ w w':=by
 go_enter func91,ntmps91;go_wp2;refine bodyPost_ret (v:=.agg #[.string x.tm,.string x.re,.int .i64 x.mo,.int .i64 x.fr]) (by simp [results,results91,go_sem]) rfl ⟨rfl,?_⟩
 repeat (refine Below.setCell ?_ (by simp) _)
 exact ((Zb_.alloc Zl_ _).alloc (by simp) _).alloc (by simp;omega) _
theorem Zny (x:Le) (w:World) :
 Calls prog 102 #[.agg #[.string x.tm,.string x.re,.int .i64 x.mo,.int .i64 x.fr],.agg #[.string x.tm,.string x.re,.int .i64 x.mo,.int .i64 x.fr]] w fun e w'=>e=.returned (.bool true)/\Zw_ w w':=by
 go_enter func102,ntmps102;go_wp2;go_ret;exact⟨rfl,(Zb_.alloc Zl_ _).alloc (by simp) _⟩
theorem Zot (lo:Nat) (v:Value) (Xl:List Le) (left:Int) (w:World) (h0:0<=left) (h1:left<=1048576) (hv:Zbx lo w v Xl) :
 Calls prog 32 #[v,.int .i64 left] w fun e w'=>∃ r:Int,e=.returned (.int .i64 r)/\Zw_ w w'/\Zr6 Xl left r:=by
 rcases hv with ⟨a,cap,rfl,rfl⟩ | ⟨b,off,cap,rfl,hne,hm,hbw,_,_,hc⟩
 . go_enter func32,ntmps32
   go_wp2
   go_loop [1,5] (fun l i=>∃ r:Int,l=.int .i64 r/\0<=r/\r<=left/\i=.int .i64 0) (fun _ _=>0)
   case atStart=>exact⟨_,rfl,by omega,by omega,rfl⟩
   case round=>
    obtain⟨r,rfl,hr0,hr1,rfl⟩:=hrel;go_wp2;go_ret;exact⟨r,rfl,Below.refl _ _,by omega,by omega,fun _=>⟨by simp,fun i h=>by simp at h⟩⟩
 . unfold maxLen at hm
   by_cases hle:(Xl.length:Int)<=left
   . go_enter func32,ntmps32
     go_wp2
     go_loopw [1,5] (fun l i wr=>∃ (r:Int) (k:Nat),l=.int .i64 r/\0<=r/\r<=left/\i=.int .i64 k/\k<=Xl.length/\Zw_ w wr/\∀ j (hj:j < Xl.length),j < k->Zgu Xl[j]) (fun _ i _=>Xl.length - (intOf i).toNat)
     case atStart=>exact⟨_,0,rfl,by omega,by omega,rfl,by omega,Below.refl _ _,fun j _ h=>by omega⟩
     case round=>
      obtain⟨r,k,rfl,hr0,hr1,rfl,hk,hb,hall⟩:=hrel;have HA:=Zab hall;clear hall
      by_cases hlt:k < Xl.length
      . obtain⟨hs,hc⟩:=hc k hlt
        obtain⟨c0,c1,c2,c3⟩:=hc.below hb hbw;clear hc;go_wp2_with fail;refine (ZpZ _ _ _ hr0 (by omega) hs).mono ?_;rintro e w1 ⟨r1,rfl,hb1,q0,q1,q2⟩;have HQ2:=Zab q2;have hB:Hd (Zw_ w w1):=hb.trans (hb1.mono hb.size);clear hb1 c0 c1 c2 c3 hb q2
        by_cases hneg:r1 < 0
        . go_wp2
          go_ret;exact⟨-1,rfl,hB.o,by omega,by omega,fun h=>by omega⟩
        . have HL:Hd (Zgu Xl[k]):=HQ2.o (by omega)
          clear HQ2;go_wp2;go_roundw
          case rel=>exact⟨_,k+1,rfl,by omega,by omega,by go_num,by omega,hB.o,fun j hj h=>by
                     by_cases e:j=k
                     . subst e;exact HL.o
                     . exact HA.o j hj (by omega)⟩
          . simp [intOf];omega
      . go_wp2
        go_ret;exact⟨r,rfl,hb,by omega,by omega,fun _=>⟨by omega,fun j hj=>HA.o j hj (by omega)⟩⟩
   . go_enter func32,ntmps32
     go_wp2;go_ret;exact⟨-1,rfl,Below.refl _ _,by omega,by omega,fun h=>by omega⟩
theorem ZlI (lo lo':Nat) (v v':Value) (Xl:List Le) (w:World) (hv:Zbx lo w v Xl) (hv':Zbx lo' w v' Xl) :
 Calls prog 50 #[v,v'] w fun e w'=>e=.returned (.bool true)/\Zw_ w w':=by
 by_cases hL:Xl=[]
 . subst hL
   obtain⟨a,cap,rfl⟩:=hv.form;obtain⟨a',cap',rfl⟩:=hv'.form;clear hv hv';go_enter func50,ntmps50;go_wp2
   go_loop [5] (fun i=>i=.int .i64 0) (fun _=>0)
   case atStart=>rfl
   case round=>
    subst hrel;go_wp2;go_ret;exact⟨rfl,Below.refl _ _⟩
 . obtain⟨b,off,cap,rfl,hm,hbw,_,hc⟩:=hv.full hL
   obtain⟨b',off',cap',rfl,_,hbw',_,hc'⟩:=hv'.full hL;clear hv hv';unfold maxLen at hm;go_enter func50,ntmps50;go_wp2
   go_loopw [5] (fun i wr=>∃ k:Nat,i=.int .i64 k/\k<=Xl.length/\Zw_ w wr) (fun i _=>Xl.length - (intOf i).toNat)
   case atStart=>exact⟨0,rfl,by omega,Below.refl _ _⟩
   case round=>
    obtain⟨k,rfl,hk,hb⟩:=hrel
    by_cases hlt:k < Xl.length
    . obtain⟨hs,hc⟩:=hc k hlt
      obtain⟨ht,hd⟩:=hc' k hlt;obtain⟨c0,c1,c2,c3⟩:=hc.below hb hbw;obtain⟨d0,d1,d2,d3⟩:=hd.below hb hbw';clear hc hd hs ht;have HB:=Zab hb;clear hb;go_wp2
      go_region_with (go_at_call 102;refine (Zny _ _ ).mono ?_;rintro e w1 ⟨rfl,hb1⟩;have hB:Hd (Zw_ w w1):=(HB.o.drew).trans (hb1.mono HB.o.size);clear hb1)
      all_goals go_wp2
      all_goals go_roundw
      all_goals first
       | (case rel=>exact⟨k+1,by go_num,by omega,hB.o⟩)
       | (case measure=>simp [intOf];omega)
    . go_wp2
      go_ret;exact⟨rfl,hb⟩
theorem Tryz.info142:(prog.info? 142).map (fun i=>(i.zero,i.size,i.bytes))=some (some (.agg #[.string ⟨#[]⟩,.string ⟨#[]⟩,.int .i64 0,.int .i64 0]),4,48):=by kernel_rfl
def ZbM (wr:World) (B:Nat) (Xl:List Le) (k:Nat):Prop:=
 ∃ f,wr.rowIs B 142 (Xl.length*4) f/\∀ i (h:i < Xl.length),i < k->ZdU Xl[i]/\f (i*4)=.string Xl[i].tm/\f (i*4+1)=.string Xl[i].re/\f (i*4+2)=.int .i64 Xl[i].mo/\f (i*4+3)=.int .i64 Xl[i].fr
theorem ZbM.below (h:ZbM wr B Xl k) (hb:Below wr.heap.size wr w1):ZbM w1 B Xl k:=by
 obtain⟨f,hr,hall⟩:=h;refine⟨f,hr.of_block (hb.block B hr.lt),fun i hi hik=>?_⟩;obtain⟨hz,h0,h1,h2,h3⟩:=hall i hi hik;exact⟨hz,h0,h1,h2,h3⟩
theorem ZbM.free (h:ZbM wr B Xl k) (i:Nat):wr.frozen? ⟨B,i,none⟩=false:=by
 obtain⟨f,hr,_⟩:=h;exact hr.frozen i
theorem ZbM.there (h:ZbM wr B Xl k) (i:Nat) (hi:i < Xl.length*4):∃ v,wr.cell? ⟨B,i,none⟩=some v:=by
 obtain⟨f,hr,_⟩:=h;exact⟨_,hr.cell hi⟩
theorem ZbM.step (h:ZbM w1 B Xl k) (hk:k < Xl.length) (hz:ZdU Xl[k]) :
 ZbM ((((w1.setCell ⟨B,k*4,none⟩ (.string Xl[k].tm)).setCell ⟨B,k*4+1,none⟩ (.string Xl[k].re)).setCell ⟨B,k*4+2,none⟩ (.int .i64 Xl[k].mo)).setCell ⟨B,k*4+3,none⟩ (.int .i64 Xl[k].fr)) B Xl (k+1):=by
 obtain⟨f,hr,hall⟩:=h;refine⟨_,((((hr.set _ _).set _ _).set _ _).set _ _),fun i hi hik=>?_⟩
 by_cases e:i=k
 . subst e
   refine⟨hz,by simp,by simp,by simp,by simp⟩
 . obtain⟨hz',h0,h1,h2,h3⟩:=hall i hi (by omega)
   refine⟨hz',?_,?_,?_,?_⟩
   . rw [if_neg (by omega),if_neg (by omega),if_neg (by omega),if_neg (by omega)];exact h0
   . rw [if_neg (by omega),if_neg (by omega),if_neg (by omega),if_neg (by omega)];exact h1
   . rw [if_neg (by omega),if_neg (by omega),if_neg (by omega),if_neg (by omega)];exact h2
   . rw [if_neg (by omega),if_neg (by omega),if_neg (by omega),if_neg (by omega)];exact h3
theorem ZbM.done (h:ZbM wr B Xl k) (hk:Xl.length<=k) (hne:Xl≠[]) (hm:Xl.length<=maxLen):Zbx B wr (.slice (some ⟨B,0,none⟩) Xl.length Xl.length) Xl:=by
 obtain⟨f,hr,hall⟩:=h;refine Or.inr ⟨B,0,Xl.length,rfl,hne,hm,hr.lt,Nat.le_refl _,Nat.le_refl _,fun i hi=>?_⟩;obtain⟨hz,h0,h1,h2,h3⟩:=hall i hi (by omega);rw [Nat.zero_add];exact⟨hz,⟨by rw [hr.cell (by omega),h0],by rw [hr.cell (by omega),h1],by rw [hr.cell (by omega),h2],by rw [hr.cell (by omega),h3]⟩⟩
theorem ZbM.new (w:World) (Xl:List Le) (z:Array Value):ZbM (w.alloc (.cells (madeCells z (Xl.length*4)) 142)) w.heap.size Xl 0:=by
 refine⟨fun i=>(madeCells z (Xl.length*4)).getD i default,?_,fun i _ h=>by omega⟩;have:=World.rowIs_alloc w (madeCells z (Xl.length*4)) 142 (fun i=>(madeCells z (Xl.length*4)).getD i default) (fun i hi=>by simp [Array.getD,hi])
 rwa [size_madeCells] at this
theorem ZoI (lo:Nat) (v:Value) (Xl:List Le) (w:World) (hv:Zbx lo w v Xl) (hn:Zej Xl) :
 Calls prog 41 #[v] w fun e w'=>∃ v',e=.returned v'/\Zw_ w w'/\Zbx w.heap.size w' v' Xl:=by
 obtain⟨i0,hi,hz0,hz1,hz2⟩:=info_parts Tryz.info142;have hn1:=hn.1;clear hn
 by_cases hL:Xl=[]
 . subst hL
   obtain⟨a,cap,rfl⟩:=hv.form;clear hv
   have hmk:∀ u:World,(Instr.makeSlice 45 (.int .i64 0) (.int .i64 0)).run prog u=.ok (.slice (some ⟨u.heap.size,0,none⟩) 0 0) (u.alloc (.cells (madeCells (Value.cells (.agg #[.string ⟨#[]⟩,.string ⟨#[]⟩,.int .i64 0,.int .i64 0])) 0) 142)):=fun u=>by
    have h:=run_make (P:=prog) u 45 142 i0 _ underlying45 hi hz0 .i64 .i64 0 0 (by omega) (by omega) (by omega) (by omega)
    simpa [hz1] using h
   go_enter func41,ntmps41;go_wp2
   go_loop [4] (fun i=>i=.int .i64 0) (fun _=>0)
   case atStart=>rfl
   case round=>
    subst hrel;go_wp2;go_ret;exact⟨_,rfl,Zb_.alloc Zl_ _,Or.inl ⟨_,_,rfl,rfl⟩⟩
 . obtain⟨b,off,cap,rfl,hm,hbw,_,hc⟩:=hv.full hL
   clear hv;have HM:Hd (Xl.length<=maxLen):=hm;unfold maxLen at hm
   have hmk:∀ u:World,(Instr.makeSlice 45 (.int .i64 (Xl.length:Int)) (.int .i64 (Xl.length:Int))).run prog u=.ok (.slice (some ⟨u.heap.size,0,none⟩) Xl.length Xl.length) (u.alloc (.cells (madeCells (Value.cells (.agg #[.string ⟨#[]⟩,.string ⟨#[]⟩,.int .i64 0,.int .i64 0])) (Xl.length*4)) 142)):=fun u=>by
    have h:=run_make (P:=prog) u 45 142 i0 _ underlying45 hi hz0 .i64 .i64 Xl.length Xl.length (by omega) (by omega) (by rw [hz2];omega) (by omega);rw [hz1] at h
    simpa using h
   clear hi hz0 hz1 hz2;go_enter func41,ntmps41;go_wp2;clear hmk
   go_loopw [4] (fun i wr=>∃ k:Nat,i=.int .i64 k/\k<=Xl.length/\Zw_ w wr/\ZbM wr w.heap.size Xl k) (fun i _=>Xl.length - (intOf i).toNat)
   case atStart=>exact⟨0,rfl,by omega,Zb_.alloc Zl_ _,ZbM.new w Xl _⟩
   case round=>
    obtain⟨k,rfl,hk,hb,hf⟩:=hrel
    by_cases hlt:k < Xl.length
    . obtain⟨hs,hc⟩:=hc k hlt
      obtain⟨c0,c1,c2,c3⟩:=hc.below hb hbw
      have hBl:w.heap.size < wr.heap.size:=by
       obtain⟨_,hr,_⟩:=hf;exact hr.lt
      clear hc;go_wp2_with fail;refine (Zlo _ _ ).mono ?_;rintro e w1 ⟨rfl,hb1⟩;have hf1:=hf.below hb1;have HST:=Zab (hf1.step hlt hs );have hB:Hd (Zw_ w w1):=hb.trans (hb1.mono hb.size);have hfr:=hf1.free;obtain⟨o0,ho0⟩:=hf1.there (k*4) (by omega);obtain⟨o1,ho1⟩:=hf1.there (k*4+1) (by omega);obtain⟨o2,ho2⟩:=hf1.there (k*4+2) (by omega);obtain⟨o3,ho3⟩:=hf1.there (k*4+3) (by omega);clear hf hf1 hb1 hb c0 c1 c2 c3;go_wp2;go_roundw
      . 
       exact⟨k+1,by go_num,by omega,((((hB.o.setCell Zl_ _).setCell Zl_ _).setCell Zl_ _).setCell Zl_ _),HST.o⟩
      . simp [intOf];omega
    . go_wp2
      go_ret;exact⟨_,rfl,hb,hf.done (by omega) hL HM.o⟩
end
section
structure Bk where
 now:Int
 tick:Int
 given:Int
 os:List Ob
 gs:List Gr
 ls:List Le
 ps:List Pu
structure ZaX (lo:Nat) (w:World) (ov gv lv pv:Value) (B:Bk):Prop where
 obs:Zbg lo w ov B.os
 grs:ZbK lo w gv B.gs
 les:Zbx lo w lv B.ls
 pus:ZbV lo w pv B.ps
theorem ZaX.below {lo:Nat}{w w':World}{ov gv lv pv:Value}{B:Bk} (h:ZaX lo w ov gv lv pv B) (hb:Zw_ w w'):ZaX lo w' ov gv lv pv B:=
 ⟨h.obs.below hb,h.grs.below hb,h.les.below hb,h.pus.below hb⟩
theorem ZaX.mono {lo lo':Nat}{w:World}{ov gv lv pv:Value}{B:Bk} (h:ZaX lo w ov gv lv pv B) (hl:lo'<=lo):ZaX lo' w ov gv lv pv B:=
 ⟨h.obs.mono hl,h.grs.mono hl,h.les.mono hl,h.pus.mono hl⟩
def Zbj (B:Bk):Prop:=Zbv B.os/\Zei B.gs/\Zej B.ls/\Zek B.ps
section
variable (lo:Nat) (ov gv lv pv:Value) (B:Bk) (w:World)
theorem ZmE (left:Int) (h0:0<=left) (h1:left<=1048576) (h:ZaX lo w ov gv lv pv B) :
 Calls prog 8 #[.agg #[.int .i64 B.now,.int .i64 B.tick,.int .i64 B.given,ov,gv,lv,pv],.int .i64 left] w
  fun e w'=>∃ r:Int,e=.returned (.int .i64 r)/\Zw_ w w'/\-1<=r/\r<=left/\(0<=r->Zbj B):=by
 have HL:=Zab h;obtain⟨a0,k0,rfl⟩:=h.obs.form;obtain⟨a1,k1,rfl⟩:=h.grs.form;obtain⟨a2,k2,rfl⟩:=h.les.form;obtain⟨a3,k3,rfl⟩:=h.pus.form;clear h;go_enter func8,ntmps8;go_wp2_with fail;generalize hWa:w.alloc _=Wa;have HB0:Hd (Zw_ w Wa):=by rw [<- hWa];exact Zac w _
 have HX0:Hd (Box Wa w.heap.size #[.int .i64 B.now,.int .i64 B.tick,.int .i64 B.given,.slice a0 B.os.length k0,.slice a1 B.gs.length k1,.slice a2 B.ls.length k2,.slice a3 B.ps.length k3]):=by rw [<- hWa];exact Box.new _ _ _ _ rfl
 clear hWa;have hr0:(0:Int)<=left:=h0;refine (Zow lo _ B.os _ _ (by omega) (by omega) (HL.o.below HB0.o).obs).mono ?_;rintro e w1 ⟨r1,rfl,hb1,p1,q1,s1⟩;have HX1:=Zab (HX0.o.on hb1);have HB1:Hd (Zw_ w w1):=HB0.o.trans (hb1.mono HB0.o.size);have Q1:=Zab s1;clear hb1 s1 HB0 HX0
 by_cases hn1:r1 < 0
 . go_wp2
   go_ret;exact⟨-1,rfl,HB1.o,by omega,by omega,fun h=>by omega⟩
 have c1:=HX1.o.cell 4;simp at c1;go_wp2_with fail;clear c1;refine (Zor lo _ B.gs _ _ (by omega) (by omega) (HL.o.below HB1.o).grs).mono ?_;rintro e w2 ⟨r2,rfl,hb2,p2,q2,s2⟩;have HX2:=Zab (HX1.o.on hb2);have HB2:Hd (Zw_ w w2):=HB1.o.trans (hb2.mono HB1.o.size);have Q2:=Zab s2;clear hb2 s2 HB1 HX1
 by_cases hn2:r2 < 0
 . go_wp2
   go_ret;exact⟨-1,rfl,HB2.o,by omega,by omega,fun h=>by omega⟩
 have c2:=HX2.o.cell 5;simp at c2;go_wp2_with fail;clear c2;refine (Zot lo _ B.ls _ _ (by omega) (by omega) (HL.o.below HB2.o).les).mono ?_;rintro e w3 ⟨r3,rfl,hb3,p3,q3,s3⟩;have HX3:=Zab (HX2.o.on hb3);have HB3:Hd (Zw_ w w3):=HB2.o.trans (hb3.mono HB2.o.size);have Q3:=Zab s3;clear hb3 s3 HB2 HX2
 by_cases hn3:r3 < 0
 . go_wp2
   go_ret;exact⟨-1,rfl,HB3.o,by omega,by omega,fun h=>by omega⟩
 have c3:=HX3.o.cell 6;simp at c3;go_wp2_with fail;clear c3;refine (Zox lo _ B.ps _ _ (by omega) (by omega) (HL.o.below HB3.o).pus).mono ?_;rintro e w4 ⟨r4,rfl,hb4,p4,q4,s4⟩;have HX4:=Zab (HX3.o.on hb4);have HB4:Hd (Zw_ w w4):=HB3.o.trans (hb4.mono HB3.o.size);have Q4:=Zab s4;clear hb4 s4 HB3 HX3
 by_cases hn4:r4 < 0
 . go_wp2
   go_ret;exact⟨-1,rfl,HB4.o,by omega,by omega,fun h=>by omega⟩
 go_wp2;go_ret;exact⟨_,rfl,HB4.o,by omega,by omega,fun h=>⟨Q1.o (by omega),Q2.o (by omega),Q3.o (by omega),Q4.o (by omega)⟩⟩
theorem Zj5 (lo':Nat) (ov' gv' lv' pv':Value) (h:ZaX lo w ov gv lv pv B) (h':ZaX lo' w ov' gv' lv' pv' B) :
 Calls prog 15 #[.agg #[.int .i64 B.now,.int .i64 B.tick,.int .i64 B.given,ov,gv,lv,pv],.agg #[.int .i64 B.now,.int .i64 B.tick,.int .i64 B.given,ov',gv',lv',pv']] w fun e w'=>e=.returned (.bool true)/\Zw_ w w':=by
 have HL:=Zab h;have HR:=Zab h';obtain⟨a0,k0,rfl⟩:=h.obs.form;obtain⟨a1,k1,rfl⟩:=h.grs.form;obtain⟨a2,k2,rfl⟩:=h.les.form;obtain⟨a3,k3,rfl⟩:=h.pus.form;obtain⟨d0,md0,rfl⟩:=h'.obs.form;obtain⟨d1,md1,rfl⟩:=h'.grs.form;obtain⟨d2,md2,rfl⟩:=h'.les.form;obtain⟨d3,md3,rfl⟩:=h'.pus.form;clear h h';go_enter func15,ntmps15;go_wp2_with fail;generalize hWa:(World.alloc (w.alloc _) _)=Wa;have HB0:Hd (Zw_ w Wa):=by rw [<- hWa];exact (Zac w _).alloc (by simp) _
 have HX0:Hd (Box Wa w.heap.size #[.int .i64 B.now,.int .i64 B.tick,.int .i64 B.given,.slice a0 B.os.length k0,.slice a1 B.gs.length k1,.slice a2 B.ls.length k2,.slice a3 B.ps.length k3]):=by rw [<- hWa];exact (Box.new _ _ _ _ rfl).on (Zac _ _)
 have HY0:Hd (Box Wa (w.heap.size+1) #[.int .i64 B.now,.int .i64 B.tick,.int .i64 B.given,.slice d0 B.os.length md0,.slice d1 B.gs.length md1,.slice d2 B.ls.length md2,.slice d3 B.ps.length md3]):=by rw [<- hWa];exact Box.new _ _ _ _ (by simp)
 clear hWa;refine (ZlL lo lo' _ _ B.os _ (HL.o.below HB0.o).obs (HR.o.below HB0.o).obs).mono ?_;rintro e w1 ⟨rfl,hb1⟩;have HX1:=Zab (HX0.o.on hb1);have HY1:=Zab (HY0.o.on hb1);have HB1:Hd (Zw_ w w1):=HB0.o.trans (hb1.mono HB0.o.size);clear hb1 HB0 HX0 HY0;have c1:=HX1.o.cell 4;have e1:=HY1.o.cell 4;simp at c1 e1;go_wp2_with fail;clear c1 e1;refine (ZlG lo lo' _ _ B.gs _ (HL.o.below HB1.o).grs (HR.o.below HB1.o).grs).mono ?_;rintro e w2 ⟨rfl,hb2⟩;have HX2:=Zab (HX1.o.on hb2);have HY2:=Zab (HY1.o.on hb2);have HB2:Hd (Zw_ w w2):=HB1.o.trans (hb2.mono HB1.o.size);clear hb2 HB1 HX1 HY1;have c2:=HX2.o.cell 5;have e2:=HY2.o.cell 5;simp at c2 e2;go_wp2_with fail;clear c2 e2;refine (ZlI lo lo' _ _ B.ls _ (HL.o.below HB2.o).les (HR.o.below HB2.o).les).mono ?_;rintro e w3 ⟨rfl,hb3⟩
 have HX3:=Zab (HX2.o.on hb3);have HY3:=Zab (HY2.o.on hb3);have HB3:Hd (Zw_ w w3):=HB2.o.trans (hb3.mono HB2.o.size);clear hb3 HB2 HX2 HY2;have c3:=HX3.o.cell 6;have e3:=HY3.o.cell 6;simp at c3 e3;go_wp2_with fail;clear c3 e3;refine (ZlM lo lo' _ _ B.ps _ (HL.o.below HB3.o).pus (HR.o.below HB3.o).pus).mono ?_;rintro e w4 ⟨rfl,hb4⟩;have HX4:=Zab (HX3.o.on hb4);have HY4:=Zab (HY3.o.on hb4);have HB4:Hd (Zw_ w w4):=HB3.o.trans (hb4.mono HB3.o.size);clear hb4 HB3 HX3 HY3;go_wp2;go_ret;exact⟨rfl,HB4.o⟩
theorem ZfP (h:ZaX lo w ov gv lv pv B) (hn:Zbj B) :
 Calls prog 11 #[.agg #[.int .i64 B.now,.int .i64 B.tick,.int .i64 B.given,ov,gv,lv,pv]] w
  fun e w'=>∃ b0 m0 b1 m1 b2 m2 b3 m3,e=.returned (.agg #[.int .i64 B.now,.int .i64 B.tick,.int .i64 B.given,.slice b0 B.os.length m0,.slice b1 B.gs.length m1,.slice b2 B.ls.length m2,.slice b3 B.ps.length m3])/\Zw_ w w'/\
   ZaX w.heap.size w' (.slice b0 B.os.length m0) (.slice b1 B.gs.length m1) (.slice b2 B.ls.length m2) (.slice b3 B.ps.length m3) B:=by
 have HL:=Zab h;obtain⟨a0,k0,rfl⟩:=h.obs.form;obtain⟨a1,k1,rfl⟩:=h.grs.form;obtain⟨a2,k2,rfl⟩:=h.les.form;obtain⟨a3,k3,rfl⟩:=h.pus.form;obtain⟨hn0,hn1,hn2,hn3⟩:=hn;clear h;go_enter func11,ntmps11;go_wp2_with fail
 obtain⟨wz,hwz,HX0,HR0,HO0,HB0⟩:∃ wz,wz=((w.alloc (.cells #[.int .i64 B.now,.int .i64 B.tick,.int .i64 B.given,.slice a0 B.os.length k0,.slice a1 B.gs.length k1,.slice a2 B.ls.length k2,.slice a3 B.ps.length k3] 32)).alloc (.cells #[.int .i64 0,.int .i64 0,.int .i64 0,.slice none 0 0,.slice none 0 0,.slice none 0 0,.slice none 0 0] 48)).alloc (.cells #[.int .i64 B.now,.int .i64 B.tick,.int .i64 B.given,.slice none 0 0,.slice none 0 0,.slice none 0 0,.slice none 0 0] 48)/\
  Hd (Box wz w.heap.size #[.int .i64 B.now,.int .i64 B.tick,.int .i64 B.given,.slice a0 B.os.length k0,.slice a1 B.gs.length k1,.slice a2 B.ls.length k2,.slice a3 B.ps.length k3])/\Hd (Box wz (w.heap.size+1) #[.int .i64 0,.int .i64 0,.int .i64 0,.slice none 0 0,.slice none 0 0,.slice none 0 0,.slice none 0 0])/\
  Hd (Box wz (w.heap.size+1+1) #[.int .i64 B.now,.int .i64 B.tick,.int .i64 B.given,.slice none 0 0,.slice none 0 0,.slice none 0 0,.slice none 0 0])/\Hd (Zw_ w wz):=
  ⟨_,rfl,((Box.new w _ _ _ rfl).on (Zac _ _)).on (Zac _ _),(Box.new _ _ _ _ (by simp)).on (Zac _ _),Box.new _ _ _ _ (by simp),((Zac _ _).trans ((Zac _ _).mono (by simp))).trans ((Zac _ _).mono (by simp;omega))⟩
 rw [<- hwz];clear hwz;generalize wz=v0 at*;have hz0:w.heap.size+3<=v0.heap.size:=by have:=HO0.o.lt;omega
 refine (ZoK lo _ B.os _ (HL.o.below HB0.o).obs hn0).mono ?_;rintro e w0 ⟨u0,rfl,hb0,hs0⟩;obtain⟨b0,m0,rfl⟩:=hs0.form;have GX:=Zab (HX0.o.on hb0);have GR:=Zab (HR0.o.on hb0);have GO:=Zab (HO0.o.on hb0);have GB:=Zab (HB0.o.trans (hb0.mono HB0.o.size));have GN:Hd (Zbg (w.heap.size+3) w0 (.slice b0 B.os.length m0) B.os):=hs0.mono hz0;clear hb0 hs0 HX0 HR0 HO0 HB0 hz0;have o0:=GO.o.cell 3;have f0:=GO.o.free 3;have x1:=GX.o.cell 4;simp at o0 f0 x1;go_wp2_with fail;clear o0 f0 x1
 obtain⟨v1,hwq,HX1,HR1,HO1,HB1,HS0⟩:∃ wq,wq=w0.setCell ⟨w.heap.size+1+1,3,none⟩ (.slice b0 B.os.length m0)/\
  Hd (Box wq w.heap.size #[.int .i64 B.now,.int .i64 B.tick,.int .i64 B.given,.slice a0 B.os.length k0,.slice a1 B.gs.length k1,.slice a2 B.ls.length k2,.slice a3 B.ps.length k3])/\Hd (Box wq (w.heap.size+1) #[.int .i64 0,.int .i64 0,.int .i64 0,.slice none 0 0,.slice none 0 0,.slice none 0 0,.slice none 0 0])/\
  Hd (Box wq (w.heap.size+1+1) #[.int .i64 B.now,.int .i64 B.tick,.int .i64 B.given,.slice b0 B.os.length m0,.slice none 0 0,.slice none 0 0,.slice none 0 0])/\Hd (Zw_ w wq)/\Hd (Zbg (w.heap.size+3) wq (.slice b0 B.os.length m0) B.os):=
  ⟨_,rfl,GX.o.setFar (by simp only [];omega) _,GR.o.setFar (by simp only [];omega) _,GO.o.set (k:=3) (.slice b0 B.os.length m0) (by simp),GB.o.setCell (by simp only [];omega) _,GN.o.set (by simp only [];omega) _⟩
 rw [<- hwq];clear hwq GX GR GO GB GN;have hz1:w.heap.size+3<=v1.heap.size:=by have:=HO1.o.lt;omega
 refine (ZoH lo _ B.gs _ (HL.o.below HB1.o).grs hn1).mono ?_;rintro e w1 ⟨u1,rfl,hb1,hs1⟩;obtain⟨b1,m1,rfl⟩:=hs1.form;have GX:=Zab (HX1.o.on hb1);have GR:=Zab (HR1.o.on hb1);have GO:=Zab (HO1.o.on hb1);have GB:=Zab (HB1.o.trans (hb1.mono HB1.o.size));have GN:Hd (ZbK (w.heap.size+3) w1 (.slice b1 B.gs.length m1) B.gs):=hs1.mono hz1;have G0:=Zab (HS0.o.below hb1);clear hb1 hs1 HX1 HR1 HO1 HB1 hz1 HS0;have o0:=GO.o.cell 4;have f0:=GO.o.free 4;have x1:=GX.o.cell 5;simp at o0 f0 x1;go_wp2_with fail;clear o0 f0 x1
 obtain⟨v2,hwq,HX2,HR2,HO2,HB2,HS1,HS0⟩:∃ wq,wq=w1.setCell ⟨w.heap.size+1+1,4,none⟩ (.slice b1 B.gs.length m1)/\
  Hd (Box wq w.heap.size #[.int .i64 B.now,.int .i64 B.tick,.int .i64 B.given,.slice a0 B.os.length k0,.slice a1 B.gs.length k1,.slice a2 B.ls.length k2,.slice a3 B.ps.length k3])/\Hd (Box wq (w.heap.size+1) #[.int .i64 0,.int .i64 0,.int .i64 0,.slice none 0 0,.slice none 0 0,.slice none 0 0,.slice none 0 0])/\
  Hd (Box wq (w.heap.size+1+1) #[.int .i64 B.now,.int .i64 B.tick,.int .i64 B.given,.slice b0 B.os.length m0,.slice b1 B.gs.length m1,.slice none 0 0,.slice none 0 0])/\Hd (Zw_ w wq)/\Hd (ZbK (w.heap.size+3) wq (.slice b1 B.gs.length m1) B.gs)/\Hd (Zbg (w.heap.size+3) wq (.slice b0 B.os.length m0) B.os):=
  ⟨_,rfl,GX.o.setFar (by simp only [];omega) _,GR.o.setFar (by simp only [];omega) _,GO.o.set (k:=4) (.slice b1 B.gs.length m1) (by simp),GB.o.setCell (by simp only [];omega) _,GN.o.set (by simp only [];omega) _,G0.o.set (by simp only [];omega) _⟩
 rw [<- hwq];clear hwq GX GR GO GB GN G0;have hz2:w.heap.size+3<=v2.heap.size:=by have:=HO2.o.lt;omega
 refine (ZoI lo _ B.ls _ (HL.o.below HB2.o).les hn2).mono ?_;rintro e w2 ⟨u2,rfl,hb2,hs2⟩;obtain⟨b2,m2,rfl⟩:=hs2.form;have GX:=Zab (HX2.o.on hb2);have GR:=Zab (HR2.o.on hb2);have GO:=Zab (HO2.o.on hb2);have GB:=Zab (HB2.o.trans (hb2.mono HB2.o.size));have GN:Hd (Zbx (w.heap.size+3) w2 (.slice b2 B.ls.length m2) B.ls):=hs2.mono hz2;have G0:=Zab (HS0.o.below hb2);have G1:=Zab (HS1.o.below hb2);clear hb2 hs2 HX2 HR2 HO2 HB2 hz2 HS0 HS1;have o0:=GO.o.cell 5;have f0:=GO.o.free 5;have x1:=GX.o.cell 6;simp at o0 f0 x1;go_wp2_with fail;clear o0 f0 x1
 obtain⟨v3,hwq,HX3,HR3,HO3,HB3,HS2,HS0,HS1⟩:∃ wq,wq=w2.setCell ⟨w.heap.size+1+1,5,none⟩ (.slice b2 B.ls.length m2)/\
  Hd (Box wq w.heap.size #[.int .i64 B.now,.int .i64 B.tick,.int .i64 B.given,.slice a0 B.os.length k0,.slice a1 B.gs.length k1,.slice a2 B.ls.length k2,.slice a3 B.ps.length k3])/\Hd (Box wq (w.heap.size+1) #[.int .i64 0,.int .i64 0,.int .i64 0,.slice none 0 0,.slice none 0 0,.slice none 0 0,.slice none 0 0])/\
  Hd (Box wq (w.heap.size+1+1) #[.int .i64 B.now,.int .i64 B.tick,.int .i64 B.given,.slice b0 B.os.length m0,.slice b1 B.gs.length m1,.slice b2 B.ls.length m2,.slice none 0 0])/\Hd (Zw_ w wq)/\Hd (Zbx (w.heap.size+3) wq (.slice b2 B.ls.length m2) B.ls)/\Hd (Zbg (w.heap.size+3) wq (.slice b0 B.os.length m0) B.os)/\Hd (ZbK (w.heap.size+3) wq (.slice b1 B.gs.length m1) B.gs):=
  ⟨_,rfl,GX.o.setFar (by simp only [];omega) _,GR.o.setFar (by simp only [];omega) _,GO.o.set (k:=5) (.slice b2 B.ls.length m2) (by simp),GB.o.setCell (by simp only [];omega) _,GN.o.set (by simp only [];omega) _,G0.o.set (by simp only [];omega) _,G1.o.set (by simp only [];omega) _⟩
 rw [<- hwq];clear hwq GX GR GO GB GN G0 G1;have hz3:w.heap.size+3<=v3.heap.size:=by have:=HO3.o.lt;omega
 refine (ZoL lo _ B.ps _ (HL.o.below HB3.o).pus hn3).mono ?_;rintro e w3 ⟨u3,rfl,hb3,hs3⟩;obtain⟨b3,m3,rfl⟩:=hs3.form;have GX:=Zab (HX3.o.on hb3);have GR:=Zab (HR3.o.on hb3);have GO:=Zab (HO3.o.on hb3);have GB:=Zab (HB3.o.trans (hb3.mono HB3.o.size));have GN:Hd (ZbV (w.heap.size+3) w3 (.slice b3 B.ps.length m3) B.ps):=hs3.mono hz3;have G0:=Zab (HS0.o.below hb3);have G1:=Zab (HS1.o.below hb3);have G2:=Zab (HS2.o.below hb3);clear hb3 hs3 HX3 HR3 HO3 HB3 hz3 HS0 HS1 HS2;have o0:=GO.o.cell 0;have o1:=GO.o.cell 1;have o2:=GO.o.cell 2;have o3:=GO.o.cell 3;have o4:=GO.o.cell 4;have o5:=GO.o.cell 5;have o6:=GO.o.cell 6;have f6:=GO.o.free 6;have r0:=GR.o.cell 0;have g0:=GR.o.free 0;have r1:=GR.o.cell 1;have g1:=GR.o.free 1;have r2:=GR.o.cell 2;have g2:=GR.o.free 2;have r3:=GR.o.cell 3;have g3:=GR.o.free 3;have r4:=GR.o.cell 4
 have g4:=GR.o.free 4;have r5:=GR.o.cell 5;have g5:=GR.o.free 5;have r6:=GR.o.cell 6;have g6:=GR.o.free 6;simp at o0 o1 o2 o3 o4 o5 o6 r0 r1 r2 r3 r4 r5 r6;go_wp2;refine bodyPost_ret (v:=.agg #[.int .i64 B.now,.int .i64 B.tick,.int .i64 B.given,.slice b0 B.os.length m0,.slice b1 B.gs.length m1,.slice b2 B.ls.length m2,.slice b3 B.ps.length m3]) (by simp [results,results11,go_sem,r0,r1,r2,r3,r4,r5,r6]) rfl ⟨_,_,_,_,_,_,_,_,rfl,?_,?_,?_,?_,?_⟩
 . repeat (refine Below.setCell ?_ (by simp only [];omega) _)
   exact GB.o
 . refine Zbg.mono (lo:=w.heap.size+3) ?_ (by omega)
   repeat (refine Zbg.set ?_ (by simp only [];omega) _)
   exact G0.o
 . refine ZbK.mono (lo:=w.heap.size+3) ?_ (by omega)
   repeat (refine ZbK.set ?_ (by simp only [];omega) _)
   exact G1.o
 . refine Zbx.mono (lo:=w.heap.size+3) ?_ (by omega)
   repeat (refine Zbx.set ?_ (by simp only [];omega) _)
   exact G2.o
 . refine ZbV.mono (lo:=w.heap.size+3) ?_ (by omega)
   repeat (refine ZbV.set ?_ (by simp only [];omega) _)
   exact GN.o
end
end
variable {b o c0 c1 lo hi off n lo' hi' m1:Nat} {w w' v wr v':World} {x y:Ob} {Xl:List Ob} {vv0 vv1:Value}
def Zfz (b o c0 c1:Nat) (w:World) (x:Ob):Prop:=ZcO x/\∃ (vv0 vv1:Value) (m1:Nat),c0<=m1/\m1<=c1/\Zcb w b o x vv0 vv1/\Zad c0 m1 w vv0 x.vs/\Zad m1 c1 w vv1 x.hs
theorem Zfz.near {o1 d0 d1:Nat} (h:Zfz b o c0 c1 w x) (hn:ZbI b o1 7 d0 d1 w w') (ho:o+7<=o1\/o1+7<=o) (hi:c1<=d0\/d1<=c0) (hb:b < c0\/c1<=b):Zfz b o c0 c1 w' x:=by
 obtain⟨hs,vv0,vv1,m1,q0,q1,hc,l0,l1⟩:=h;obtain⟨h0,h1,h2,h3,h4,h5,h6⟩:=hc;have e:∀ t,t < 7->w'.cell? ⟨b,o+t,none⟩=w.cell? ⟨b,o+t,none⟩:=fun t ht=>hn.cell _ (by omega)
 have e0:w'.cell? ⟨b,o,none⟩=w.cell? ⟨b,o,none⟩:=hn.cell _ (by omega);exact⟨hs,vv0,vv1,m1,q0,q1,⟨e0.trans h0,(e 1 (by omega)).trans h1,(e 2 (by omega)).trans h2,(e 3 (by omega)).trans h3,(e 4 (by omega)).trans h4,(e 5 (by omega)).trans h5,(e 6 (by omega)).trans h6⟩,l0.near hn (by omega) (by omega),l1.near hn (by omega) (by omega)⟩
theorem Zfz.touch (h:Zfz b o c0 c1 w x) (ht:Zag lo hi w w') (hlt:b < w.heap.size) (hb:b < lo\/hi<=b) (hi':c1<=lo\/hi<=c0):Zfz b o c0 c1 w' x:=by
 obtain⟨hs,vv0,vv1,m1,q0,q1,hc,l0,l1⟩:=h;obtain⟨h0,h1,h2,h3,h4,h5,h6⟩:=hc;exact⟨hs,vv0,vv1,m1,q0,q1,⟨(ht.cell (p:=⟨b,o,none⟩) hlt hb).trans h0,(ht.cell (p:=⟨b,o+1,none⟩) hlt hb).trans h1,(ht.cell (p:=⟨b,o+2,none⟩) hlt hb).trans h2,(ht.cell (p:=⟨b,o+3,none⟩) hlt hb).trans h3,(ht.cell (p:=⟨b,o+4,none⟩) hlt hb).trans h4,(ht.cell (p:=⟨b,o+5,none⟩) hlt hb).trans h5,(ht.cell (p:=⟨b,o+6,none⟩) hlt hb).trans h6⟩,l0.touch ht (by omega),l1.touch ht (by omega)⟩
theorem Zfz.below (h:Zfz b o c0 c1 w x) (ht:Zw_ w w') (hlt:b < w.heap.size):Zfz b o c0 c1 w' x:=by
 obtain⟨hs,vv0,vv1,m1,q0,q1,hc,l0,l1⟩:=h;obtain⟨h0,h1,h2,h3,h4,h5,h6⟩:=hc;exact⟨hs,vv0,vv1,m1,q0,q1,⟨(ht.cell (p:=⟨b,o,none⟩) hlt).trans h0,(ht.cell (p:=⟨b,o+1,none⟩) hlt).trans h1,(ht.cell (p:=⟨b,o+2,none⟩) hlt).trans h2,(ht.cell (p:=⟨b,o+3,none⟩) hlt).trans h3,(ht.cell (p:=⟨b,o+4,none⟩) hlt).trans h4,(ht.cell (p:=⟨b,o+5,none⟩) hlt).trans h5,(ht.cell (p:=⟨b,o+6,none⟩) hlt).trans h6⟩,l0.below ht,l1.below ht⟩
structure Ze4 (lo hi:Nat) (w:World) (b off n:Nat) (c:Nat->Nat×Nat) (X:Nat->Ob):Prop where
 lt:b < w.heap.size
 low:lo<=b
 bh:b < hi
 seg:∀ i,i < n->lo<=(c i).1/\(c i).2<=hi/\(b < (c i).1\/(c i).2<=b)
 mono:∀ i j,i < j->j < n->(c i).2<=(c j).1
 frz:∀ i,w.frozen? ⟨b,i,none⟩=false
 row:∀ i,i < n->Zfz b (off+i*7) (c i).1 (c i).2 w (X i)
theorem Ze4.near {c:Nat->Nat×Nat}{X:Nat->Ob} (h:Ze4 lo hi w b off n c X) {j:Nat} (hj:j < n) (hn:ZbI b (off+j*7) 7 (c j).1 (c j).2 w w') {x:Ob} (hx:Zfz b (off+j*7) (c j).1 (c j).2 w' x):Ze4 lo hi w' b off n c (fun i=>if i=j then x else X i):=by
 refine⟨Zk_ h.lt hn.size,h.low,h.bh,h.seg,h.mono,fun i=>(hn.frz i).trans (h.frz i),fun i hi'=>?_⟩
 by_cases e:i=j
 . subst e;rw [if_pos rfl];exact hx
 . rw [if_neg e]
   refine (h.row i hi').near hn (by omega) ?_ (h.seg i hi').2.2
   rcases Nat.lt_or_ge i j with hij | hij
   . exact Or.inl (h.mono i j hij hj)
   . exact Or.inr (h.mono j i (by omega) hi')
theorem Ze4.touch {c:Nat->Nat×Nat}{X:Nat->Ob} (h:Ze4 lo hi w b off n c X) (ht:Zag lo' hi' w w') (ho:hi<=lo'\/hi'<=lo):Ze4 lo hi w' b off n c X:=by
 have h1:=h.low;have h2:=h.bh;refine⟨Zk_ h.lt ht.size,h.low,h.bh,h.seg,h.mono,fun i=>(ht.frozen (p:=⟨b,i,none⟩) h.lt (by simp only [];omega)).trans (h.frz i),fun i hi'=>?_⟩;have h5:=h.seg i hi';exact (h.row i hi').touch ht h.lt (by omega) (by omega)
theorem Ze4.below {c:Nat->Nat×Nat}{X:Nat->Ob} (h:Ze4 lo hi w b off n c X) (ht:Zw_ w w'):Ze4 lo hi w' b off n c X:=
 ⟨Zk_ h.lt ht.size,h.low,h.bh,h.seg,h.mono,fun i=>(ht.frozen (p:=⟨b,i,none⟩) h.lt).trans (h.frz i),fun i hi'=>(h.row i hi').below ht h.lt⟩
theorem Ze4.to {c:Nat->Nat×Nat}{X Y:Nat->Ob} (h:Ze4 lo hi w b off n c X) (e:∀ i,i < n->X i=Y i):Ze4 lo hi w b off n c Y:=
 ⟨h.lt,h.low,h.bh,h.seg,h.mono,h.frz,fun i hi'=>e i hi' ▸ h.row i hi'⟩
def ZbJ (lo hi:Nat) (w:World) (v:Value) (Xl:List Ob):Prop:=
 (∃ (a:Option Addr) (cap:Nat),v=.slice a 0 cap/\Xl=[])\/
 ∃ (b off cap:Nat) (c:Nat->Nat×Nat) (X:Nat->Ob),v=.slice (some ⟨b,off,none⟩) Xl.length cap/\Xl≠[]/\Xl.length<=maxLen/\Xl.length<=cap/\(∀ i (h:i < Xl.length),X i=Xl[i])/\Ze4 lo hi w b off Xl.length c X
theorem ZbJ.touch {v:Value} (h:ZbJ lo hi w v Xl) (ht:Zag lo' hi' w w') (ho:hi<=lo'\/hi'<=lo):ZbJ lo hi w' v Xl:=by
 rcases h with h | ⟨b,off,cap,c,X,h1,h2,h3,h4,h5,h6⟩
 . exact Or.inl h
 . exact Or.inr ⟨b,off,cap,c,X,h1,h2,h3,h4,h5,h6.touch ht ho⟩
theorem ZbJ.below {v:Value} (h:ZbJ lo hi w v Xl) (ht:Zw_ w w'):ZbJ lo hi w' v Xl:=by
 rcases h with h | ⟨b,off,cap,c,X,h1,h2,h3,h4,h5,h6⟩
 . exact Or.inl h
 . exact Or.inr ⟨b,off,cap,c,X,h1,h2,h3,h4,h5,h6.below ht⟩
theorem ZbJ.form {v:Value} (h:ZbJ lo hi w v Xl):∃ a cap,v=.slice a Xl.length cap:=by
 rcases h with ⟨a,cap,h,rfl⟩ | ⟨b,off,cap,c,X,h1,_⟩
 . exact⟨a,cap,h⟩
 . exact⟨_,cap,h1⟩
theorem ZbJ.at {v:Value} (h:ZbJ lo hi w v Xl):Zbg lo w v Xl:=by
 rcases h with h | ⟨b,off,cap,c,X,h1,h2,h3,h4,h5,h6⟩
 . exact Or.inl h
 . refine Or.inr ⟨b,off,cap,h1,h2,h3,h6.lt,h6.low,h4,fun i hi'=>?_⟩
   have hr:=h6.row i hi';have g0:=h6.seg i hi';rw [h5 i hi'] at hr;obtain⟨hs,vv0,vv1,m1,q0,q1,hc,l0,l1⟩:=hr;exact⟨hs,vv0,vv1,hc,(l0.in').mono (by omega),(l1.in').mono (by omega)⟩
def Zrs (k:Int) (x:Ob):Ob:=⟨mtB (k),mtB (k+1),mtB (k+1+1),Zfi (k+1+1+1) x.vs.length,((k+1+1+1+x.vs.length) % 3 == 0),Zfi (k+1+1+1+x.vs.length+1) x.hs.length,k+1+1+1+x.vs.length+1+x.hs.length⟩
def ZrW (x:Ob):Nat:=5+x.vs.length+x.hs.length
def Zde (Xl:List Ob) (i:Nat):Nat:=((Xl.take i).map ZrW).sum
def Zmi (k:Int) (Xl:List Ob):List Ob:=Xl.mapIdx (fun i x=>Zrs (k+(Zde Xl i:Int)) x)
theorem Zdn (k:Int) (Xl:List Ob):(Zmi k Xl).length=Xl.length:=by unfold Zmi;simp
theorem ZnW (k:Int) (Xl:List Ob) (i:Nat) (h:i < (Zmi k Xl).length) (h':i < Xl.length):(Zmi k Xl)[i]=Zrs (k+(Zde Xl i:Int)) Xl[i]:=List.getElem_mapIdx (f:=fun i x=>Zrs (k+(Zde Xl i:Int)) x) (h:=h)
theorem ZhU {i:Nat} (h:i < Xl.length):Zde Xl (i+1)=Zde Xl i+ZrW Xl[i]:=by
 unfold Zde;rw [List.take_succ_eq_append_getElem h,List.map_append,List.sum_append];simp
theorem Zlf (hn:Zbv Xl):∀ {i:Nat},i<=Xl.length->Zde Xl i<=i*3000000:=by
 intro i
 induction i with
 | zero=>intro _;simp [Zde]
 | succ i ih=>
  intro hi';have h1:=ih (by omega);rw [ZhU (by omega)]
  have h2:ZrW Xl[i]<=3000000:=by
   have hsm:=hn.2 i (by omega);unfold ZdW at hsm;unfold ZrW
   omega
  omega
structure ZeF (wr:World) (b o c0 c1 m1:Nat) (vv0 vv1:Value) (v:World) (y:Ob):Prop where
 near:ZbI b o 7 c0 c1 wr v
 bc:b < c0\/c1<=b
 q0:c0<=m1
 q1:m1<=c1
 cells:Zcb v b o y vv0 vv1
 l0:Zad c0 m1 v vv0 y.vs
 l1:Zad m1 c1 v vv1 y.hs
 frz:∀ i,v.frozen? ⟨b,i,none⟩=false
 lt:b < v.heap.size
theorem ZeF.below (h:ZeF wr b o c0 c1 m1 vv0 vv1 v y) (hb:Below v.heap.size v v'):ZeF wr b o c0 c1 m1 vv0 vv1 v' y:=
 ⟨h.near.trans (ZbI.below hb h.lt),h.bc,h.q0,h.q1,h.cells.below hb h.lt,h.l0.below hb,h.l1.below hb,fun i=>(hb.frozen (p:=⟨b,i,none⟩) h.lt).trans (h.frz i),Zk_ h.lt hb.size⟩
theorem ZeF.s0 (h:ZeF wr b o c0 c1 m1 vv0 vv1 v y) (u:Zy_):ZeF wr b o c0 c1 m1 vv0 vv1 (v.setCell ⟨b,o,none⟩ (.string u)) { y with kd:=u }:=by
 obtain⟨h0,h1,h2,h3,h4,h5,h6⟩:=h.cells;have ht:Zag b (b+1) v (v.setCell ⟨b,o,none⟩ (.string u)):=Zag.setCell _ _ _ _ _ ⟨Nat.le_refl _,by simp only [];omega⟩;have hbc:=h.bc;have hq0:=h.q0;have hq1:=h.q1;exact⟨h.near.trans (ZbI.set _ _ _ _ _ _ _ _ (by omega) (by omega)),h.bc,h.q0,h.q1,⟨World.cell?_setCell_same' _ _ _ (by rw [h0];rfl),(cne (by omega)).trans h1,(cne (by omega)).trans h2,(cne (by omega)).trans h3,(cne (by omega)).trans h4,(cne (by omega)).trans h5,(cne (by omega)).trans h6⟩,h.l0.touch ht (by omega),h.l1.touch ht (by omega),fun i=>by rw [World.frozen?_setCell];exact h.frz i,by simpa [World.setCell] using h.lt⟩
theorem ZeF.s1 (h:ZeF wr b o c0 c1 m1 vv0 vv1 v y) (u:Zy_):ZeF wr b o c0 c1 m1 vv0 vv1 (v.setCell ⟨b,o+1,none⟩ (.string u)) { y with nm:=u }:=by
 obtain⟨h0,h1,h2,h3,h4,h5,h6⟩:=h.cells;have ht:Zag b (b+1) v (v.setCell ⟨b,o+1,none⟩ (.string u)):=Zag.setCell _ _ _ _ _ ⟨Nat.le_refl _,by simp only [];omega⟩;have hbc:=h.bc;have hq0:=h.q0;have hq1:=h.q1;exact⟨h.near.trans (ZbI.set _ _ _ _ _ _ _ _ (by omega) (by omega)),h.bc,h.q0,h.q1,⟨(cne (by omega)).trans h0,World.cell?_setCell_same' _ _ _ (by rw [h1];rfl),(cne (by omega)).trans h2,(cne (by omega)).trans h3,(cne (by omega)).trans h4,(cne (by omega)).trans h5,(cne (by omega)).trans h6⟩,h.l0.touch ht (by omega),h.l1.touch ht (by omega),fun i=>by rw [World.frozen?_setCell];exact h.frz i,by simpa [World.setCell] using h.lt⟩
theorem ZeF.s2 (h:ZeF wr b o c0 c1 m1 vv0 vv1 v y) (u:Zy_):ZeF wr b o c0 c1 m1 vv0 vv1 (v.setCell ⟨b,o+2,none⟩ (.string u)) { y with tm:=u }:=by
 obtain⟨h0,h1,h2,h3,h4,h5,h6⟩:=h.cells;have ht:Zag b (b+1) v (v.setCell ⟨b,o+2,none⟩ (.string u)):=Zag.setCell _ _ _ _ _ ⟨Nat.le_refl _,by simp only [];omega⟩;have hbc:=h.bc;have hq0:=h.q0;have hq1:=h.q1;exact⟨h.near.trans (ZbI.set _ _ _ _ _ _ _ _ (by omega) (by omega)),h.bc,h.q0,h.q1,⟨(cne (by omega)).trans h0,(cne (by omega)).trans h1,World.cell?_setCell_same' _ _ _ (by rw [h2];rfl),(cne (by omega)).trans h3,(cne (by omega)).trans h4,(cne (by omega)).trans h5,(cne (by omega)).trans h6⟩,h.l0.touch ht (by omega),h.l1.touch ht (by omega),fun i=>by rw [World.frozen?_setCell];exact h.frz i,by simpa [World.setCell] using h.lt⟩
theorem ZeF.s4 (h:ZeF wr b o c0 c1 m1 vv0 vv1 v y) (u:Bool):ZeF wr b o c0 c1 m1 vv0 vv1 (v.setCell ⟨b,o+4,none⟩ (.bool u)) { y with en:=u }:=by
 obtain⟨h0,h1,h2,h3,h4,h5,h6⟩:=h.cells;have ht:Zag b (b+1) v (v.setCell ⟨b,o+4,none⟩ (.bool u)):=Zag.setCell _ _ _ _ _ ⟨Nat.le_refl _,by simp only [];omega⟩;have hbc:=h.bc;have hq0:=h.q0;have hq1:=h.q1;exact⟨h.near.trans (ZbI.set _ _ _ _ _ _ _ _ (by omega) (by omega)),h.bc,h.q0,h.q1,⟨(cne (by omega)).trans h0,(cne (by omega)).trans h1,(cne (by omega)).trans h2,(cne (by omega)).trans h3,World.cell?_setCell_same' _ _ _ (by rw [h4];rfl),(cne (by omega)).trans h5,(cne (by omega)).trans h6⟩,h.l0.touch ht (by omega),h.l1.touch ht (by omega),fun i=>by rw [World.frozen?_setCell];exact h.frz i,by simpa [World.setCell] using h.lt⟩
theorem ZeF.s6 (h:ZeF wr b o c0 c1 m1 vv0 vv1 v y) (u:Int):ZeF wr b o c0 c1 m1 vv0 vv1 (v.setCell ⟨b,o+6,none⟩ (.int .i64 u)) { y with ver:=u }:=by
 obtain⟨h0,h1,h2,h3,h4,h5,h6⟩:=h.cells;have ht:Zag b (b+1) v (v.setCell ⟨b,o+6,none⟩ (.int .i64 u)):=Zag.setCell _ _ _ _ _ ⟨Nat.le_refl _,by simp only [];omega⟩;have hbc:=h.bc;have hq0:=h.q0;have hq1:=h.q1;exact⟨h.near.trans (ZbI.set _ _ _ _ _ _ _ _ (by omega) (by omega)),h.bc,h.q0,h.q1,⟨(cne (by omega)).trans h0,(cne (by omega)).trans h1,(cne (by omega)).trans h2,(cne (by omega)).trans h3,(cne (by omega)).trans h4,(cne (by omega)).trans h5,World.cell?_setCell_same' _ _ _ (by rw [h6];rfl)⟩,h.l0.touch ht (by omega),h.l1.touch ht (by omega),fun i=>by rw [World.frozen?_setCell];exact h.frz i,by simpa [World.setCell] using h.lt⟩
theorem ZeF.m0' (h:ZeF wr b o c0 c1 m1 vv0 vv1 v y) (ht:Zag c0 m1 v v') {L:List Zy_} (hl:Zad c0 m1 v' vv0 L):ZeF wr b o c0 c1 m1 vv0 vv1 v' { y with vs:=L }:=by
 obtain⟨h0,h1,h2,h3,h4,h5,h6⟩:=h.cells;have hbc:=h.bc;have hq0:=h.q0;have hq1:=h.q1;have hlt:=h.lt;have e:∀ i,v'.cell? ⟨b,i,none⟩=v.cell? ⟨b,i,none⟩:=fun i=>ht.cell (p:=⟨b,i,none⟩) h.lt (by simp only [];omega)
 exact⟨h.near.trans (ZbI.touch ht h.lt (by omega) (by omega) (by omega)),h.bc,h.q0,h.q1,⟨(e _).trans h0,(e _).trans h1,(e _).trans h2,(e _).trans h3,(e _).trans h4,(e _).trans h5,(e _).trans h6⟩,hl,h.l1.touch ht (by omega),fun i=>(ht.frozen (p:=⟨b,i,none⟩) h.lt (by simp only [];omega)).trans (h.frz i),Zk_ h.lt ht.size⟩
theorem ZeF.m1' (h:ZeF wr b o c0 c1 m1 vv0 vv1 v y) (ht:Zag m1 c1 v v') {L:List Zy_} (hl:Zad m1 c1 v' vv1 L):ZeF wr b o c0 c1 m1 vv0 vv1 v' { y with hs:=L }:=by
 obtain⟨h0,h1,h2,h3,h4,h5,h6⟩:=h.cells;have hbc:=h.bc;have hq0:=h.q0;have hq1:=h.q1;have hlt:=h.lt;have e:∀ i,v'.cell? ⟨b,i,none⟩=v.cell? ⟨b,i,none⟩:=fun i=>ht.cell (p:=⟨b,i,none⟩) h.lt (by simp only [];omega)
 exact⟨h.near.trans (ZbI.touch ht h.lt (by omega) (by omega) (by omega)),h.bc,h.q0,h.q1,⟨(e _).trans h0,(e _).trans h1,(e _).trans h2,(e _).trans h3,(e _).trans h4,(e _).trans h5,(e _).trans h6⟩,h.l0.touch ht (by omega),hl,fun i=>(ht.frozen (p:=⟨b,i,none⟩) h.lt (by simp only [];omega)).trans (h.frz i),Zk_ h.lt ht.size⟩
end Go.Proofs.YtmappejlmapboaaGreat
