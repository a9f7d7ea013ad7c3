import Derived.Test.YtmappejlmapboaaGreatD01
set_option maxHeartbeats 16000000
set_option maxRecDepth 100000
open Go.Proofs.Tryz
namespace Go.Proofs.YtmappejlmapboaaGreat
open Go.RowKit Go.Deep
section
variable {wr w1:World} {B k:Nat} {Fs:List Fd}
theorem Tryz.info178:(prog.info? 178).map (fun i=>(i.zero,i.size,i.bytes))=some (some (.agg #[.string ⟨#[]⟩,.int .i64 0,.int .i64 0,.int .i64 0,.slice none 0 0,.string ⟨#[]⟩,.int .i64 0,.bool false,.bool false,.string ⟨#[]⟩,.string ⟨#[]⟩]),11,128):=by kernel_rfl
theorem Tryz.info131:(prog.info? 131).map (fun i=>(i.zero,i.size,i.bytes))=some (some (.agg #[.string ⟨#[]⟩,.slice none 0 0]),2,40):=by kernel_rfl
structure Zue (f:Nat->Value) (o:Nat) (fd:Fd) (wv:Value):Prop where
 r0:f (o)=(.string fd.nm)
 r1:f (o+1)=(.int .i64 fd.kd)
 r2:f (o+2)=(.int .i64 fd.le)
 r3:f (o+3)=(.int .i64 fd.mo)
 r4:f (o+4)=wv
 r5:f (o+5)=(.string fd.to)
 r6:f (o+6)=(.int .i64 fd.ro)
 r7:f (o+7)=(.bool fd.mu)
 r8:f (o+8)=(.bool fd.fx)
 r9:f (o+9)=(.string fd.df)
 r10:f (o+10)=(.string fd.we)
def Zbk (wr:World) (B:Nat) (Fs:List Fd) (k:Nat):Prop:=
 ∃ f,wr.rowIs B 178 (Fs.length*11) f/\∀ i (h:i < Fs.length),i < k->Zfn Fs[i]/\∃ wv,Zue f (i*11) Fs[i] wv/\Zaq (B+1) wr wv Fs[i].words
theorem Zbk.below (h:Zbk wr B Fs k) (hb:Below wr.heap.size wr w1):Zbk w1 B Fs k:=by
 obtain⟨f,hr,hall⟩:=h;refine⟨f,hr.of_block (hb.block B hr.lt),fun i hi hik=>?_⟩;obtain⟨hs,wv,h1,h2⟩:=hall i hi hik;exact⟨hs,wv,h1,h2.below hb⟩
theorem Zbk.free (h:Zbk wr B Fs k) (i:Nat):wr.frozen? ⟨B,i,none⟩=false:=by
 obtain⟨f,hr,_⟩:=h;exact hr.frozen i
theorem Zbk.there (h:Zbk wr B Fs k) (i:Nat) (hi:i < Fs.length*11):∃ v,wr.cell? ⟨B,i,none⟩=some v:=by
 obtain⟨f,hr,_⟩:=h;exact⟨_,hr.cell hi⟩
theorem Zbk.lt (h:Zbk wr B Fs k):B < wr.heap.size:=by
 obtain⟨f,hr,_⟩:=h;exact hr.lt
theorem Zbk.step {wv:Value} (h:Zbk w1 B Fs k) (hk:k < Fs.length) (hz:Zfn Fs[k]) (hs:Zaq (B+1) w1 wv Fs[k].words) :
 Zbk (((((((((((w1.setCell ⟨B,k*11,none⟩ (.string Fs[k].nm)).setCell ⟨B,k*11+1,none⟩ (.int .i64 Fs[k].kd)).setCell ⟨B,k*11+2,none⟩ (.int .i64 Fs[k].le)).setCell ⟨B,k*11+3,none⟩ (.int .i64 Fs[k].mo)).setCell ⟨B,k*11+4,none⟩ wv).setCell ⟨B,k*11+5,none⟩ (.string Fs[k].to)).setCell ⟨B,k*11+6,none⟩ (.int .i64 Fs[k].ro)).setCell ⟨B,k*11+7,none⟩ (.bool Fs[k].mu)).setCell ⟨B,k*11+8,none⟩ (.bool Fs[k].fx)).setCell ⟨B,k*11+9,none⟩ (.string Fs[k].df)).setCell ⟨B,k*11+10,none⟩ (.string Fs[k].we)) B Fs (k+1):=by
 obtain⟨f,hr,hall⟩:=h;refine⟨_,(((((((((((hr.set _ _).set _ _).set _ _).set _ _).set _ _).set _ _).set _ _).set _ _).set _ _).set _ _).set _ _),fun i hi hik=>?_⟩
 by_cases e:i=k
 . subst e
   refine⟨hz,wv,⟨?_,?_,?_,?_,?_,?_,?_,?_,?_,?_,?_⟩,?_⟩
   . simp
   . simp
   . simp
   . simp
   . simp
   . simp
   . simp
   . simp
   . simp
   . simp
   . simp
   . repeat (refine Zaq.setCell ?_ (by simp only [];omega) _)
     exact hs
 . obtain⟨hz',wv',hrow,hst⟩:=hall i hi (by omega)
   refine⟨hz',wv',⟨?_,?_,?_,?_,?_,?_,?_,?_,?_,?_,?_⟩,?_⟩
   . rw [if_neg (by omega),if_neg (by omega),if_neg (by omega),if_neg (by omega),if_neg (by omega),if_neg (by omega),if_neg (by omega),if_neg (by omega),if_neg (by omega),if_neg (by omega),if_neg (by omega)];exact hrow.r0
   . rw [if_neg (by omega),if_neg (by omega),if_neg (by omega),if_neg (by omega),if_neg (by omega),if_neg (by omega),if_neg (by omega),if_neg (by omega),if_neg (by omega),if_neg (by omega),if_neg (by omega)];exact hrow.r1
   . rw [if_neg (by omega),if_neg (by omega),if_neg (by omega),if_neg (by omega),if_neg (by omega),if_neg (by omega),if_neg (by omega),if_neg (by omega),if_neg (by omega),if_neg (by omega),if_neg (by omega)];exact hrow.r2
   . rw [if_neg (by omega),if_neg (by omega),if_neg (by omega),if_neg (by omega),if_neg (by omega),if_neg (by omega),if_neg (by omega),if_neg (by omega),if_neg (by omega),if_neg (by omega),if_neg (by omega)];exact hrow.r3
   . rw [if_neg (by omega),if_neg (by omega),if_neg (by omega),if_neg (by omega),if_neg (by omega),if_neg (by omega),if_neg (by omega),if_neg (by omega),if_neg (by omega),if_neg (by omega),if_neg (by omega)];exact hrow.r4
   . rw [if_neg (by omega),if_neg (by omega),if_neg (by omega),if_neg (by omega),if_neg (by omega),if_neg (by omega),if_neg (by omega),if_neg (by omega),if_neg (by omega),if_neg (by omega),if_neg (by omega)];exact hrow.r5
   . rw [if_neg (by omega),if_neg (by omega),if_neg (by omega),if_neg (by omega),if_neg (by omega),if_neg (by omega),if_neg (by omega),if_neg (by omega),if_neg (by omega),if_neg (by omega),if_neg (by omega)];exact hrow.r6
   . rw [if_neg (by omega),if_neg (by omega),if_neg (by omega),if_neg (by omega),if_neg (by omega),if_neg (by omega),if_neg (by omega),if_neg (by omega),if_neg (by omega),if_neg (by omega),if_neg (by omega)];exact hrow.r7
   . rw [if_neg (by omega),if_neg (by omega),if_neg (by omega),if_neg (by omega),if_neg (by omega),if_neg (by omega),if_neg (by omega),if_neg (by omega),if_neg (by omega),if_neg (by omega),if_neg (by omega)];exact hrow.r8
   . rw [if_neg (by omega),if_neg (by omega),if_neg (by omega),if_neg (by omega),if_neg (by omega),if_neg (by omega),if_neg (by omega),if_neg (by omega),if_neg (by omega),if_neg (by omega),if_neg (by omega)];exact hrow.r9
   . rw [if_neg (by omega),if_neg (by omega),if_neg (by omega),if_neg (by omega),if_neg (by omega),if_neg (by omega),if_neg (by omega),if_neg (by omega),if_neg (by omega),if_neg (by omega),if_neg (by omega)];exact hrow.r10
   . repeat (refine Zaq.setCell ?_ (by simp only [];omega) _)
     exact hst
theorem Zbk.done (h:Zbk wr B Fs k) (hk:Fs.length<=k) (hne:Fs≠[]) (hm:Fs.length<=maxLen):Zau B wr (.slice (some ⟨B,0,none⟩) Fs.length Fs.length) Fs:=by
 obtain⟨f,hr,hall⟩:=h;refine Or.inr ⟨B,0,Fs.length,rfl,hne,hm,hr.lt,Nat.le_refl _,Nat.le_refl _,fun i hi=>?_⟩;obtain⟨hz,wv,hrow,hst⟩:=hall i hi (by omega);refine⟨hz,wv,⟨?_,?_,?_,?_,?_,?_,?_,?_,?_,?_,?_⟩,hst.mono (by omega)⟩
 . rw [Nat.zero_add,hr.cell (by omega),hrow.r0]
 . rw [Nat.zero_add,hr.cell (by omega),hrow.r1]
 . rw [Nat.zero_add,hr.cell (by omega),hrow.r2]
 . rw [Nat.zero_add,hr.cell (by omega),hrow.r3]
 . rw [Nat.zero_add,hr.cell (by omega),hrow.r4]
 . rw [Nat.zero_add,hr.cell (by omega),hrow.r5]
 . rw [Nat.zero_add,hr.cell (by omega),hrow.r6]
 . rw [Nat.zero_add,hr.cell (by omega),hrow.r7]
 . rw [Nat.zero_add,hr.cell (by omega),hrow.r8]
 . rw [Nat.zero_add,hr.cell (by omega),hrow.r9]
 . rw [Nat.zero_add,hr.cell (by omega),hrow.r10]
theorem Zbk.new (w:World) (Fs:List Fd) (z:Array Value):Zbk (w.alloc (.cells (madeCells z (Fs.length*11)) 178)) w.heap.size Fs 0:=by
 refine⟨fun i=>(madeCells z (Fs.length*11)).getD i default,?_,fun i _ h=>by omega⟩;have:=World.rowIs_alloc w (madeCells z (Fs.length*11)) 178 (fun i=>(madeCells z (Fs.length*11)).getD i default) (fun i hi=>by simp [Array.getD,hi])
 rwa [size_madeCells] at this
theorem Zrj (lo:Nat) (v:Value) (Fs:List Fd) (w:World) (hv:Zau lo w v Fs) (hn:Zdw Fs) :
 Calls prog 138 #[v] w fun e w'=>∃ v',e=.returned v'/\Zw_ w w'/\Zau w.heap.size w' v' Fs:=by
 obtain⟨i0,hi,hz0,hz1,hz2⟩:=info_parts Tryz.info178
 by_cases hL:Fs=[]
 . subst hL
   obtain⟨a,cap,rfl⟩:=Zdz hv;clear hv
   have hmk:∀ u:World,(Instr.makeSlice 129 (.int .i64 0) (.int .i64 0)).run prog u=.ok (.slice (some ⟨u.heap.size,0,none⟩) 0 0) (u.alloc (.cells (madeCells (Value.cells (.agg #[.string ⟨#[]⟩,.int .i64 0,.int .i64 0,.int .i64 0,.slice none 0 0,.string ⟨#[]⟩,.int .i64 0,.bool false,.bool false,.string ⟨#[]⟩,.string ⟨#[]⟩])) 0) 178)):=fun u=>by
    have h:=run_make (P:=prog) u 129 178 i0 _ underlying129 hi hz0 .i64 .i64 0 0 (by omega) (by omega) (by omega) (by omega)
    simpa [hz1] using h
   go_enter func138,ntmps138;go_wp2
   go_loop [4] (fun i=>i=.int .i64 0) (fun _=>0)
   case atStart=>rfl
   case round=>
    subst hrel;go_wp2;go_ret;exact⟨_,rfl,Zb_.alloc Zl_ _,Or.inl ⟨_,_,rfl,rfl⟩⟩
 . obtain⟨b,off,cap,rfl,hm,hbw,_,hc⟩:=hv.full hL
   clear hv;obtain⟨hn1,hn2⟩:=hn;have HM:Hd (Fs.length<=maxLen):=hm;unfold maxLen at hm
   have hmk:∀ u:World,(Instr.makeSlice 129 (.int .i64 (Fs.length:Int)) (.int .i64 (Fs.length:Int))).run prog u=.ok (.slice (some ⟨u.heap.size,0,none⟩) Fs.length Fs.length) (u.alloc (.cells (madeCells (Value.cells (.agg #[.string ⟨#[]⟩,.int .i64 0,.int .i64 0,.int .i64 0,.slice none 0 0,.string ⟨#[]⟩,.int .i64 0,.bool false,.bool false,.string ⟨#[]⟩,.string ⟨#[]⟩])) (Fs.length*11)) 178)):=fun u=>by
    have h:=run_make (P:=prog) u 129 178 i0 _ underlying129 hi hz0 .i64 .i64 Fs.length Fs.length (by omega) (by omega) (by rw [hz2];omega) (by omega);rw [hz1] at h
    simpa using h
   clear hi hz0 hz1 hz2;go_enter func138,ntmps138;go_wp2;clear hmk
   go_loopw [4] (fun i wr=>∃ k:Nat,i=.int .i64 k/\k<=Fs.length/\Zw_ w wr/\Zbk wr w.heap.size Fs k) (fun i _=>Fs.length - (intOf i).toNat)
   case atStart=>exact⟨0,rfl,by omega,Zb_.alloc Zl_ _,Zbk.new w Fs _⟩
   case round=>
    obtain⟨k,rfl,hk,hb,hf⟩:=hrel
    by_cases hlt:k < Fs.length
    . obtain⟨hsz,wv,hcell,hst⟩:=hc k hlt
      obtain⟨c0,c1,c2,c3,c4,c5,c6,c7,c8,c9,c10⟩:=hcell.below hb hbw;clear hcell;go_wp2_with fail;refine (ZmK _ _ _ _ _ _ _ _ _ _ _ Fs[k].words _ (hst.at.below hb) (hn2 k hlt)).mono ?_;rintro e w1 ⟨wv1,rfl,hb1,hs1⟩;have hf1:=hf.below hb1;have hs1':Zaq (w.heap.size+1) w1 wv1 Fs[k].words:=hs1.mono hf.lt;have HST:=Zab (hf1.step hlt hsz hs1');have hB:Hd (Zw_ w w1):=hb.trans (hb1.mono hb.size);have hfr:=hf1.free;obtain⟨a1,n1,cap1,rfl⟩:=hs1.form;obtain⟨o0,ho0⟩:=hf1.there (k*11) (by omega);obtain⟨o1,ho1⟩:=hf1.there (k*11+1) (by omega);obtain⟨o2,ho2⟩:=hf1.there (k*11+2) (by omega);obtain⟨o3,ho3⟩:=hf1.there (k*11+3) (by omega);obtain⟨o4,ho4⟩:=hf1.there (k*11+4) (by omega);obtain⟨o5,ho5⟩:=hf1.there (k*11+5) (by omega);obtain⟨o6,ho6⟩:=hf1.there (k*11+6) (by omega);obtain⟨o7,ho7⟩:=hf1.there (k*11+7) (by omega);obtain⟨o8,ho8⟩:=hf1.there (k*11+8) (by omega)
      obtain⟨o9,ho9⟩:=hf1.there (k*11+9) (by omega);obtain⟨o10,ho10⟩:=hf1.there (k*11+10) (by omega);clear hf hf1 hs1 hs1' hb1 hb hst c0 c1 c2 c3 c4 c5 c6 c7 c8 c9 c10;go_wp2;go_roundw
      . 
       exact⟨k+1,by go_num,by omega,(((((((((((hB.o.setCell Zl_ _).setCell Zl_ _).setCell Zl_ _).setCell Zl_ _).setCell Zl_ _).setCell Zl_ _).setCell Zl_ _).setCell Zl_ _).setCell Zl_ _).setCell Zl_ _).setCell Zl_ _),HST.o⟩
      . simp [intOf];omega
    . go_wp2
      go_ret;exact⟨_,rfl,hb,hf.done (by omega) hL HM.o⟩
end
section
variable {w wr w1:World} {B k:Nat} {Ss:List Sh}
theorem ZcR.setCell {b o:Nat}{f:Fd}{wv:Value} (h:ZcR w b o f wv) {p:Addr} (hp:b≠p.block) (u:Value):ZcR (w.setCell p u) b o f wv:=by
 have e:∀ o,(w.setCell p u).cell? ⟨b,o,none⟩=w.cell? ⟨b,o,none⟩:=fun o=>Zar _ _ _ _ hp
 exact⟨by rw [e];exact h.c0,by rw [e];exact h.c1,by rw [e];exact h.c2,by rw [e];exact h.c3,by rw [e];exact h.c4,by rw [e];exact h.c5,by rw [e];exact h.c6,by rw [e];exact h.c7,by rw [e];exact h.c8,by rw [e];exact h.c9,by rw [e];exact h.c10⟩
theorem Zau.setCell {lo:Nat}{v:Value}{Fs:List Fd} (h:Zau lo w v Fs) {p:Addr} (hp:p.block < lo) (u:Value):Zau lo (w.setCell p u) v Fs:=by
 rcases h with h | ⟨b,off,cap,h1,h2,h3,h4,h5,h6,h7⟩
 . exact Or.inl h
 . refine Or.inr ⟨b,off,cap,h1,h2,h3,by simpa [World.setCell] using h4,h5,h6,fun i hi=>?_⟩
   obtain⟨hs,wv,hc,hw⟩:=h7 i hi;exact⟨hs,wv,hc.setCell (by omega) u,hw.setCell hp u⟩
theorem ZmN (lo:Nat) (kind:Zy_) (v:Value) (Fs:List Fd) (w:World) (hv:Zau lo w v Fs) (hn:Zdw Fs) :
 Calls prog 86 #[.agg #[.string kind,v]] w fun e w'=>∃ v',e=.returned (.agg #[.string kind,v'])/\Zw_ w w'/\Zau w.heap.size w' v' Fs:=by
 have HV:=Zab hv;obtain⟨a,cap,rfl⟩:=hv.form;clear hv;go_enter func86,ntmps86;go_wp2_with fail;refine (Zrj lo _ Fs _ (HV.o.below ?_) hn).mono ?_
 . exact ((Zb_.alloc Zl_ _).alloc (by simp) _).alloc (by simp;omega) _
 rintro e w1 ⟨v1,rfl,hb,hs⟩;obtain⟨a',cap',rfl⟩:=hs.form;have HS:Hd (Zau (w.heap.size+3) w1 (.slice a' Fs.length cap') Fs):=hs.mono (by simp);clear hs;have hz:w.heap.size+2 < w1.heap.size:=by have:=hb.size;simp at this;omega
 obtain⟨hc,hf⟩:=Zgu hb;have HB:Hd (Zw_ w w1):=(((Zb_.alloc Zl_ _).alloc (by simp) _).alloc (by simp;omega) _).trans (hb.mono (by simp;omega));clear hb;go_wp2;refine bodyPost_ret (v:=.agg #[.string kind,.slice a' Fs.length cap']) (by simp [results,results86,go_sem,hc]) rfl ⟨_,rfl,?_,?_⟩
 . repeat (refine Below.setCell ?_ (by simp only [];omega) _)
   exact HB.o
 . refine Zau.mono (lo:=w.heap.size+3) ?_ (by omega)
   repeat (refine Zau.setCell ?_ (by simp only [];omega) _)
   exact HS.o
def Zbl (wr:World) (B:Nat) (Ss:List Sh) (k:Nat):Prop:=
 ∃ f,wr.rowIs B 131 (Ss.length*2) f/\∀ i (h:i < Ss.length),i < k->Ss[i].kind.size<=maxLen/\∃ fv,f (i*2)=.string Ss[i].kind/\f (i*2+1)=fv/\Zau (B+1) wr fv Ss[i].fields
theorem Zbl.below (h:Zbl wr B Ss k) (hb:Below wr.heap.size wr w1):Zbl w1 B Ss k:=by
 obtain⟨f,hr,hall⟩:=h;refine⟨f,hr.of_block (hb.block B hr.lt),fun i hi hik=>?_⟩;obtain⟨hs,fv,h0,h1,h2⟩:=hall i hi hik;exact⟨hs,fv,h0,h1,h2.below hb⟩
theorem Zbl.free (h:Zbl wr B Ss k) (i:Nat):wr.frozen? ⟨B,i,none⟩=false:=by
 obtain⟨f,hr,_⟩:=h;exact hr.frozen i
theorem Zbl.there (h:Zbl wr B Ss k) (i:Nat) (hi:i < Ss.length*2):∃ v,wr.cell? ⟨B,i,none⟩=some v:=by
 obtain⟨f,hr,_⟩:=h;exact⟨_,hr.cell hi⟩
theorem Zbl.lt (h:Zbl wr B Ss k):B < wr.heap.size:=by
 obtain⟨f,hr,_⟩:=h;exact hr.lt
theorem Zbl.step {fv:Value} (h:Zbl w1 B Ss k) (hk:k < Ss.length) (hz:Ss[k].kind.size<=maxLen) (hs:Zau (B+1) w1 fv Ss[k].fields) :
 Zbl ((w1.setCell ⟨B,k*2,none⟩ (.string Ss[k].kind)).setCell ⟨B,k*2+1,none⟩ fv) B Ss (k+1):=by
 obtain⟨f,hr,hall⟩:=h;refine⟨_,((hr.set _ _).set _ _),fun i hi hik=>?_⟩
 by_cases e:i=k
 . subst e
   refine⟨hz,fv,?_,?_,?_⟩
   . simp
   . simp
   . exact (hs.setCell (by simp only [];omega) _).setCell (by simp only [];omega) _
 . obtain⟨hz',fv',h0,h1,hst⟩:=hall i hi (by omega)
   refine⟨hz',fv',?_,?_,?_⟩
   . rw [if_neg (by omega),if_neg (by omega)];exact h0
   . rw [if_neg (by omega),if_neg (by omega)];exact h1
   . exact (hst.setCell (by simp only [];omega) _).setCell (by simp only [];omega) _
theorem Zbl.done (h:Zbl wr B Ss k) (hk:Ss.length<=k) (hne:Ss≠[]) (hm:Ss.length<=maxLen):ZaI B wr (.slice (some ⟨B,0,none⟩) Ss.length Ss.length) Ss:=by
 obtain⟨f,hr,hall⟩:=h;refine Or.inr ⟨B,0,Ss.length,rfl,hne,hm,hr.lt,Nat.le_refl _,fun i hi=>?_⟩;obtain⟨hz,fv,h0,h1,hst⟩:=hall i hi (by omega);refine⟨hz,fv,?_,?_,hst.mono (by omega)⟩
 . rw [Nat.zero_add,hr.cell (by omega),h0]
 . rw [Nat.zero_add,hr.cell (by omega),h1]
theorem Zbl.new (w:World) (Ss:List Sh) (z:Array Value):Zbl (w.alloc (.cells (madeCells z (Ss.length*2)) 131)) w.heap.size Ss 0:=by
 refine⟨fun i=>(madeCells z (Ss.length*2)).getD i default,?_,fun i _ h=>by omega⟩;have:=World.rowIs_alloc w (madeCells z (Ss.length*2)) 131 (fun i=>(madeCells z (Ss.length*2)).getD i default) (fun i hi=>by simp [Array.getD,hi])
 rwa [size_madeCells] at this
theorem Zrq (lo:Nat) (v:Value) (Ss:List Sh) (w:World) (hv:ZaI lo w v Ss) (hn:ZfY Ss) :
 Calls prog 36 #[v] w fun e w'=>∃ v',e=.returned v'/\Zw_ w w'/\ZaI w.heap.size w' v' Ss:=by
 obtain⟨i0,hi,hz0,hz1,hz2⟩:=info_parts Tryz.info131
 by_cases hL:Ss=[]
 . subst hL
   obtain⟨a,cap,rfl⟩:=hv.form;clear hv
   have hmk:∀ u:World,(Instr.makeSlice 37 (.int .i64 0) (.int .i64 0)).run prog u=.ok (.slice (some ⟨u.heap.size,0,none⟩) 0 0) (u.alloc (.cells (madeCells (Value.cells (.agg #[.string ⟨#[]⟩,.slice none 0 0])) 0) 131)):=fun u=>by
    have h:=run_make (P:=prog) u 37 131 i0 _ underlying37 hi hz0 .i64 .i64 0 0 (by omega) (by omega) (by omega) (by omega)
    simpa [hz1] using h
   go_enter func36,ntmps36;go_wp2
   go_loop [4] (fun i=>i=.int .i64 0) (fun _=>0)
   case atStart=>rfl
   case round=>
    subst hrel;go_wp2;go_ret;exact⟨_,rfl,Zb_.alloc Zl_ _,Or.inl ⟨_,_,rfl,rfl⟩⟩
 . obtain⟨b,off,cap,rfl,hm,hbw,hc⟩:=hv.full hL
   clear hv;obtain⟨hn1,hn2⟩:=hn;have HM:Hd (Ss.length<=maxLen):=hm;unfold maxLen at hm
   have hmk:∀ u:World,(Instr.makeSlice 37 (.int .i64 (Ss.length:Int)) (.int .i64 (Ss.length:Int))).run prog u=.ok (.slice (some ⟨u.heap.size,0,none⟩) Ss.length Ss.length) (u.alloc (.cells (madeCells (Value.cells (.agg #[.string ⟨#[]⟩,.slice none 0 0])) (Ss.length*2)) 131)):=fun u=>by
    have h:=run_make (P:=prog) u 37 131 i0 _ underlying37 hi hz0 .i64 .i64 Ss.length Ss.length (by omega) (by omega) (by rw [hz2];omega) (by omega);rw [hz1] at h
    simpa using h
   clear hi hz0 hz1 hz2;go_enter func36,ntmps36;go_wp2;clear hmk
   go_loopw [4] (fun i wr=>∃ k:Nat,i=.int .i64 k/\k<=Ss.length/\Zw_ w wr/\Zbl wr w.heap.size Ss k) (fun i _=>Ss.length - (intOf i).toNat)
   case atStart=>exact⟨0,rfl,by omega,Zb_.alloc Zl_ _,Zbl.new w Ss _⟩
   case round=>
    obtain⟨k,rfl,hk,hb,hf⟩:=hrel
    by_cases hlt:k < Ss.length
    . obtain⟨hsz,fv,d0,d1,hst⟩:=hc k hlt
      have c0:wr.cell? ⟨b,off+k*2,none⟩=some (.string Ss[k].kind):=by rw [hb.cell (p:=⟨b,_,none⟩) hbw];exact d0
      have c1:wr.cell? ⟨b,off+k*2+1,none⟩=some fv:=by rw [hb.cell (p:=⟨b,_,none⟩) hbw];exact d1
      clear d0 d1;go_wp2_with fail;refine (ZmN lo _ _ Ss[k].fields _ (hst.below hb) (hn2 k hlt)).mono ?_;rintro e w1 ⟨wv1,rfl,hb1,hs1⟩;have hf1:=hf.below hb1;have hs1':Zau (w.heap.size+1) w1 wv1 Ss[k].fields:=hs1.mono hf.lt;have HST:=Zab (hf1.step hlt hsz hs1');have hB:Hd (Zw_ w w1):=hb.trans (hb1.mono hb.size);have hfr:=hf1.free;obtain⟨a1,cap1,rfl⟩:=hs1.form;obtain⟨o0,ho0⟩:=hf1.there (k*2) (by omega);obtain⟨o1,ho1⟩:=hf1.there (k*2+1) (by omega);clear hf hf1 hs1 hs1' hb1 hb hst c0 c1;go_wp2;go_roundw
      . 
       exact⟨k+1,by go_num,by omega,((hB.o.setCell Zl_ _).setCell Zl_ _),HST.o⟩
      . simp [intOf];omega
    . go_wp2
      go_ret;exact⟨_,rfl,hb,hf.done (by omega) hL HM.o⟩
end
section
variable {n i:Nat}
theorem Za1 {p:Nat->Bool} (h:∀ i,i < n->p i=true):(List.range n).all p=true:=by
 rw [List.all_eq_true];intro i hi;exact h i (List.mem_range.1 hi)
theorem ZaZ {k:Nat}{p:Nat->Bool} (hk:k < n) (h:p k=false):(List.range n).all p=false:=by
 rw [List.all_eq_false];exact⟨k,List.mem_range.2 hk,by simp [h]⟩
def Zhz (L:List Zy_) (i:Nat):Bool:=
 Zap (L.getD i ⟨#[]⟩)&&(i == 0 || Op.bytesLess (L.getD (i - 1) ⟨#[]⟩).toList (L.getD i ⟨#[]⟩).toList)
def Zpw (L:List Zy_):Bool:=(List.range L.length).all (Zhz L)
theorem ZjO {L:List Zy_} (h:i < L.length):L.getD i ⟨#[]⟩=L[i]:=by
 rw [List.getD_eq_getElem?_getD,List.getElem?_eq_getElem h];rfl
theorem ZiO {L:List Zy_} (h:i < L.length) (hn:Zap L[i]=false):Zhz L i=false:=by
 unfold Zhz;rw [ZjO h,hn];rfl
theorem ZiQ {L:List Zy_} (h:0 < L.length) (hn:Zap L[0]=true):Zhz L 0=true:=by
 unfold Zhz;rw [ZjO h,hn];rfl
theorem ZiP {L:List Zy_}{j:Nat} (h:j+1 < L.length) (hn:Zap L[j+1]=true):Zhz L (j+1)=Op.bytesLess L[j].toList L[j+1].toList:=by
 unfold Zhz;rw [ZjO h,hn,Nat.add_sub_cancel,ZjO (by omega)];simp
theorem ZpL {L:List Zy_} (h:Zhz L 0=true):∀ i,i < 1->Zhz L i=true:=fun i hi=>by
 have e:i=0:=by omega
 subst e;exact h
theorem ZcO (v:Value) (L:List Zy_) (w:World) (hv:Zaf w v L) :
 Calls prog 170 #[v] w fun e w'=>e=.returned (.bool (Zpw L))/\Zw_ w w':=by
 rcases hv with ⟨a,cap,rfl,rfl⟩ | ⟨b,off,cap,rfl,hne,hm,hbw,hc,hsz⟩
 . go_enter func170,ntmps170
   go_wp2
   go_loop [3] (fun i=>i=.int .i64 0) (fun _=>0)
   case atStart=>rfl
   case round=>
    subst hrel;go_wp2;go_ret;exact⟨rfl,Below.refl _ _⟩
 . unfold maxLen at hm
   go_enter func170,ntmps170;go_wp2
   go_loopw [3] (fun i wr=>∃ k:Nat,i=.int .i64 k/\k<=L.length/\Zw_ w wr/\∀ i,i < k->Zhz L i=true) (fun i _=>L.length - (intOf i).toNat)
   case atStart=>exact⟨0,rfl,by omega,Below.refl _ _,fun i h=>by omega⟩
   case round=>
    obtain⟨k,rfl,hk,hb,hall⟩:=hrel;have HA:=Zab hall;clear hall
    by_cases hlt:k < L.length
    . have hck:wr.cell? ⟨b,off+k,none⟩=some (.string L[k]):=by rw [hb.cell (p:=⟨b,_,none⟩) hbw];exact hc k hlt
      have hskk:=hsz L[k] (List.getElem_mem hlt)
      by_cases hn:Zap L[k]=true
      . cases k with
        | zero=>
         have HX:=Zab (ZiQ hlt hn);have hck0:wr.cell? ⟨b,off,none⟩=some (.string L[0]):=by simpa using hck
         clear hck;go_wp2
         go_quiet ((go_at_call 132;exact Calls.quiet_of_same (Zae _ _ hskk)))
         go_wp2;go_roundw
         . exact⟨1,by go_num,by omega,below_drewN hb _,ZpL HX.o⟩
         . simp [intOf];omega
        | succ j=>
         have HX:=Zab (ZiP hlt hn);have hcj:wr.cell? ⟨b,off+j,none⟩=some (.string L[j]):=by rw [hb.cell (p:=⟨b,_,none⟩) hbw];exact hc j (by omega)
         by_cases hls:Op.bytesLess L[j].toList L[j+1].toList=true
         . go_wp2
           go_quiet ((go_at_call 132;exact Calls.quiet_of_same (Zae _ _ hskk)))
           go_wp2;go_roundw
           case rel=>exact⟨j+2,by go_num,by omega,below_drewN hb _,fun i hi=>by
                      by_cases e:i=j+1
                      . subst e;rw [HX.o];exact hls
                      . exact HA.o i (by omega)⟩
           . simp [intOf];omega
         . have hls':Op.bytesLess L[j].toList L[j+1].toList=false:=by simpa using hls
           clear hls;go_wp2
           go_quiet ((go_at_call 132;exact Calls.quiet_of_same (Zae _ _ hskk)))
           go_wp2;go_ret;exact⟨Zaa (ZaZ hlt (by rw [HX.o];exact hls')).symm,below_drewN hb _⟩
      . have hn':Zap L[k]=false:=by simpa using hn
        have HX:=Zab (ZiO hlt hn');go_wp2
        go_quiet ((go_at_call 132;exact Calls.quiet_of_same (Zae _ _ hskk)))
        go_wp2;go_ret;exact⟨Zaa (ZaZ hlt HX.o).symm,below_drewN hb _⟩
    . go_wp2
      go_ret;exact⟨Zaa (Za1 (fun i hi=>HA.o i (by omega))).symm,hb⟩
theorem ZgT (v:Value) (L:List Zy_) (w:World) (hv:Zaf w v L) :
 Calls prog 298 #[v] w fun e w'=>e=.returned (.bool (Zpw L))/\w'=w:=by
 rcases hv with ⟨a,cap,rfl,rfl⟩ | ⟨b,off,cap,rfl,hne,hm,hbw,hc,hsz⟩
 . go_enter func298,ntmps298
   go_wp2
   go_loop [7] (fun i=>i=.int .i64 0) (fun _=>0)
   case atStart=>rfl
   case round=>
    subst hrel;go_wp2;go_ret;exact⟨rfl,rfl⟩
 . unfold maxLen at hm
   go_enter func298,ntmps298;go_wp2
   go_loop [7] (fun i=>∃ k:Nat,i=.int .i64 k/\k<=L.length/\∀ i,i < k->Zhz L i=true) (fun i=>L.length - (intOf i).toNat)
   case atStart=>exact⟨0,rfl,by omega,fun i h=>by omega⟩
   case round=>
    obtain⟨k,rfl,hk,hall⟩:=hrel;have HA:=Zab hall;clear hall
    by_cases hlt:k < L.length
    . have hck:=hc k hlt
      have HSK:=Zab (hsz L[k] (List.getElem_mem hlt))
      by_cases hn:Zap L[k]=true
      . cases k with
        | zero=>
         have HX:=Zab (ZiQ hlt hn);have hck0:w.cell? ⟨b,off,none⟩=some (.string L[0]):=by simpa using hck
         clear hck;go_wp2_with fail;refine (Zan _ _ HSK.o).mono ?_;rintro e w1 ⟨rfl,rfl⟩;go_wp2
         go_round
         . exact⟨1,by go_num,by omega,ZpL HX.o⟩
         . simp [intOf];omega
        | succ j=>
         have HX:=Zab (ZiP hlt hn);have hcj:=hc j (by omega)
         by_cases hls:Op.bytesLess L[j].toList L[j+1].toList=true
         . go_wp2_with fail
           refine (Zan _ _ HSK.o).mono ?_;rintro e w1 ⟨rfl,rfl⟩;go_wp2
           go_round
           case rel=>exact⟨j+2,by go_num,by omega,fun i hi=>by
                      by_cases e:i=j+1
                      . subst e;rw [HX.o];exact hls
                      . exact HA.o i (by omega)⟩
           . simp [intOf];omega
         . have hls':Op.bytesLess L[j].toList L[j+1].toList=false:=by simpa using hls
           clear hls;go_wp2_with fail;refine (Zan _ _ HSK.o).mono ?_;rintro e w1 ⟨rfl,rfl⟩;go_wp2;go_ret;exact⟨Zaa (ZaZ hlt (by rw [HX.o];exact hls')).symm,rfl⟩
      . have hn':Zap L[k]=false:=by simpa using hn
        have HX:=Zab (ZiO hlt hn');go_wp2_with fail;refine (Zan _ _ HSK.o).mono ?_;rintro e w1 ⟨rfl,rfl⟩;go_wp2;go_ret;exact⟨Zaa (ZaZ hlt HX.o).symm,rfl⟩
    . go_wp2
      go_ret;exact⟨Zaa (Za1 (fun i hi=>HA.o i (by omega))).symm,rfl⟩
end
variable {Ss:List Sh}
theorem Zdi (w:World) (p q:Addr) (u:Value) (h:p≠q):(w.setCell p u).cell? q=w.cell? q:=by
 apply World.cell?_setCell_other;exact h
theorem Zck (w:World) (p:Addr) (u v:Value) (h:w.cell? p=some v):(w.setCell p u).cell? p=some u:=by
 apply World.cell?_setCell_same;exact h
def Zcn (Ss:List Sh) (s:Zy_):Option Sh:=Ss.find? fun x=>x.kind.toList == s.toList
def ZmV (Ss:List Sh) (s:Zy_):Bool:=(Zcn Ss s).isSome
theorem Zge {s:Zy_}{k:Nat} (hk:k < Ss.length) (h:(Ss[k].kind.toList == s.toList)=true) (hall:∀ i (h:i < Ss.length),i < k->(Ss[i].kind.toList == s.toList)=false):Zcn Ss s=some Ss[k]:=by
 unfold Zcn;rw [List.find?_eq_some_iff_getElem];exact⟨h,k,hk,rfl,fun j hj=>by simp [hall j (by omega) hj]⟩
theorem Zgd {s:Zy_} (hall:∀ i (h:i < Ss.length),(Ss[i].kind.toList == s.toList)=false):Zcn Ss s=none:=by
 unfold Zcn;rw [List.find?_eq_none];intro x hx;obtain⟨i,hi,rfl⟩:=List.getElem_of_mem hx;simp [hall i hi]
theorem ZkN {s:Zy_}{x:Sh} (h:Zcn Ss s=some x):ZmV Ss s=true:=by unfold ZmV;rw [h];rfl
theorem ZkM {s:Zy_} (h:Zcn Ss s=none):ZmV Ss s=false:=by unfold ZmV;rw [h];rfl
theorem ZhX (lo:Nat) (v:Value) (Ss:List Sh) (s:Zy_) (w:World) (hv:ZaI lo w v Ss) :
 Calls prog 162 #[v,.string s] w fun e w'=>∃ r:Int,e=.returned (.int .i64 r)/\w'=w/\decide (0<=r)=ZmV Ss s:=by
 by_cases hL:Ss=[]
 . subst hL
   obtain⟨a,cap,rfl⟩:=hv.form;clear hv;go_enter func162,ntmps162;go_wp2
   go_loop [5] (fun i=>i=.int .i64 0) (fun _=>0)
   case atStart=>rfl
   case round=>
    subst hrel;go_wp2;go_ret;exact⟨-1,rfl,rfl,rfl⟩
 . obtain⟨b,off,cap,rfl,hm,hbw,hc⟩:=hv.full hL
   clear hv;unfold maxLen at hm;go_enter func162,ntmps162;go_wp2
   go_loop [5] (fun i=>∃ k:Nat,i=.int .i64 k/\k<=Ss.length/\∀ i (h:i < Ss.length),i < k->(Ss[i].kind.toList == s.toList)=false) (fun i=>Ss.length - (intOf i).toNat)
   case atStart=>exact⟨0,rfl,by omega,fun i _ h=>by omega⟩
   case round=>
    obtain⟨k,rfl,hk,hall⟩:=hrel;have HA:=Zab hall;clear hall
    by_cases hlt:k < Ss.length
    . obtain⟨_,fv,hck,_,_⟩:=hc k hlt
      by_cases he:(Ss[k].kind.toList == s.toList)=true
      . go_wp2
        go_ret;exact⟨k,rfl,rfl,by rw [ZkN (Zge hlt he HA.o)];simp⟩
      . have he':(Ss[k].kind.toList == s.toList)=false:=by simpa using he
        clear he;go_wp2
        go_round
        case rel=>exact⟨k+1,by go_num,by omega,fun i h h'=>by
                   by_cases e:i=k
                   . subst e;exact he'
                   . exact HA.o i h (by omega)⟩
        . simp [intOf];omega
    . go_wp2
      go_ret;exact⟨-1,rfl,rfl,by rw [ZkM (Zgd fun i h=>HA.o i h (by omega))];rfl⟩
def ZpC (lo:Nat) (Ss:List Sh) (s:Zy_) (e:Ending) (w':World):Prop:=
 (∃ x fv,Zcn Ss s=some x/\e=.returned (.tuple #[.agg #[.string x.kind,fv],.bool true])/\Zau lo w' fv x.fields)\/
 (Zcn Ss s=none/\e=.returned (.tuple #[.agg #[.string ⟨#[]⟩,.slice none 0 0],.bool false]))
theorem ZmB (lo:Nat) (v:Value) (Ss:List Sh) (s:Zy_) (w:World) (hv:ZaI lo w v Ss) :
 Calls prog 189 #[v,.string s] w fun e w'=>Zw_ w w'/\ZpC lo Ss s e w':=by
 by_cases hL:Ss=[]
 . subst hL
   obtain⟨a,cap,rfl⟩:=hv.form;clear hv;go_enter func189,ntmps189;go_wp2
   go_loop [10] (fun i=>i=.int .i64 0) (fun _=>0)
   case atStart=>rfl
   case round=>
    subst hrel;go_wp2;refine bodyPost_ret (v:=.tuple #[.agg #[.string ⟨#[]⟩,.slice none 0 0],.bool false]) (by simp [results,results189,go_sem]) rfl ⟨?_,Or.inr ⟨rfl,rfl⟩⟩;exact Zb_.alloc Zl_ _
 . obtain⟨b,off,cap,rfl,hm,hbw,hc⟩:=hv.full hL
   clear hv;unfold maxLen at hm;have hA:∀ (o:Obj) (wr:World),Below (w.heap.size+1) (w.alloc o) wr->Zw_ w wr:=fun o wr h=>(Zb_.alloc Zl_ o).trans (h.mono (by omega))
   go_enter func189,ntmps189;go_wp2
   go_loopw [10] (fun i wr=>∃ k:Nat,i=.int .i64 k/\k<=Ss.length/\Below (w.heap.size+1) (w.alloc (.cells #[.string ⟨#[]⟩,.slice none 0 0] 131)) wr/\∀ i (h:i < Ss.length),i < k->(Ss[i].kind.toList == s.toList)=false) (fun i _=>Ss.length - (intOf i).toNat)
   case atStart=>exact⟨0,rfl,by omega,Below.refl _ _,fun i _ h=>by omega⟩
   case round=>
    obtain⟨k,rfl,hk,hb,hall⟩:=hrel;have HA:=Zab hall;clear hall;have hz:w.heap.size < wr.heap.size:=by have:=hb.size;simp at this;omega
    have hB:Hd (Zw_ w wr):=hA _ _ hb;have q0:wr.cell? ⟨w.heap.size,0,none⟩=some (.string ⟨#[]⟩):=by rw [hb.cell (p:=⟨w.heap.size,_,none⟩) (by simp)];simp
    have q1:wr.cell? ⟨w.heap.size,1,none⟩=some (.slice none 0 0):=by rw [hb.cell (p:=⟨w.heap.size,_,none⟩) (by simp)];simp
    have qf:∀ o,wr.frozen? ⟨w.heap.size,o,none⟩=false:=fun o=>by rw [hb.frozen (p:=⟨w.heap.size,_,none⟩) (by simp)];simp
    have HBB:=Zab hb;clear hb
    by_cases hlt:k < Ss.length
    . obtain⟨_,fv,c0,c1,hst⟩:=hc k hlt
      have e0:wr.cell? ⟨b,off+k*2,none⟩=some (.string Ss[k].kind):=by rw [hB.o.cell (p:=⟨b,_,none⟩) hbw];exact c0
      have e1:wr.cell? ⟨b,off+k*2+1,none⟩=some fv:=by rw [hB.o.cell (p:=⟨b,_,none⟩) hbw];exact c1
      obtain⟨a1,cap1,rfl⟩:=hst.form;have HST:=Zab hst;clear c0 c1 hst
      by_cases he:(Ss[k].kind.toList == s.toList)=true
      . go_wp2
        have HF:Zw_ w (((wr.setCell ⟨w.heap.size,0,none⟩ (.string Ss[k].kind)).setCell ⟨w.heap.size,1,none⟩ (.slice a1 Ss[k].fields.length cap1)).alloc (.cells #[.string Ss[k].kind,.slice a1 Ss[k].fields.length cap1] 131)):=
         ((hB.o.setCell Zl_ _).setCell Zl_ _).alloc (by simp [World.setCell];omega) _
        have hold:∀ (X:World) (o:Obj) (j:Nat),w.heap.size < X.heap.size->(X.alloc o).cell? ⟨w.heap.size,j,none⟩=X.cell? ⟨w.heap.size,j,none⟩:=fun X o j h=>((Below.refl X.heap.size X).alloc Zl_ o).cell (p:=⟨w.heap.size,j,none⟩) h
        have f0:(((wr.setCell ⟨w.heap.size,0,none⟩ (.string Ss[k].kind)).setCell ⟨w.heap.size,1,none⟩ (.slice a1 Ss[k].fields.length cap1)).alloc (.cells #[.string Ss[k].kind,.slice a1 Ss[k].fields.length cap1] 131)).cell? ⟨w.heap.size,0,none⟩=some (.string Ss[k].kind):=by
         rw [hold _ _ _ (by simpa [World.setCell] using hz),Zdi _ _ _ _ (by simp),Zck _ _ _ _ q0]
        have f1:(((wr.setCell ⟨w.heap.size,0,none⟩ (.string Ss[k].kind)).setCell ⟨w.heap.size,1,none⟩ (.slice a1 Ss[k].fields.length cap1)).alloc (.cells #[.string Ss[k].kind,.slice a1 Ss[k].fields.length cap1] 131)).cell? ⟨w.heap.size,1,none⟩=some (.slice a1 Ss[k].fields.length cap1):=by
         rw [hold _ _ _ (by simpa [World.setCell] using hz),Zck _ _ _ _ (by rw [Zdi _ _ _ _ (by simp)];exact q1)]
        exact bodyPost_ret (v:=.tuple #[.agg #[.string Ss[k].kind,.slice a1 Ss[k].fields.length cap1],.bool true]) (by simp [results,results189,go_sem,f0,f1]) rfl ⟨HF,Or.inl ⟨Ss[k],_,Zge hlt he HA.o,rfl,HST.o.below HF⟩⟩
      . have he':(Ss[k].kind.toList == s.toList)=false:=by simpa using he
        clear he;go_wp2;go_roundw
        case rel=>exact⟨k+1,by go_num,by omega,HBB.o.alloc (by omega) _,fun i h h'=>by
                   by_cases e:i=k
                   . subst e;exact he'
                   . exact HA.o i h (by omega)⟩
        . simp [intOf];omega
    . go_wp2
      refine bodyPost_ret (v:=.tuple #[.agg #[.string ⟨#[]⟩,.slice none 0 0],.bool false]) (by simp [results,results189,go_sem,q0,q1]) rfl ⟨?_,Or.inr ⟨Zgd fun i h=>HA.o i h (by omega),rfl⟩⟩;exact (hB.o.setCell Zl_ _).setCell Zl_ _
end Go.Proofs.YtmappejlmapboaaGreat
