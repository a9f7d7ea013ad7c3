import Derived.Test.YtmappejlmapboaaGreatD10
import Derived.Test.YtmappejlmapboaaGreatD12
set_option maxHeartbeats 16000000
set_option maxRecDepth 100000
open Go.Proofs.Tryz
namespace Go.Proofs.YtmappejlmapboaaGreat
open Go.RowKit Go.Deep
variable {k:Nat}
def Znj:Value->Nat
 | .slice _ n _=>n
 | _=>0
def Znt (N:List Zy_) (rd:Zy_->List Zy_) (R:List Zy_) (k:Nat):Prop:=∀ i (h:i < N.length),i < k->N[i] ∈ R\/¬ ∀ r ∈ rd N[i],r ∈ R
theorem Znt.stuck {N:List Zy_}{rd:Zy_->List Zy_}{R:List Zy_} (h:Znt N rd R k) (hk:N.length<=k):Zjy N rd R:=by
 intro x hx hn;obtain⟨i,hi,rfl⟩:=List.getElem_of_mem hx
 rcases h i hi (by omega) with h1 | h1
 . exact absurd h1 hn
 . exact h1
theorem Znt.succ {N:List Zy_}{rd:Zy_->List Zy_}{R:List Zy_} (h:Znt N rd R k) (hk:k < N.length) (hx:N[k] ∈ R\/¬ ∀ r ∈ rd N[k],r ∈ R):Znt N rd R (k+1):=by
 intro i hi hik
 by_cases e:i=k
 . subst e;exact hx
 . exact h i hi (by omega)
theorem ZkI {N:List Zy_}{rd:Zy_->List Zy_}{R:List Zy_} (h:Zc4 N rd R):R.length<=N.length:=List.Nodup.length_le_of_subset h.nodup h.sub
def Zua (N:List Zy_) (rd:Zy_->List Zy_) (R R':List Zy_) (k:Nat):Prop:=(R'=R/\Znt N rd R k)\/R.length < R'.length
def Zux (base:Nat) (N:List Zy_) (rd:Zy_->List Zy_) (e:Ending) (w':World):Prop:=
 (∃ v R,e=.returned (.tuple #[v,.bool true])/\Zd7 base w' v R/\Zc4 N rd R/\N.length<=R.length)\/
 (Zpy N rd=false/\e=.returned (.tuple #[.slice none 0 0,.bool false]))
theorem Zd7.room {base:Nat} (W:World) (n g:Nat) (hg:W.heap.size=g) (hb:base<=g) (hn:n<=maxLen):Zd7 base (W.alloc (.cells (madeCells #[.string ⟨#[]⟩] n) 9)) (.slice (some ⟨g,0,none⟩) 0 n) []:=by
 subst hg;exact⟨World.ownsRow_made (base:=base) (e:=9) (size:=1) W _ n hb hn (by rw [size_madeCells,Nat.mul_one]),fun s h=>by simp at h⟩
theorem ZlX (lo:Nat) (tv mv:Value) (N:List Zy_) (Ms:List Md) (kind:Zy_) (B1 B2:Nat) (w:World) (ht:Zaf w tv N) (hnn:N.length<=1048576) (hb1:B1 < w.heap.size) (hb2:B2 < w.heap.size)
 (h1:w.cell? ⟨B1,0,none⟩=some (.string kind)) (h2:w.cell? ⟨B2,0,none⟩=some mv) (hv:Zbe lo w mv Ms) (hn:Ms.length<=1048576) :
 Calls prog 267 #[tv,.func (.func 268) #[] #[.pointer (some ⟨B1,0,none⟩),.pointer (some ⟨B2,0,none⟩)]] w fun e w'=>Zw_ w w'/\Zux w.heap.size N (Zam kind Ms) e w':=by
 obtain⟨i0,hi,hz0,hz1,hz2⟩:=info_parts Tryz.info9;have HT:=Zab ht;have HV:=Zab hv;have H1:=Zab h1;have H2:=Zab h2;obtain⟨ta,tcap,rfl⟩:=ht.form_len;clear ht hv h1 h2
 have hmk:∀ u:World,(Instr.makeSlice 111 (.int .i64 0) (.int .i64 (N.length:Int))).run prog u=.ok (.slice (some ⟨u.heap.size,0,none⟩) 0 N.length) (u.alloc (.cells (madeCells #[.string ⟨#[]⟩] N.length) 9)):=fun u=>by
  have h:=run_make (P:=prog) u 111 9 i0 _ underlying111 hi hz0 .i64 .i64 0 N.length (by omega) (by omega) (by rw [hz2];omega) (by omega);have ec:(Value.string ⟨#[]⟩).cells=#[.string ⟨#[]⟩]:=rfl;rw [hz1,ec] at h
  simpa using h
 have HI:=Zab (And.intro hi (And.intro hz0 (And.intro hz1 hz2)));clear hi hz0 hz1 hz2;go_enter func267,ntmps267;go_wp2;clear hmk
 go_loopw [6] (fun r wr=>∃ R:List Zy_,Zd7 w.heap.size wr r R/\Zw_ w wr/\Zc4 N (Zam kind Ms) R) (fun r _=>N.length - Znj r)
 case atStart=>exact⟨[],Zd7.room w _ _ rfl Zl_ (by unfold maxLen;omega),Zb_.alloc Zl_ _,Zc4.nil⟩
 case round=>
  obtain⟨R,hown,hb,hgood⟩:=hrel;have HO:=Zab hown;have HB:=Zab hb;have HG:=Zab hgood;obtain⟨ra,rcap,rfl⟩:=hown.form;have hRl:R.length<=N.length:=ZkI hgood;clear hown hb hgood
  by_cases hlt:R.length < N.length
  . go_wp2
    go_loopw [6,22] (fun r i wr=>∃ (k:Nat) (R':List Zy_),i=.int .i64 k/\k<=N.length/\Zd7 w.heap.size wr r R'/\Zw_ w wr/\Zc4 N (Zam kind Ms) R'/\Zua N (Zam kind Ms) R R' k) (fun _ i _=>N.length - (intOf i).toNat)
    case atStart=>exact⟨0,R,rfl,by omega,HO.o,HB.o,HG.o,Or.inl ⟨rfl,fun i _ h=>by omega⟩⟩
    case round=>
     obtain⟨k,R',rfl,hk,hown,hb,hgood,hpass⟩:=hrel;have HO':=Zab hown;have HB':=Zab hb;have HG':=Zab hgood;have HP:=Zab hpass;obtain⟨ra',rcap',rfl⟩:=hown.form;have hRl':R'.length<=N.length:=ZkI hgood;clear hown hb hgood hpass HO HB
     by_cases hkl:k < N.length
     . obtain⟨tb,toff,htw,hta,hcN,hszN⟩:∃ tb toff,tb < w.heap.size/\ta=some ⟨tb,toff,none⟩/\(∀ i (h:i < N.length),w.cell? ⟨tb,toff+i,none⟩=some (.string N[i]))/\∀ s ∈ N,s.size<=maxLen:=by
        rcases HT.o with ⟨_,_,_,h⟩ | ⟨b,off,cap,h1,h2,h3,h4,h5,h6⟩
        . rw [h] at hkl;simp at hkl
        . injection h1 with e1 e2 e3;exact⟨b,off,h4,e1,h5,h6⟩
       subst hta;have ck:wr.cell? ⟨tb,toff+k,none⟩=some (.string N[k]):=by rw [HB'.o.cell (p:=⟨tb,_,none⟩) htw];exact hcN k hkl
       have HSZ:Hd (N[k].size<=maxLen):=hszN _ (List.getElem_mem hkl);clear hcN hszN;go_wp2_with fail;refine (ZeN _ R' N[k] _ HO'.o.strs).mono ?_;rintro e w1 ⟨rfl,rfl⟩
       cases hh:Ze8 R' N[k] with
       | true=>
        have HNX:Hd (Zua N (Zam kind Ms) R R' (k+1)):=by
         rcases HP.o with ⟨e1,e2⟩ | h
         . subst e1;exact Or.inl ⟨rfl,e2.succ hkl (Or.inl (Zdy.1 hh))⟩
         . exact Or.inr h
        go_wp2;go_roundw
        . exact⟨k+1,R',by go_num,by omega,HO'.o,HB'.o,HG'.o,HNX.o⟩
        . simp [intOf];omega
       | false=>
        go_wp2_with fail;refine (Zmw lo mv Ms kind N[k] B1 B2 _ (by rw [HB'.o.cell (p:=⟨B1,0,none⟩) hb1];exact H1.o) (by rw [HB'.o.cell (p:=⟨B2,0,none⟩) hb2];exact H2.o) (HV.o.below HB'.o) hn).mono ?_;rintro e w2 ⟨v2,rfl,hbw2,ho2⟩;have HO2:=Zab (HO'.o.below hbw2);have HB2:Hd (Zw_ w w2):=HB'.o.trans (hbw2.mono HB'.o.size);have HS2:=Zab ho2.strs;obtain⟨va,vcap,rfl⟩:=ho2.form;clear hbw2 ho2 ck;go_wp2_with fail;refine (Zkt _ _ R' (Zam kind Ms N[k]) _ HO2.o.strs HS2.o).mono ?_;rintro e w3 ⟨rfl,rfl⟩
        cases hrd:(Zam kind Ms N[k]).all (Ze8 R') with
        | false=>
         have HNX:Hd (Zua N (Zam kind Ms) R R' (k+1)):=by
          rcases HP.o with ⟨e1,e2⟩ | h
          . subst e1;exact Or.inl ⟨rfl,e2.succ hkl (Or.inr fun h=>by have:=Zdq.2 h;unfold Zgc at this;rw [this] at hrd;cases hrd)⟩
          . exact Or.inr h
         go_wp2;go_roundw
         . exact⟨k+1,R',by go_num,by omega,HO2.o,HB2.o,HG'.o,HNX.o⟩
         . simp [intOf];omega
        | true=>
         have HG1:Hd (Zc4 N (Zam kind Ms) (R' ++ [N[k]])):=Zc4.snoc HG'.o (List.getElem_mem hkl) (ZjR hh) (Zdq.1 hrd)
         have HNX:Hd (Zua N (Zam kind Ms) R (R' ++ [N[k]]) (k+1)):=by
          refine Or.inr ?_;rw [List.length_append]
          rcases HP.o with ⟨e1,_⟩ | h
          . subst e1;simp
          . simp;omega
         clear hh hrd;go_wp2_with (at_builtin;refine wpList_append_lies _ rfl (.tmp 37) (.tmp 39) 111 rfl w.heap.size 9 i0 (.string ⟨#[]⟩) 1 16 underlying111 HI.o.1 HI.o.2.1 HI.o.2.2.1 HI.o.2.2.2 rfl (by decide) _ _ _ rfl (HO2.o.below (Zb_.alloc Zl_ _)).row ⟨w3.heap.size,0,none⟩ 1 1 [.string N[k]] rfl rfl (Zf3 _ _ _ _ rfl) (Zeh _) (by decide) (by unfold maxLen;omega) (by omega) (by have:=HB2.o.size;simp;omega) _ rfl ?_;intro g cap1 w4 hown4 hgrow4 hat4 hlt4);go_roundw
         . exact⟨k+1,R' ++ [N[k]],by go_num,by omega,HO2.o.snoc hown4 HSZ.o,(HB2.o.alloc HB2.o.size _).trans ((HO2.o.below (Zb_.alloc Zl_ _)).grown hgrow4 (by have:=HB2.o.size;simp;omega)),HG1.o,HNX.o⟩
         . simp [intOf];omega
     . by_cases hgr:(R'.length:Int)=(R.length:Int)
       . have HNO:Hd (Zpy N (Zam kind Ms)=false):=by
          rcases HP.o with ⟨e1,e2⟩ | h
          . subst e1;exact ZqR (e2.stuck (by omega)) hlt
          . omega
         go_wp2;refine bodyPost_ret (v:=.tuple #[.slice none 0 0,.bool false]) (by simp [results,results267,go_sem]) rfl ⟨HB'.o,Or.inr ⟨HNO.o,rfl⟩⟩
       . have hgt:R.length < R'.length:=by
          rcases HP.o with ⟨e1,e2⟩ | h
          . subst e1;omega
          . exact h
         go_wp2;exact⟨⟨R',HO'.o,HB'.o,HG'.o⟩,by simp only [Znj];omega⟩
  . go_wp2
    refine bodyPost_ret (v:=.tuple #[.slice ra R.length rcap,.bool true]) (by simp [results,results267,go_sem]) rfl ⟨HB.o,Or.inl ⟨_,R,rfl,HO.o,HG.o,by omega⟩⟩
theorem Zb7.below {wr w1:World}{B:Nat}{L:List Zy_} (h:Zb7 wr B L k) (hb:Below wr.heap.size wr w1):Zb7 w1 B L k:=World.rowIs.of_block h (hb.block B (World.rowIs.lt h))
theorem ZgU (lo lm:Nat) (fv mv:Value) (x:Sh) (Ms:List Md) (w0 w:World) (hf:Zau lo w0 fv x.fields) (h0:Below w0.heap.size w0 w) (hv:Zbe lm w mv Ms) (hn:x.fields.length<=1048576) (hm:Ms.length<=1048576) :
 Calls prog 235 #[.agg #[.string x.kind,fv],mv] w fun e w'=>Zw_ w w'/\Zux w.heap.size (ZaD x.fields) (Zam x.kind Ms) e w':=by
 have HF:=Zab hf;have H0:=Zab h0;have HV:=Zab hv;obtain⟨a,cap,rfl⟩:=hf.form;obtain⟨ma,mcap,rfl⟩:=hv.form;clear hf hv h0;have hNl:=ZeZ x.fields
 have hmk:∀ u:World,(Instr.makeSlice 111 (.int .i64 (x.fields.length:Int)) (.int .i64 (x.fields.length:Int))).run prog u=.ok (.slice (some ⟨u.heap.size,0,none⟩) x.fields.length x.fields.length) (u.alloc (.cells (madeCells #[.string ⟨#[]⟩] x.fields.length) 9)):=
  fun u=>run_make_row' 111 9 (.string ⟨#[]⟩) 16 underlying111 Tryz.info9 rfl .i64 .i64 x.fields.length (by omega) (by omega) u
 go_enter func235,ntmps235;go_wp2;clear hmk;generalize hWa:w.alloc _=Wa;have hza:Wa.heap.size=w.heap.size+1:=by rw [<- hWa];simp
 have HBa:Hd (Zw_ w Wa):=by rw [<- hWa];exact Zac _ _
 have FS:Hd (Box Wa w.heap.size #[.string x.kind,.slice a x.fields.length cap]):=by rw [<- hWa];exact Box.new _ _ _ _ rfl
 clear hWa;generalize hWb:Wa.alloc _=Wb;have hzb:Wb.heap.size=w.heap.size+1+1:=by rw [<- hWb];simp [hza]
 have hbb:Below Wa.heap.size Wa Wb:=by rw [<- hWb];exact Zac _ _
 have HBb:Hd (Zw_ w Wb):=HBa.o.trans (hbb.mono (by omega));have FS:=Zab (FS.o.on hbb);have FM:Hd (Box Wb (w.heap.size+1) #[.slice ma Ms.length mcap]):=by rw [<- hWb];exact Box.new _ _ _ _ hza
 clear hWb hbb HBa hza
 have HMD:Hd (Zb7 (Wb.alloc (.cells (madeCells #[.string ⟨#[]⟩] x.fields.length) 9)) (w.heap.size+1+1) (ZaD x.fields) 0):=by
  have:=World.rowIs_made Wb (.string ⟨#[]⟩) x.fields.length 9;rw [hzb,<- hNl] at this;unfold Hd Zb7;rw [hNl] at*;exact this
 have HSZ:Hd (∀ s ∈ ZaD x.fields,s.size<=maxLen):=fun s hs=>by
  obtain⟨i,hi,rfl⟩:=ZcG.1 hs;obtain⟨_,_,_,_,hc⟩:=HF.o.full' (by omega);exact (hc i hi).1.s0
 go_loopw [16] (fun i wr=>∃ k:Nat,i=.int .i64 k/\k<=x.fields.length/\Below (w.heap.size+1+1) Wb wr/\Zb7 wr (w.heap.size+1+1) (ZaD x.fields) k) (fun i _=>x.fields.length - (intOf i).toNat)
 case atStart=>exact⟨0,rfl,by omega,Zb_.alloc (by omega) _,HMD.o⟩
 case round=>
  obtain⟨k,rfl,hk,hb,hfl⟩:=hrel;have HB:=Zab hb;have HFL:=Zab hfl;have HBw:Hd (Zw_ w wr):=HBb.o.trans (hb.mono (by omega));have hBl:w.heap.size+1+1 < wr.heap.size:=World.rowIs.lt hfl
  clear hb hfl HMD
  by_cases hlt:k < x.fields.length
  . obtain⟨b,off,rfl,hbw,hc⟩:=HF.o.full' (by omega)
    obtain⟨_,wv,hcell,hwd⟩:=hc k hlt;obtain⟨wa,wn,wcap,rfl⟩:=hwd.form;obtain⟨c0,c1,c2,c3,c4,c5,c6,c7,c8,c9,c10⟩:=hcell.below (H0.o.trans (HBw.o.mono H0.o.size)) hbw;have hbr:b < wr.heap.size:=Zk_ hbw (Nat.le_trans H0.o.size HBw.o.size)
    obtain⟨ov,hold⟩:=HFL.o.old (by omega:k < (ZaD x.fields).length);have hfr:=HFL.o.frozen
    have HNX:∀ o,Hd (Zb7 ((wr.setCell ⟨w.heap.size+1+1,k,none⟩ (.string x.fields[k].nm)).alloc o) (w.heap.size+1+1) (ZaD x.fields) (k+1)):=fun o=>by
     have:=HFL.o.step (by omega:k < (ZaD x.fields).length);have e:(ZaD x.fields)[k]'(by omega)=x.fields[k].nm:=by simp [ZaD]
     rw [e] at this;exact this.below (Zb_.alloc Zl_ o)
    clear hcell hc hwd;go_wp2;go_roundw
    . exact⟨k+1,by go_num,by omega,(HB.o.setCell Zl_ _).alloc (by simp [World.setCell];omega) _,(HNX _).o⟩
    . simp [intOf];omega
  . have HST:Hd (Zaf wr (.slice (some ⟨w.heap.size+1+1,0,none⟩) x.fields.length x.fields.length) (ZaD x.fields)):=by
     by_cases hz:x.fields.length=0
     . exact Or.inl ⟨_,_,by rw [hz],List.length_eq_zero_iff.1 (by omega)⟩
     . have:=(HFL.o.done (by omega) (by intro e;rw [e] at hNl;simp only [List.length_nil] at hNl;omega) (by unfold maxLen;omega) HSZ.o).at
       rw [hNl] at this;exact this
    have hl0:w.heap.size < Wb.heap.size:=by omega
    have FS:=Zab (FS.o.below HB.o (by omega));have FM:=Zab (FM.o.below HB.o (by omega));go_wp2_with fail;refine (ZlX lm _ _ (ZaD x.fields) Ms x.kind w.heap.size (w.heap.size+1) _ HST.o (by omega) (by omega) (by omega) (FS.o.cell 0) (FM.o.cell 0) (HV.o.below HBw.o) hm).mono ?_;rintro e w2 ⟨hb2,hgr⟩;have HB2:Hd (Zw_ w w2):=HBw.o.trans (hb2.mono HBw.o.size);have hle:w.heap.size<=wr.heap.size:=HBw.o.size;clear hb2
    rcases hgr with ⟨v2,R,rfl,ho,hg,hl⟩ | ⟨hno,rfl⟩
    . have HO:=Zab (ho.mono hle)
      have HG:=Zab hg;obtain⟨va,vcap,rfl⟩:=ho.form;clear ho hg;go_wp2;refine bodyPost_ret (v:=.tuple #[.slice va R.length vcap,.bool true]) (by simp [results,results235,go_sem]) rfl ⟨HB2.o,Or.inl ⟨_,R,rfl,HO.o,HG.o,hl⟩⟩
    . have HN:=Zab hno
      clear hno;go_wp2;refine bodyPost_ret (v:=.tuple #[.slice none 0 0,.bool false]) (by simp [results,results235,go_sem]) rfl ⟨HB2.o,Or.inr ⟨HN.o,rfl⟩⟩
end Go.Proofs.YtmappejlmapboaaGreat
