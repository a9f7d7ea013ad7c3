import Derived.Test.YtfohnageehneoaaGreatUBB
set_option maxHeartbeats 16000000
set_option maxRecDepth 100000
open Go.Proofs.Tryz
namespace Go.Proofs.YtfohnageehneoaaGreat
open Go.RowKit Go.Deep
theorem Zga (r lo lo':Nat) (lv fv:Value) (Ss:List Sh) (Fs:List Fd) (w:World) (hr:w.heap[r]?=some (.map Zal 4)) (hl:ZaR lo w lv Ss) (hv:Zav lo' w fv Fs) :
 Calls prog 225 #[.map (some r),lv,fv] w fun e w'=>e=.returned (.bool (ZaG Ss Fs))/\Zw_ w w':=by
 have HL:=Zab hl;have HR:=Zab hr;have hrl:r < w.heap.size:=(Array.getElem?_eq_some_iff.1 hr).1
 obtain⟨la,lcap,rfl⟩:=hl.form;clear hl hr
 by_cases hL:Fs=[]
 . subst hL
   obtain⟨a,cap,rfl⟩:=Zdt hv;clear hv;go_enter func225,ntmps225;go_wp2
   go_loop [16] (fun i=>i=.int .i64 0) (fun _=>0)
   case atStart=>rfl
   case round=>
    subst hrel;go_wp2;go_ret;exact⟨rfl,Below.refl _ _⟩
 have HFV:=Zab hv;obtain⟨b,off,cap,rfl,hm,hbw,hcp,hc⟩:=hv.full hL
 have hlo:Hd (lo'<=b):=by
  rcases hv with ⟨_,_,_,h⟩ | ⟨b',off',cap',h1,_,_,_,h5,_⟩
  . exact absurd h hL
  . simp only [Value.slice.injEq,Option.some.injEq,Addr.mk.injEq] at h1
    unfold Hd;omega
 clear hv;have HM:=Zab hm;unfold maxLen at hm
 by_cases h6:(Fs.length:Int)<=6
 . go_enter func225,ntmps225
   go_wp2
   go_loopw [16] (fun i wr=>∃ k:Nat,i=.int .i64 k/\k<=Fs.length/\Zw_ w wr/\∀ i,i < k->ZbE Ss Fs i=true) (fun i _=>Fs.length - (intOf i).toNat)
   case atStart=>exact⟨0,rfl,by omega,Below.refl _ _,fun i h=>by omega⟩
   case round=>
    obtain⟨k,rfl,hk,hb,hall⟩:=hrel;have HA:=Zab hall;have HB:=Zab hb;clear hall hb
    by_cases hlt:k < Fs.length
    . obtain⟨hzz,wv,hcell,hws⟩:=hc k hlt
      have HWS0:Hd (Zag w wv Fs[k].words):=hws.at;obtain⟨wa,wcap,rfl⟩:=hws.at.form_len;clear hws;have hbo:b < wr.heap.size:=Zk_ hbw HB.o.size
      have HTK:Hd (Zav lo' wr (.slice (some ⟨b,off,none⟩) k cap) (Fs.take k)):=Zav.take hk HM.o hbo hlo.o hcp (fun i hi=>by
       obtain⟨q1,wv',q2,q3⟩:=hc i hi;exact⟨q1,wv',q2.below HB.o hbw,q3.below HB.o⟩)
      obtain⟨c0,c1,c2,c3,c4,c5,c6,c7,c8,c9,c10⟩:=hcell.below HB.o hbw;clear hcell;have hW:∀ o,Hd (Below wr.heap.size wr (wr.alloc o)):=fun o=>Zb_.alloc Zl_ _
      cases hnm:Zan Fs[k].nm with
      | false=>
       have HN:Hd (ZaG Ss Fs=false):=ZbR hlt (by rw [ZaK hlt,hnm];rfl);go_wp2
       go_quiet ((go_at_call 110;exact Calls.quiet_of_same (Zao _ _ hzz.s0)))
       go_wp2;go_ret;exact⟨Zaa HN.o.symm,below_drewN (HB.o.alloc HB.o.size _) _⟩
      | true=>
       go_wp2
       go_region_with (first
        | (go_at_call 110;refine (Zao _ _ hzz.s0).mono ?_;rintro e w' ⟨rfl,rfl⟩)
        | (go_at_call 254;refine (Zki lo' _ (Fs.take k) _ _ (HTK.o.below (Below.drew (hW _).o))).mono ?_;rintro e w1 ⟨rfl,hb1⟩;have HB1:Hd (Zw_ w w1):=HB.o.trans ((((hW _).o.drew).mono HB.o.size).trans (hb1.mono (by have:=HB.o.size;simp;omega)));have HC1:Hd (Below (wr.heap.size+1) (wr.alloc (.cells #[.string Fs[k].nm,.int .i64 Fs[k].kd,.int .i64 Fs[k].le,.int .i64 Fs[k].mo,.slice wa Fs[k].words.length wcap,.string Fs[k].to,.int .i64 Fs[k].ro,.bool Fs[k].mu,.bool Fs[k].fx,.string Fs[k].df,.string Fs[k].we] 218)) w1):=(Zb_.drew).trans (hb1.mono (by simp));clear hb1))
       all_goals
        have HR1:Hd (w1.heap[r]?=some (.map Zal 4)):=by unfold Hd;rw [HB1.o.block r hrl];exact HR.o
        have hbx:=fun i=>ZaN wr w1 #[.string Fs[k].nm,.int .i64 Fs[k].kd,.int .i64 Fs[k].le,.int .i64 Fs[k].mo,.slice wa Fs[k].words.length wcap,.string Fs[k].to,.int .i64 Fs[k].ro,.bool Fs[k].mu,.bool Fs[k].fx,.string Fs[k].df,.string Fs[k].we] 218 HC1.o i
        cases hdp:ZmF (Fs.take k) Fs[k].nm with
        | true=>
         have HN:Hd (ZaG Ss Fs=false):=ZbR hlt (by rw [ZaK hlt,hdp];simp);go_wp2;go_ret;exact⟨Zaa HN.o.symm,HB1.o⟩
        | false=>
         by_cases hk1:Fs[k].kd=1
         . have HRE:Hd (Zd3 Ss Fs[k]=(ZfE Fs[k].words.length Fs[k].to Fs[k].ro&&Zcf Fs[k].le Fs[k].mo Fs[k].we&&(Fs[k].df.toList.isEmpty || ZaP 1 Fs[k].le Fs[k].mo Fs[k].words Fs[k].df))):=by unfold Hd Zd3;rw [if_pos hk1]
           have hlk:(Instr.lookup 274 (.map (some r)) (.int .i64 Fs[k].kd) true).run prog w1=.ok (.tuple #[.func (.func 250) #[] #[],.bool true]) w1:=by rw [hk1];exact Zdz w1 r 1 _ HR1.o Zsw
           clear hk1;go_wp2
           go_region_with (first
            | (go_at_call 250;refine (Zsu _ _ _ _ _ _ _ _ _ _ _ _ _ _).mono ?_;rintro e w2 ⟨rfl,hb2⟩;have HC2:Hd (Below (wr.heap.size+1) (wr.alloc (.cells #[.string Fs[k].nm,.int .i64 Fs[k].kd,.int .i64 Fs[k].le,.int .i64 Fs[k].mo,.slice wa Fs[k].words.length wcap,.string Fs[k].to,.int .i64 Fs[k].ro,.bool Fs[k].mu,.bool Fs[k].fx,.string Fs[k].df,.string Fs[k].we] 218)) w2):=(HC1.o.drew).trans (hb2.mono (by have:=HC1.o.size;simp at this;exact this));have hbx2:=fun i=>ZaN wr w2 #[.string Fs[k].nm,.int .i64 Fs[k].kd,.int .i64 Fs[k].le,.int .i64 Fs[k].mo,.slice wa Fs[k].words.length wcap,.string Fs[k].to,.int .i64 Fs[k].ro,.bool Fs[k].mu,.bool Fs[k].fx,.string Fs[k].df,.string Fs[k].we] 218 HC2.o i;have HB2:Hd (Zw_ w w2):=(HB1.o.drew).trans (hb2.mono HB1.o.size);clear hb2)
            | (go_at_call 255;refine (ZmJ _ _ _ _ _ _ _ _ _ _ Fs[k].words _ _ _ lo _ Ss (HL.o.below HB2.o) (HWS0.o.below HB2.o) hzz.s9 hzz.s10).mono ?_;rintro e w3 ⟨rfl,hb3⟩;rw [<- HRE.o];have HB3:Hd (Zw_ w w3):=HB2.o.trans (hb3.mono HB2.o.size);clear hb3))
           all_goals
            cases hre:Zd3 Ss Fs[k] with
            | false=>
             have HN:Hd (ZaG Ss Fs=false):=ZbR hlt (by rw [ZaK hlt,hre];simp);go_wp2;go_ret;exact⟨Zaa HN.o.symm,HB3.o⟩
            | true=>
             have HFA:Hd (ZbE Ss Fs k=true):=by unfold Hd;rw [ZaK hlt,hnm,hre,hdp];rfl
             go_wp2;go_roundw
             case rel=>exact⟨k+1,by go_num,by omega,HB3.o,fun i hi=>by
                        by_cases e:i=k
                        . rw [e];exact HFA.o
                        . exact HA.o i (by omega)⟩
             . simp [intOf];omega
         by_cases hk2:Fs[k].kd=2
         . have HRE:Hd (Zd3 Ss Fs[k]=(ZeQ Fs[k].le Fs[k].mo Fs[k].to Fs[k].ro Fs[k].we&&Zeb Fs[k].words.length Fs[k].words&&(Fs[k].df.toList.isEmpty || ZaP 2 Fs[k].le Fs[k].mo Fs[k].words Fs[k].df))):=by unfold Hd Zd3;rw [if_neg hk1,if_pos hk2]
           have hlk:(Instr.lookup 274 (.map (some r)) (.int .i64 Fs[k].kd) true).run prog w1=.ok (.tuple #[.func (.func 251) #[] #[],.bool true]) w1:=by rw [hk2];exact Zdz w1 r 2 _ HR1.o ZsA
           clear hk1 hk2;go_wp2
           go_region_with (first
            | (go_at_call 251;refine (Zsy _ _ _ _ _ _ _ _ _ _ _ _ _ _).mono ?_;rintro e w2 ⟨rfl,hb2⟩;have HC2:Hd (Below (wr.heap.size+1) (wr.alloc (.cells #[.string Fs[k].nm,.int .i64 Fs[k].kd,.int .i64 Fs[k].le,.int .i64 Fs[k].mo,.slice wa Fs[k].words.length wcap,.string Fs[k].to,.int .i64 Fs[k].ro,.bool Fs[k].mu,.bool Fs[k].fx,.string Fs[k].df,.string Fs[k].we] 218)) w2):=(HC1.o.drew).trans (hb2.mono (by have:=HC1.o.size;simp at this;exact this));have hbx2:=fun i=>ZaN wr w2 #[.string Fs[k].nm,.int .i64 Fs[k].kd,.int .i64 Fs[k].le,.int .i64 Fs[k].mo,.slice wa Fs[k].words.length wcap,.string Fs[k].to,.int .i64 Fs[k].ro,.bool Fs[k].mu,.bool Fs[k].fx,.string Fs[k].df,.string Fs[k].we] 218 HC2.o i;have HB2:Hd (Zw_ w w2):=(HB1.o.drew).trans (hb2.mono HB1.o.size);clear hb2)
            | (go_at_call 255;refine (ZnL _ _ _ _ _ _ _ _ _ _ Fs[k].words _ _ _ lo _ Ss (HL.o.below HB2.o) (HWS0.o.below HB2.o) hzz.s9 hzz.s10).mono ?_;rintro e w3 ⟨rfl,hb3⟩;rw [<- HRE.o];have HB3:Hd (Zw_ w w3):=HB2.o.trans (hb3.mono HB2.o.size);clear hb3))
           all_goals
            cases hre:Zd3 Ss Fs[k] with
            | false=>
             have HN:Hd (ZaG Ss Fs=false):=ZbR hlt (by rw [ZaK hlt,hre];simp);go_wp2;go_ret;exact⟨Zaa HN.o.symm,HB3.o⟩
            | true=>
             have HFA:Hd (ZbE Ss Fs k=true):=by unfold Hd;rw [ZaK hlt,hnm,hre,hdp];rfl
             go_wp2;go_roundw
             case rel=>exact⟨k+1,by go_num,by omega,HB3.o,fun i hi=>by
                        by_cases e:i=k
                        . rw [e];exact HFA.o
                        . exact HA.o i (by omega)⟩
             . simp [intOf];omega
         by_cases hk3:Fs[k].kd=3
         . have HRE:Hd (Zd3 Ss Fs[k]=(Ze4 Fs[k].words.length Fs[k].to Fs[k].ro Fs[k].we&&Zc1 Fs[k].le Fs[k].mo&&(Fs[k].df.toList.isEmpty || ZaP 3 Fs[k].le Fs[k].mo Fs[k].words Fs[k].df))):=by unfold Hd Zd3;rw [if_neg hk1,if_neg hk2,if_pos hk3]
           have hlk:(Instr.lookup 274 (.map (some r)) (.int .i64 Fs[k].kd) true).run prog w1=.ok (.tuple #[.func (.func 252) #[] #[],.bool true]) w1:=by rw [hk3];exact Zdz w1 r 3 _ HR1.o Zst
           clear hk1 hk2 hk3;go_wp2
           go_region_with (first
            | (go_at_call 252;refine (ZsL _ _ _ _ _ _ _ _ _ _ _ _ _ _).mono ?_;rintro e w2 ⟨rfl,hb2⟩;have HC2:Hd (Below (wr.heap.size+1) (wr.alloc (.cells #[.string Fs[k].nm,.int .i64 Fs[k].kd,.int .i64 Fs[k].le,.int .i64 Fs[k].mo,.slice wa Fs[k].words.length wcap,.string Fs[k].to,.int .i64 Fs[k].ro,.bool Fs[k].mu,.bool Fs[k].fx,.string Fs[k].df,.string Fs[k].we] 218)) w2):=(HC1.o.drew).trans (hb2.mono (by have:=HC1.o.size;simp at this;exact this));have hbx2:=fun i=>ZaN wr w2 #[.string Fs[k].nm,.int .i64 Fs[k].kd,.int .i64 Fs[k].le,.int .i64 Fs[k].mo,.slice wa Fs[k].words.length wcap,.string Fs[k].to,.int .i64 Fs[k].ro,.bool Fs[k].mu,.bool Fs[k].fx,.string Fs[k].df,.string Fs[k].we] 218 HC2.o i;have HB2:Hd (Zw_ w w2):=(HB1.o.drew).trans (hb2.mono HB1.o.size);clear hb2)
            | (go_at_call 255;refine (ZnE _ _ _ _ _ _ _ _ _ _ Fs[k].words _ _ _ lo _ Ss (HL.o.below HB2.o) (HWS0.o.below HB2.o) hzz.s9 hzz.s10).mono ?_;rintro e w3 ⟨rfl,hb3⟩;rw [<- HRE.o];have HB3:Hd (Zw_ w w3):=HB2.o.trans (hb3.mono HB2.o.size);clear hb3))
           all_goals
            cases hre:Zd3 Ss Fs[k] with
            | false=>
             have HN:Hd (ZaG Ss Fs=false):=ZbR hlt (by rw [ZaK hlt,hre];simp);go_wp2;go_ret;exact⟨Zaa HN.o.symm,HB3.o⟩
            | true=>
             have HFA:Hd (ZbE Ss Fs k=true):=by unfold Hd;rw [ZaK hlt,hnm,hre,hdp];rfl
             go_wp2;go_roundw
             case rel=>exact⟨k+1,by go_num,by omega,HB3.o,fun i hi=>by
                        by_cases e:i=k
                        . rw [e];exact HFA.o
                        . exact HA.o i (by omega)⟩
             . simp [intOf];omega
         by_cases hk4:Fs[k].kd=4
         . have HRE:Hd (Zd3 Ss Fs[k]=(Ze8 Fs[k].le Fs[k].mo Fs[k].words.length Fs[k].we&&Zdi Ss Fs[k].to Fs[k].ro Fs[k].mu Fs[k].df&&(Fs[k].df.toList.isEmpty || ZaP 4 Fs[k].le Fs[k].mo Fs[k].words Fs[k].df))):=by unfold Hd Zd3;rw [if_neg hk1,if_neg hk2,if_neg hk3,if_pos hk4]
           have hlk:(Instr.lookup 274 (.map (some r)) (.int .i64 Fs[k].kd) true).run prog w1=.ok (.tuple #[.func (.func 253) #[] #[],.bool true]) w1:=by rw [hk4];exact Zdz w1 r 4 _ HR1.o ZsN
           clear hk1 hk2 hk3 hk4;go_wp2
           go_region_with (first
            | (go_at_call 253;refine (Zsq _ _ _ _ _ _ _ _ _ _ _ _ _ _).mono ?_;rintro e w2 ⟨rfl,hb2⟩;have HC2:Hd (Below (wr.heap.size+1) (wr.alloc (.cells #[.string Fs[k].nm,.int .i64 Fs[k].kd,.int .i64 Fs[k].le,.int .i64 Fs[k].mo,.slice wa Fs[k].words.length wcap,.string Fs[k].to,.int .i64 Fs[k].ro,.bool Fs[k].mu,.bool Fs[k].fx,.string Fs[k].df,.string Fs[k].we] 218)) w2):=(HC1.o.drew).trans (hb2.mono (by have:=HC1.o.size;simp at this;exact this));have hbx2:=fun i=>ZaN wr w2 #[.string Fs[k].nm,.int .i64 Fs[k].kd,.int .i64 Fs[k].le,.int .i64 Fs[k].mo,.slice wa Fs[k].words.length wcap,.string Fs[k].to,.int .i64 Fs[k].ro,.bool Fs[k].mu,.bool Fs[k].fx,.string Fs[k].df,.string Fs[k].we] 218 HC2.o i;have HB2:Hd (Zw_ w w2):=(HB1.o.drew).trans (hb2.mono HB1.o.size);clear hb2)
            | (go_at_call 255;refine (Zmw _ _ _ _ _ _ _ _ _ _ Fs[k].words _ _ _ lo _ Ss (HL.o.below HB2.o) (HWS0.o.below HB2.o) hzz.s9 hzz.s10).mono ?_;rintro e w3 ⟨rfl,hb3⟩;rw [<- HRE.o];have HB3:Hd (Zw_ w w3):=HB2.o.trans (hb3.mono HB2.o.size);clear hb3))
           all_goals
            cases hre:Zd3 Ss Fs[k] with
            | false=>
             have HN:Hd (ZaG Ss Fs=false):=ZbR hlt (by rw [ZaK hlt,hre];simp);go_wp2;go_ret;exact⟨Zaa HN.o.symm,HB3.o⟩
            | true=>
             have HFA:Hd (ZbE Ss Fs k=true):=by unfold Hd;rw [ZaK hlt,hnm,hre,hdp];rfl
             go_wp2;go_roundw
             case rel=>exact⟨k+1,by go_num,by omega,HB3.o,fun i hi=>by
                        by_cases e:i=k
                        . rw [e];exact HFA.o
                        . exact HA.o i (by omega)⟩
             . simp [intOf];omega
         have HN:Hd (ZaG Ss Fs=false):=ZbR hlt (by rw [ZaK hlt];simp [Zd3,hk1,hk2,hk3,hk4]);have hlk:(Instr.lookup 274 (.map (some r)) (.int .i64 Fs[k].kd) true).run prog w1=.ok (.tuple #[.nilFunc,.bool false]) w1:=Zdz w1 r _ _ HR1.o (ZsB hk1 hk2 hk3 hk4);clear hk1 hk2 hk3 hk4;go_wp2
         go_quiet (fail)
         go_wp2;go_ret;exact⟨Zaa HN.o.symm,below_drewN HB1.o _⟩
    . go_wp2
      go_ret;exact⟨Zaa (ZdP (by omega) (fun i hi=>HA.o i (by omega))).symm,HB.o⟩
 . go_enter func225,ntmps225
   go_wp2;go_ret;exact⟨Zaa (ZfO (by omega)).symm,Below.refl _ _⟩
theorem Zmo {Ss:List Sh}{k:Nat} (h6:Ss.length<=6) (hk:Ss.length<=k) (h:∀ i,i < k->Zba Ss i=true):ZaH Ss=true:=by
 unfold ZaH;rw [Za7 (fun i hi=>h i (by omega))];simp [h6]
theorem ZhO (lo:Nat) (v:Value) (Ss:List Sh) (w:World) (hv:ZaR lo w v Ss) :
 Calls prog 192 #[v] w fun e w'=>e=.returned (.bool (ZaH Ss))/\Zw_ w w':=by
 have HL:=Zab hv;have HW:∀ o,Hd (Zw_ w (w.alloc o)):=fun o=>Zb_.alloc Zl_ _
 by_cases hL:Ss=[]
 . subst hL
   obtain⟨a,cap,rfl⟩:=hv.form;clear hv;go_enter func192,ntmps192;go_wp2_with fail;refine (ZeH _).mono ?_;rintro e w1 ⟨rfl,rfl⟩;go_wp2
   go_loop [12] (fun i=>i=.int .i64 0) (fun _=>0)
   case atStart=>rfl
   case round=>
    subst hrel;go_wp2;go_ret;exact⟨rfl,(HW _).o⟩
 obtain⟨b,off,cap,rfl,hm,hbw,hc⟩:=hv.full hL;clear hv;unfold maxLen at hm
 by_cases h6:(Ss.length:Int)<=6
 . go_enter func192,ntmps192
   go_wp2_with fail;refine (ZeH _).mono ?_;rintro e w1 ⟨rfl,hw1⟩;have HB0:Hd (Zw_ w w1):=by unfold Hd;rw [hw1];exact (HW _).o
   have HR0:Hd (w1.heap[w.heap.size]?=some (.map Zal 4)):=by unfold Hd;rw [hw1];exact (MapKept.heap_alloc w _).1
   have hz1:w.heap.size < w1.heap.size:=by rw [hw1];simp
   clear hw1;go_wp2
   go_loopw [12] (fun i wr=>∃ k:Nat,i=.int .i64 k/\k<=Ss.length/\Below w1.heap.size w1 wr/\∀ i,i < k->Zba Ss i=true) (fun i _=>Ss.length - (intOf i).toNat)
   case atStart=>exact⟨0,rfl,by omega,Below.refl _ _,fun i h=>by omega⟩
   case round=>
    obtain⟨k,rfl,hk,hb1,hall⟩:=hrel;have HA:=Zab hall;have HB1:=Zab hb1;have HB:Hd (Zw_ w wr):=HB0.o.trans (hb1.mono HB0.o.size);have HR:Hd (wr.heap[w.heap.size]?=some (.map Zal 4)):=by unfold Hd;rw [hb1.block w.heap.size hz1];exact HR0.o
    clear hall hb1
    by_cases hlt:k < Ss.length
    . obtain⟨hsz,fv,d0,d1,hst⟩:=hc k hlt
      have c0:wr.cell? ⟨b,off+k*2,none⟩=some (.string Ss[k].kind):=by rw [HB.o.cell (p:=⟨b,_,none⟩) hbw];exact d0
      have c1:wr.cell? ⟨b,off+k*2+1,none⟩=some fv:=by rw [HB.o.cell (p:=⟨b,_,none⟩) hbw];exact d1
      have HST:=Zab hst;obtain⟨fa,fcap,rfl⟩:=hst.form;clear d0 d1 hst;have hbo:b < wr.heap.size:=Zk_ hbw HB.o.size
      cases hnm:Zan Ss[k].kind with
      | false=>
       have HN:Hd (ZaH Ss=false):=by
        unfold Hd;refine ZbA hlt ?_
        cases k with
        | zero=>rw [ZcM hlt,hnm];rfl
        | succ j=>rw [ZbQ hlt,hnm];rfl
       go_wp2
       go_quiet ((go_at_call 110;exact Calls.quiet_of_same (Zao _ _ hsz)))
       go_wp2;go_ret;exact⟨Zaa HN.o.symm,below_drewN (HB.o.alloc HB.o.size _) _⟩
      | true=>
       cases k with
       | zero=>
        have HEQ:Hd (Zba Ss 0=ZaG Ss Ss[0].fields):=by unfold Hd;rw [ZcM hlt,hnm];rfl
        have c0':wr.cell? ⟨b,off,none⟩=some (.string Ss[0].kind):=by simpa using c0
        have c1':wr.cell? ⟨b,off+1,none⟩=some (.slice fa Ss[0].fields.length fcap):=by simpa using c1
        clear c0 c1;go_wp2
        go_quiet ((go_at_call 110;exact Calls.quiet_of_same (Zao _ _ hsz)))
        go_wp2_with fail;have HBD:∀ o n,Hd (Zw_ w ((wr.alloc o).drewN n)):=fun o n=>below_drewN (HB.o.alloc HB.o.size _) _
        have HRD:∀ o n,Hd (((wr.alloc o).drewN n).heap[w.heap.size]?=some (.map Zal 4)):=fun o n=>by
         unfold Hd;rw [(below_drewN ((Below.refl wr.heap.size wr).alloc Zl_ o) n).block w.heap.size (Zk_ hz1 HB1.o.size)];exact HR.o
        refine (Zga w.heap.size lo lo _ _ Ss Ss[0].fields _ (HRD _ _).o (HL.o.below (HBD _ _).o) (HST.o.below (HBD _ _).o)).mono ?_;rintro e w3 ⟨rfl,hb3⟩;have HB3:Hd (Zw_ w w3):=(HBD _ _).o.trans (hb3.mono (HBD _ _).o.size);have HB13:Hd (Below w1.heap.size w1 w3):=(below_drewN (HB1.o.alloc HB1.o.size _) _).trans (hb3.mono (below_drewN (HB1.o.alloc HB1.o.size _) _).size);clear hb3
        cases hfb:ZaG Ss Ss[0].fields with
        | false=>
         have HN:Hd (ZaH Ss=false):=ZbA hlt (by rw [HEQ.o];exact hfb);go_wp2;go_ret;exact⟨Zaa HN.o.symm,HB3.o⟩
        | true=>
         have hnx:Hd (∀ i,i < 0+1->Zba Ss i=true):=fun i hi=>by
          by_cases e:i=0
          . rw [e,HEQ.o];exact hfb
          . exact HA.o i (by omega)
         go_wp2;go_roundw
         . exact⟨0+1,by go_num,by omega,HB13.o,hnx.o⟩
         . simp [intOf];omega
       | succ jj=>
        obtain⟨_,fvj,dj,_,_⟩:=hc jj (by omega);have cj:wr.cell? ⟨b,off+jj*2,none⟩=some (.string Ss[jj].kind):=by rw [HB.o.cell (p:=⟨b,_,none⟩) hbw];exact dj
        clear dj;have hjw:IntKind.i64.wrap (jj:Int)=jj:=by rw [IntKind.wrap_i64];omega
        have hjl:jj < Ss.length:=by omega
        have hdl:decide ((jj:Int)+1 < (Ss.length:Int))=true:=by simp;omega
        have cj2:∀ o,(wr.alloc o).cell? ⟨b,off+jj*2,none⟩=some (.string Ss[jj].kind):=fun o=>by rw [((Below.refl wr.heap.size wr).alloc Zl_ o).cell (p:=⟨b,_,none⟩) hbo];exact cj
        have cj3:∀ o n,((wr.alloc o).drewN n).cell? ⟨b,off+jj*2,none⟩=some (.string Ss[jj].kind):=fun o n=>cj2 o
        cases hls:Op.bytesLess Ss[jj].kind.toList Ss[jj+1].kind.toList with
        | false=>
         have HN:Hd (ZaH Ss=false):=ZbA hlt (by rw [ZbQ hlt,hls];simp);go_wp2
         go_quiet ((go_at_call 110;exact Calls.quiet_of_same (Zao _ _ hsz)))
         go_wp2;go_ret;exact⟨Zaa HN.o.symm,below_drewN (HB.o.alloc HB.o.size _) _⟩
        | true=>
         have HEQ:Hd (Zba Ss (jj+1)=ZaG Ss Ss[jj+1].fields):=by unfold Hd;rw [ZbQ hlt,hnm,hls];rfl
         go_wp2
         go_quiet ((go_at_call 110;exact Calls.quiet_of_same (Zao _ _ hsz)))
         go_wp2_with fail;have HBD:∀ o n,Hd (Zw_ w ((wr.alloc o).drewN n)):=fun o n=>below_drewN (HB.o.alloc HB.o.size _) _
         have HRD:∀ o n,Hd (((wr.alloc o).drewN n).heap[w.heap.size]?=some (.map Zal 4)):=fun o n=>by
          unfold Hd;rw [(below_drewN ((Below.refl wr.heap.size wr).alloc Zl_ o) n).block w.heap.size (Zk_ hz1 HB1.o.size)];exact HR.o
         refine (Zga w.heap.size lo lo _ _ Ss Ss[jj+1].fields _ (HRD _ _).o (HL.o.below (HBD _ _).o) (HST.o.below (HBD _ _).o)).mono ?_;rintro e w3 ⟨rfl,hb3⟩;have HB3:Hd (Zw_ w w3):=(HBD _ _).o.trans (hb3.mono (HBD _ _).o.size);have HB13:Hd (Below w1.heap.size w1 w3):=(below_drewN (HB1.o.alloc HB1.o.size _) _).trans (hb3.mono (below_drewN (HB1.o.alloc HB1.o.size _) _).size);clear hb3
         cases hfb:ZaG Ss Ss[jj+1].fields with
         | false=>
          have HN:Hd (ZaH Ss=false):=ZbA hlt (by rw [HEQ.o];exact hfb);go_wp2;go_ret;exact⟨Zaa HN.o.symm,HB3.o⟩
         | true=>
          have hnx:Hd (∀ i,i < jj+1+1->Zba Ss i=true):=fun i hi=>by
           by_cases e:i=jj+1
           . rw [e,HEQ.o];exact hfb
           . exact HA.o i (by omega)
          go_wp2;go_roundw
          . exact⟨jj+1+1,by go_num,by omega,HB13.o,hnx.o⟩
          . simp [intOf];omega
    . go_wp2
      go_ret;exact⟨Zaa (Zmo (by omega) (by omega) HA.o).symm,HB.o⟩
 . go_enter func192,ntmps192
   go_wp2;go_ret;exact⟨Zaa (by unfold ZaH;simp;intro h;omega),Below.refl _ _⟩
end Go.Proofs.YtfohnageehneoaaGreat
