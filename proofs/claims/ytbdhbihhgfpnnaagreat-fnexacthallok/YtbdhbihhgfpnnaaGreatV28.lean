import Derived.Test.YtbdhbihhgfpnnaaGreatV05
set_option maxHeartbeats 16000000
set_option maxRecDepth 100000
open Go.Proofs.Tryz
namespace Go.Proofs.YtbdhbihhgfpnnaaGreat
open Go.RowKit Go.Deep
theorem ZfC (r lo lo':Nat) (lv fv:Value) (Ss:List Sh) (Fs:List Fd) (w:World) (hr:w.heap[r]?=some (.map Zaj 4)) (hl:Zba lo w lv Ss) (hv:ZaU lo' w fv Fs) :
 Calls prog 199 #[.map (some r),lv,fv] w fun e w'=>e=.returned (.bool (ZaE Ss Fs))/\Zw_ w w':=by
 have HL:=Zab hl;have HR:=Zab hr;have hrl:r < w.heap.size:=(Array.getElem?_eq_some_iff.1 hr).1
 obtain⟨la,lcap,rfl⟩:=hl.form;clear hl hr
 by_cases hL:Fs=[]
 . subst hL
   obtain⟨a,cap,rfl⟩:=Zf9 hv;clear hv;go_enter func199,ntmps199;go_wp2
   go_loop [16] (fun i=>i=.int .i64 0) (fun _=>0)
   case atStart=>rfl
   case round=>
    subst hrel;go_wp2;go_ret;exact⟨rfl,Below.refl _ _⟩
 have HFV:=Zab hv;obtain⟨b,off,cap,rfl,hm,hbw,hcp,hc⟩:=hv.full hL
 have hlo:Hd (lo'<=b):=by
  rcases hv with ⟨_,_,_,h⟩ | ⟨b',off',cap',h1,_,_,_,h5,_⟩
  . exact absurd h hL
  . simp only [Value.slice.injEq,Option.some.injEq,Addr.mk.injEq] at h1
    unfold Hd;omega
 clear hv;have HM:=Zab hm;unfold maxLen at hm
 by_cases h6:(Fs.length:Int)<=6
 . go_enter func199,ntmps199
   go_wp2
   go_loopw [16] (fun i wr=>∃ k:Nat,i=.int .i64 k/\k<=Fs.length/\Zw_ w wr/\∀ i,i < k->Zbw Ss Fs i=true) (fun i _=>Fs.length - (intOf i).toNat)
   case atStart=>exact⟨0,rfl,by omega,Below.refl _ _,fun i h=>by omega⟩
   case round=>
    obtain⟨k,rfl,hk,hb,hall⟩:=hrel;have HA:=Zab hall;have HB:=Zab hb;clear hall hb
    by_cases hlt:k < Fs.length
    . obtain⟨hzz,wv,hcell,hws⟩:=hc k hlt
      have HWS0:Hd (Zae w wv Fs[k].words):=hws.at;obtain⟨wa,wcap,rfl⟩:=hws.at.form_len;clear hws;have hbo:b < wr.heap.size:=Zk_ hbw HB.o.size
      have HTK:Hd (ZaU lo' wr (.slice (some ⟨b,off,none⟩) k cap) (Fs.take k)):=ZaU.take hk HM.o hbo hlo.o hcp (fun i hi=>by
       obtain⟨q1,wv',q2,q3⟩:=hc i hi;exact⟨q1,wv',q2.below HB.o hbw,q3.below HB.o⟩)
      obtain⟨c0,c1,c2,c3,c4,c5,c6,c7,c8,c9,c10⟩:=hcell.below HB.o hbw;clear hcell;have hW:∀ o,Hd (Below wr.heap.size wr (wr.alloc o)):=fun o=>Zb_.alloc Zl_ _
      cases hnm:Zan Fs[k].nm with
      | false=>
       have HN:Hd (ZaE Ss Fs=false):=ZbB hlt (by rw [ZaK hlt,hnm];rfl);go_wp2
       go_quiet ((go_at_call 68;exact Calls.quiet_of_same (Zak _ _ hzz.s0)))
       go_wp2;go_ret;exact⟨Zaa HN.o.symm,below_drewN (HB.o.alloc HB.o.size _) _⟩
      | true=>
       go_wp2
       go_region_with (first
        | (go_at_call 68;refine (Zak _ _ hzz.s0).mono ?_;rintro e w' ⟨rfl,rfl⟩)
        | (go_at_call 231;refine (Zjj lo' _ (Fs.take k) _ _ (HTK.o.below (Below.drew (hW _).o))).mono ?_;rintro e w1 ⟨rfl,hb1⟩;have HB1:Hd (Zw_ w w1):=HB.o.trans ((((hW _).o.drew).mono HB.o.size).trans (hb1.mono (by have:=HB.o.size;simp;omega)));have HC1:Hd (Below (wr.heap.size+1) (wr.alloc (.cells #[.string Fs[k].nm,.int .i64 Fs[k].kd,.int .i64 Fs[k].le,.int .i64 Fs[k].mo,.slice wa Fs[k].words.length wcap,.string Fs[k].to,.int .i64 Fs[k].ro,.bool Fs[k].mu,.bool Fs[k].fx,.string Fs[k].df,.string Fs[k].we] 109)) w1):=(Zb_.drew).trans (hb1.mono (by simp));clear hb1))
       all_goals
        have HR1:Hd (w1.heap[r]?=some (.map Zaj 4)):=by unfold Hd;rw [HB1.o.block r hrl];exact HR.o
        have hbx:=fun i=>ZaM wr w1 #[.string Fs[k].nm,.int .i64 Fs[k].kd,.int .i64 Fs[k].le,.int .i64 Fs[k].mo,.slice wa Fs[k].words.length wcap,.string Fs[k].to,.int .i64 Fs[k].ro,.bool Fs[k].mu,.bool Fs[k].fx,.string Fs[k].df,.string Fs[k].we] 109 HC1.o i
        cases hdp:ZlI (Fs.take k) Fs[k].nm with
        | true=>
         have HN:Hd (ZaE Ss Fs=false):=ZbB hlt (by rw [ZaK hlt,hdp];simp);go_wp2;go_ret;exact⟨Zaa HN.o.symm,HB1.o⟩
        | false=>
         by_cases hk1:Fs[k].kd=1
         . have HRE:Hd (ZdI Ss Fs[k]=(ZeZ Fs[k].words.length Fs[k].to Fs[k].ro&&Zb0 Fs[k].le Fs[k].mo Fs[k].we&&(Fs[k].df.toList.isEmpty || ZaN 1 Fs[k].le Fs[k].mo Fs[k].words Fs[k].df))):=by unfold Hd ZdI;rw [if_pos hk1]
           have hlk:(Instr.lookup 266 (.map (some r)) (.int .i64 Fs[k].kd) true).run prog w1=.ok (.tuple #[.func (.func 227) #[] #[],.bool true]) w1:=by rw [hk1];exact Zdj w1 r 1 _ HR1.o ZrT
           clear hk1;go_wp2
           go_region_with (first
            | (go_at_call 227;refine (Zsa _ _ _ _ _ _ _ _ _ _ _ _ _ _).mono ?_;rintro e w2 ⟨rfl,hb2⟩;have HC2:Hd (Below (wr.heap.size+1) (wr.alloc (.cells #[.string Fs[k].nm,.int .i64 Fs[k].kd,.int .i64 Fs[k].le,.int .i64 Fs[k].mo,.slice wa Fs[k].words.length wcap,.string Fs[k].to,.int .i64 Fs[k].ro,.bool Fs[k].mu,.bool Fs[k].fx,.string Fs[k].df,.string Fs[k].we] 109)) w2):=(HC1.o.drew).trans (hb2.mono (by have:=HC1.o.size;simp at this;exact this));have hbx2:=fun i=>ZaM wr w2 #[.string Fs[k].nm,.int .i64 Fs[k].kd,.int .i64 Fs[k].le,.int .i64 Fs[k].mo,.slice wa Fs[k].words.length wcap,.string Fs[k].to,.int .i64 Fs[k].ro,.bool Fs[k].mu,.bool Fs[k].fx,.string Fs[k].df,.string Fs[k].we] 109 HC2.o i;have HB2:Hd (Zw_ w w2):=(HB1.o.drew).trans (hb2.mono HB1.o.size);clear hb2)
            | (go_at_call 232;refine (Zl4 _ _ _ _ _ _ _ _ _ _ Fs[k].words _ _ _ lo _ Ss (HL.o.below HB2.o) (HWS0.o.below HB2.o) hzz.s9 hzz.s10).mono ?_;rintro e w3 ⟨rfl,hb3⟩;rw [<- HRE.o];have HB3:Hd (Zw_ w w3):=HB2.o.trans (hb3.mono HB2.o.size);clear hb3))
           all_goals
            cases hre:ZdI Ss Fs[k] with
            | false=>
             have HN:Hd (ZaE Ss Fs=false):=ZbB hlt (by rw [ZaK hlt,hre];simp);go_wp2;go_ret;exact⟨Zaa HN.o.symm,HB3.o⟩
            | true=>
             have HFA:Hd (Zbw Ss Fs k=true):=by unfold Hd;rw [ZaK hlt,hnm,hre,hdp];rfl
             go_wp2;go_roundw
             case rel=>exact⟨k+1,by go_num,by omega,HB3.o,fun i hi=>by
                        by_cases e:i=k
                        . rw [e];exact HFA.o
                        . exact HA.o i (by omega)⟩
             . simp [intOf];omega
         by_cases hk2:Fs[k].kd=2
         . have HRE:Hd (ZdI Ss Fs[k]=(Zer Fs[k].le Fs[k].mo Fs[k].to Fs[k].ro Fs[k].we&&ZdP Fs[k].words.length Fs[k].words&&(Fs[k].df.toList.isEmpty || ZaN 2 Fs[k].le Fs[k].mo Fs[k].words Fs[k].df))):=by unfold Hd ZdI;rw [if_neg hk1,if_pos hk2]
           have hlk:(Instr.lookup 266 (.map (some r)) (.int .i64 Fs[k].kd) true).run prog w1=.ok (.tuple #[.func (.func 228) #[] #[],.bool true]) w1:=by rw [hk2];exact Zdj w1 r 2 _ HR1.o ZrU
           clear hk1 hk2;go_wp2
           go_region_with (first
            | (go_at_call 228;refine (Zsb _ _ _ _ _ _ _ _ _ _ _ _ _ _).mono ?_;rintro e w2 ⟨rfl,hb2⟩;have HC2:Hd (Below (wr.heap.size+1) (wr.alloc (.cells #[.string Fs[k].nm,.int .i64 Fs[k].kd,.int .i64 Fs[k].le,.int .i64 Fs[k].mo,.slice wa Fs[k].words.length wcap,.string Fs[k].to,.int .i64 Fs[k].ro,.bool Fs[k].mu,.bool Fs[k].fx,.string Fs[k].df,.string Fs[k].we] 109)) w2):=(HC1.o.drew).trans (hb2.mono (by have:=HC1.o.size;simp at this;exact this));have hbx2:=fun i=>ZaM wr w2 #[.string Fs[k].nm,.int .i64 Fs[k].kd,.int .i64 Fs[k].le,.int .i64 Fs[k].mo,.slice wa Fs[k].words.length wcap,.string Fs[k].to,.int .i64 Fs[k].ro,.bool Fs[k].mu,.bool Fs[k].fx,.string Fs[k].df,.string Fs[k].we] 109 HC2.o i;have HB2:Hd (Zw_ w w2):=(HB1.o.drew).trans (hb2.mono HB1.o.size);clear hb2)
            | (go_at_call 232;refine (Zl5 _ _ _ _ _ _ _ _ _ _ Fs[k].words _ _ _ lo _ Ss (HL.o.below HB2.o) (HWS0.o.below HB2.o) hzz.s9 hzz.s10).mono ?_;rintro e w3 ⟨rfl,hb3⟩;rw [<- HRE.o];have HB3:Hd (Zw_ w w3):=HB2.o.trans (hb3.mono HB2.o.size);clear hb3))
           all_goals
            cases hre:ZdI Ss Fs[k] with
            | false=>
             have HN:Hd (ZaE Ss Fs=false):=ZbB hlt (by rw [ZaK hlt,hre];simp);go_wp2;go_ret;exact⟨Zaa HN.o.symm,HB3.o⟩
            | true=>
             have HFA:Hd (Zbw Ss Fs k=true):=by unfold Hd;rw [ZaK hlt,hnm,hre,hdp];rfl
             go_wp2;go_roundw
             case rel=>exact⟨k+1,by go_num,by omega,HB3.o,fun i hi=>by
                        by_cases e:i=k
                        . rw [e];exact HFA.o
                        . exact HA.o i (by omega)⟩
             . simp [intOf];omega
         by_cases hk3:Fs[k].kd=3
         . have HRE:Hd (ZdI Ss Fs[k]=(ZeI Fs[k].words.length Fs[k].to Fs[k].ro Fs[k].we&&ZcE Fs[k].le Fs[k].mo&&(Fs[k].df.toList.isEmpty || ZaN 3 Fs[k].le Fs[k].mo Fs[k].words Fs[k].df))):=by unfold Hd ZdI;rw [if_neg hk1,if_neg hk2,if_pos hk3]
           have hlk:(Instr.lookup 266 (.map (some r)) (.int .i64 Fs[k].kd) true).run prog w1=.ok (.tuple #[.func (.func 229) #[] #[],.bool true]) w1:=by rw [hk3];exact Zdj w1 r 3 _ HR1.o ZrV
           clear hk1 hk2 hk3;go_wp2
           go_region_with (first
            | (go_at_call 229;refine (Zsc _ _ _ _ _ _ _ _ _ _ _ _ _ _).mono ?_;rintro e w2 ⟨rfl,hb2⟩;have HC2:Hd (Below (wr.heap.size+1) (wr.alloc (.cells #[.string Fs[k].nm,.int .i64 Fs[k].kd,.int .i64 Fs[k].le,.int .i64 Fs[k].mo,.slice wa Fs[k].words.length wcap,.string Fs[k].to,.int .i64 Fs[k].ro,.bool Fs[k].mu,.bool Fs[k].fx,.string Fs[k].df,.string Fs[k].we] 109)) w2):=(HC1.o.drew).trans (hb2.mono (by have:=HC1.o.size;simp at this;exact this));have hbx2:=fun i=>ZaM wr w2 #[.string Fs[k].nm,.int .i64 Fs[k].kd,.int .i64 Fs[k].le,.int .i64 Fs[k].mo,.slice wa Fs[k].words.length wcap,.string Fs[k].to,.int .i64 Fs[k].ro,.bool Fs[k].mu,.bool Fs[k].fx,.string Fs[k].df,.string Fs[k].we] 109 HC2.o i;have HB2:Hd (Zw_ w w2):=(HB1.o.drew).trans (hb2.mono HB1.o.size);clear hb2)
            | (go_at_call 232;refine (Zl6 _ _ _ _ _ _ _ _ _ _ Fs[k].words _ _ _ lo _ Ss (HL.o.below HB2.o) (HWS0.o.below HB2.o) hzz.s9 hzz.s10).mono ?_;rintro e w3 ⟨rfl,hb3⟩;rw [<- HRE.o];have HB3:Hd (Zw_ w w3):=HB2.o.trans (hb3.mono HB2.o.size);clear hb3))
           all_goals
            cases hre:ZdI Ss Fs[k] with
            | false=>
             have HN:Hd (ZaE Ss Fs=false):=ZbB hlt (by rw [ZaK hlt,hre];simp);go_wp2;go_ret;exact⟨Zaa HN.o.symm,HB3.o⟩
            | true=>
             have HFA:Hd (Zbw Ss Fs k=true):=by unfold Hd;rw [ZaK hlt,hnm,hre,hdp];rfl
             go_wp2;go_roundw
             case rel=>exact⟨k+1,by go_num,by omega,HB3.o,fun i hi=>by
                        by_cases e:i=k
                        . rw [e];exact HFA.o
                        . exact HA.o i (by omega)⟩
             . simp [intOf];omega
         by_cases hk4:Fs[k].kd=4
         . have HRE:Hd (ZdI Ss Fs[k]=(ZeJ Fs[k].le Fs[k].mo Fs[k].words.length Fs[k].we&&Zc2 Ss Fs[k].to Fs[k].ro Fs[k].mu Fs[k].df&&(Fs[k].df.toList.isEmpty || ZaN 4 Fs[k].le Fs[k].mo Fs[k].words Fs[k].df))):=by unfold Hd ZdI;rw [if_neg hk1,if_neg hk2,if_neg hk3,if_pos hk4]
           have hlk:(Instr.lookup 266 (.map (some r)) (.int .i64 Fs[k].kd) true).run prog w1=.ok (.tuple #[.func (.func 230) #[] #[],.bool true]) w1:=by rw [hk4];exact Zdj w1 r 4 _ HR1.o ZrW
           clear hk1 hk2 hk3 hk4;go_wp2
           go_region_with (first
            | (go_at_call 230;refine (Zsd _ _ _ _ _ _ _ _ _ _ _ _ _ _).mono ?_;rintro e w2 ⟨rfl,hb2⟩;have HC2:Hd (Below (wr.heap.size+1) (wr.alloc (.cells #[.string Fs[k].nm,.int .i64 Fs[k].kd,.int .i64 Fs[k].le,.int .i64 Fs[k].mo,.slice wa Fs[k].words.length wcap,.string Fs[k].to,.int .i64 Fs[k].ro,.bool Fs[k].mu,.bool Fs[k].fx,.string Fs[k].df,.string Fs[k].we] 109)) w2):=(HC1.o.drew).trans (hb2.mono (by have:=HC1.o.size;simp at this;exact this));have hbx2:=fun i=>ZaM wr w2 #[.string Fs[k].nm,.int .i64 Fs[k].kd,.int .i64 Fs[k].le,.int .i64 Fs[k].mo,.slice wa Fs[k].words.length wcap,.string Fs[k].to,.int .i64 Fs[k].ro,.bool Fs[k].mu,.bool Fs[k].fx,.string Fs[k].df,.string Fs[k].we] 109 HC2.o i;have HB2:Hd (Zw_ w w2):=(HB1.o.drew).trans (hb2.mono HB1.o.size);clear hb2)
            | (go_at_call 232;refine (Zl7 _ _ _ _ _ _ _ _ _ _ Fs[k].words _ _ _ lo _ Ss (HL.o.below HB2.o) (HWS0.o.below HB2.o) hzz.s9 hzz.s10).mono ?_;rintro e w3 ⟨rfl,hb3⟩;rw [<- HRE.o];have HB3:Hd (Zw_ w w3):=HB2.o.trans (hb3.mono HB2.o.size);clear hb3))
           all_goals
            cases hre:ZdI Ss Fs[k] with
            | false=>
             have HN:Hd (ZaE Ss Fs=false):=ZbB hlt (by rw [ZaK hlt,hre];simp);go_wp2;go_ret;exact⟨Zaa HN.o.symm,HB3.o⟩
            | true=>
             have HFA:Hd (Zbw Ss Fs k=true):=by unfold Hd;rw [ZaK hlt,hnm,hre,hdp];rfl
             go_wp2;go_roundw
             case rel=>exact⟨k+1,by go_num,by omega,HB3.o,fun i hi=>by
                        by_cases e:i=k
                        . rw [e];exact HFA.o
                        . exact HA.o i (by omega)⟩
             . simp [intOf];omega
         have HN:Hd (ZaE Ss Fs=false):=ZbB hlt (by rw [ZaK hlt];simp [ZdI,hk1,hk2,hk3,hk4]);have hlk:(Instr.lookup 266 (.map (some r)) (.int .i64 Fs[k].kd) true).run prog w1=.ok (.tuple #[.nilFunc,.bool false]) w1:=Zdj w1 r _ _ HR1.o (ZrS hk1 hk2 hk3 hk4);clear hk1 hk2 hk3 hk4;go_wp2
         go_quiet (fail)
         go_wp2;go_ret;exact⟨Zaa HN.o.symm,below_drewN HB1.o _⟩
    . go_wp2
      go_ret;exact⟨Zaa (Zdn (by omega) (fun i hi=>HA.o i (by omega))).symm,HB.o⟩
 . go_enter func199,ntmps199
   go_wp2;go_ret;exact⟨Zaa (Zfo (by omega)).symm,Below.refl _ _⟩
end Go.Proofs.YtbdhbihhgfpnnaaGreat
