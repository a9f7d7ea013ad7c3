import Derived.Test.YtmappejlmapboaaGreatD09
set_option maxHeartbeats 16000000
set_option maxRecDepth 100000
open Go.Proofs.Tryz
namespace Go.Proofs.YtmappejlmapboaaGreat
open Go.RowKit Go.Deep
theorem ZgW (r lo lo':Nat) (lv fv:Value) (Ss:List Sh) (Fs:List Fd) (w:World) (hr:w.heap[r]?=some (.map Zak 4)) (hl:ZaI lo w lv Ss) (hv:Zau lo' w fv Fs) :
 Calls prog 233 #[.map (some r),lv,fv] w fun e w'=>e=.returned (.bool (ZaA Ss Fs))/\Zw_ w w':=by
 have HL:=Zab hl;have HR:=Zab hr;have hrl:r < w.heap.size:=(Array.getElem?_eq_some_iff.1 hr).1
 obtain⟨la,lcap,rfl⟩:=hl.form;clear hl hr
 by_cases hL:Fs=[]
 . subst hL
   obtain⟨a,cap,rfl⟩:=Zdz hv;clear hv;go_enter func233,ntmps233;go_wp2
   go_loop [16] (fun i=>i=.int .i64 0) (fun _=>0)
   case atStart=>rfl
   case round=>
    subst hrel;go_wp2;go_ret;exact⟨rfl,Below.refl _ _⟩
 have HFV:=Zab hv;obtain⟨b,off,cap,rfl,hm,hbw,hcp,hc⟩:=hv.full hL
 have hlo:Hd (lo'<=b):=by
  rcases hv with ⟨_,_,_,h⟩ | ⟨b',off',cap',h1,_,_,_,h5,_⟩
  . exact absurd h hL
  . simp only [Value.slice.injEq,Option.some.injEq,Addr.mk.injEq] at h1
    unfold Hd;omega
 clear hv;have HM:=Zab hm;unfold maxLen at hm
 by_cases h6:(Fs.length:Int)<=6
 . go_enter func233,ntmps233
   go_wp2
   go_loopw [16] (fun i wr=>∃ k:Nat,i=.int .i64 k/\k<=Fs.length/\Zw_ w wr/\∀ i,i < k->ZbF Ss Fs i=true) (fun i _=>Fs.length - (intOf i).toNat)
   case atStart=>exact⟨0,rfl,by omega,Below.refl _ _,fun i h=>by omega⟩
   case round=>
    obtain⟨k,rfl,hk,hb,hall⟩:=hrel;have HA:=Zab hall;have HB:=Zab hb;clear hall hb
    by_cases hlt:k < Fs.length
    . obtain⟨hzz,wv,hcell,hws⟩:=hc k hlt
      have HWS0:Hd (Zaf w wv Fs[k].words):=hws.at;obtain⟨wa,wcap,rfl⟩:=hws.at.form_len;clear hws;have hbo:b < wr.heap.size:=Zk_ hbw HB.o.size
      have HTK:Hd (Zau lo' wr (.slice (some ⟨b,off,none⟩) k cap) (Fs.take k)):=Zau.take hk HM.o hbo hlo.o hcp (fun i hi=>by
       obtain⟨q1,wv',q2,q3⟩:=hc i hi;exact⟨q1,wv',q2.below HB.o hbw,q3.below HB.o⟩)
      obtain⟨c0,c1,c2,c3,c4,c5,c6,c7,c8,c9,c10⟩:=hcell.below HB.o hbw;clear hcell;have hW:∀ o,Hd (Below wr.heap.size wr (wr.alloc o)):=fun o=>Zb_.alloc Zl_ _
      cases hnm:Zap Fs[k].nm with
      | false=>
       have HN:Hd (ZaA Ss Fs=false):=ZbM hlt (by rw [ZaG hlt,hnm];rfl);go_wp2
       go_quiet ((go_at_call 206;exact Calls.quiet_of_same (Zan _ _ hzz.s0)))
       go_wp2;go_ret;exact⟨Zaa HN.o.symm,below_drewN (HB.o.alloc HB.o.size _) _⟩
      | true=>
       go_wp2
       go_region_with (first
        | (go_at_call 206;refine (Zan _ _ hzz.s0).mono ?_;rintro e w' ⟨rfl,rfl⟩)
        | (go_at_call 262;refine (ZkL lo' _ (Fs.take k) _ _ (HTK.o.below (Below.drew (hW _).o))).mono ?_;rintro e w1 ⟨rfl,hb1⟩;have HB1:Hd (Zw_ w w1):=HB.o.trans ((((hW _).o.drew).mono HB.o.size).trans (hb1.mono (by have:=HB.o.size;simp;omega)));have HC1:Hd (Below (wr.heap.size+1) (wr.alloc (.cells #[.string Fs[k].nm,.int .i64 Fs[k].kd,.int .i64 Fs[k].le,.int .i64 Fs[k].mo,.slice wa Fs[k].words.length wcap,.string Fs[k].to,.int .i64 Fs[k].ro,.bool Fs[k].mu,.bool Fs[k].fx,.string Fs[k].df,.string Fs[k].we] 178)) w1):=(Zb_.drew).trans (hb1.mono (by simp));clear hb1))
       all_goals
        have HR1:Hd (w1.heap[r]?=some (.map Zak 4)):=by unfold Hd;rw [HB1.o.block r hrl];exact HR.o
        have hbx:=fun i=>ZaL wr w1 #[.string Fs[k].nm,.int .i64 Fs[k].kd,.int .i64 Fs[k].le,.int .i64 Fs[k].mo,.slice wa Fs[k].words.length wcap,.string Fs[k].to,.int .i64 Fs[k].ro,.bool Fs[k].mu,.bool Fs[k].fx,.string Fs[k].df,.string Fs[k].we] 178 HC1.o i
        cases hdp:ZnZ (Fs.take k) Fs[k].nm with
        | true=>
         have HN:Hd (ZaA Ss Fs=false):=ZbM hlt (by rw [ZaG hlt,hdp];simp);go_wp2;go_ret;exact⟨Zaa HN.o.symm,HB1.o⟩
        | false=>
         by_cases hk1:Fs[k].kd=1
         . have HRE:Hd (Zd3 Ss Fs[k]=(Zf1 Fs[k].words.length Fs[k].to Fs[k].ro&&Zcd Fs[k].le Fs[k].mo Fs[k].we&&(Fs[k].df.toList.isEmpty || ZaM 1 Fs[k].le Fs[k].mo Fs[k].words Fs[k].df))):=by unfold Hd Zd3;rw [if_pos hk1]
           have hlk:(Instr.lookup 278 (.map (some r)) (.int .i64 Fs[k].kd) true).run prog w1=.ok (.tuple #[.func (.func 258) #[] #[],.bool true]) w1:=by rw [hk1];exact ZdL w1 r 1 _ HR1.o ZtO
           clear hk1;go_wp2
           go_region_with (first
            | (go_at_call 258;refine (ZtV _ _ _ _ _ _ _ _ _ _ _ _ _ _).mono ?_;rintro e w2 ⟨rfl,hb2⟩;have HC2:Hd (Below (wr.heap.size+1) (wr.alloc (.cells #[.string Fs[k].nm,.int .i64 Fs[k].kd,.int .i64 Fs[k].le,.int .i64 Fs[k].mo,.slice wa Fs[k].words.length wcap,.string Fs[k].to,.int .i64 Fs[k].ro,.bool Fs[k].mu,.bool Fs[k].fx,.string Fs[k].df,.string Fs[k].we] 178)) w2):=(HC1.o.drew).trans (hb2.mono (by have:=HC1.o.size;simp at this;exact this));have hbx2:=fun i=>ZaL wr w2 #[.string Fs[k].nm,.int .i64 Fs[k].kd,.int .i64 Fs[k].le,.int .i64 Fs[k].mo,.slice wa Fs[k].words.length wcap,.string Fs[k].to,.int .i64 Fs[k].ro,.bool Fs[k].mu,.bool Fs[k].fx,.string Fs[k].df,.string Fs[k].we] 178 HC2.o i;have HB2:Hd (Zw_ w w2):=(HB1.o.drew).trans (hb2.mono HB1.o.size);clear hb2)
            | (go_at_call 263;refine (Zol _ _ _ _ _ _ _ _ _ _ Fs[k].words _ _ _ lo _ Ss (HL.o.below HB2.o) (HWS0.o.below HB2.o) hzz.s9 hzz.s10).mono ?_;rintro e w3 ⟨rfl,hb3⟩;rw [<- HRE.o];have HB3:Hd (Zw_ w w3):=HB2.o.trans (hb3.mono HB2.o.size);clear hb3))
           all_goals
            cases hre:Zd3 Ss Fs[k] with
            | false=>
             have HN:Hd (ZaA Ss Fs=false):=ZbM hlt (by rw [ZaG hlt,hre];simp);go_wp2;go_ret;exact⟨Zaa HN.o.symm,HB3.o⟩
            | true=>
             have HFA:Hd (ZbF Ss Fs k=true):=by unfold Hd;rw [ZaG hlt,hnm,hre,hdp];rfl
             go_wp2;go_roundw
             case rel=>exact⟨k+1,by go_num,by omega,HB3.o,fun i hi=>by
                        by_cases e:i=k
                        . rw [e];exact HFA.o
                        . exact HA.o i (by omega)⟩
             . simp [intOf];omega
         by_cases hk2:Fs[k].kd=2
         . have HRE:Hd (Zd3 Ss Fs[k]=(Zfk Fs[k].le Fs[k].mo Fs[k].to Fs[k].ro Fs[k].we&&Zex Fs[k].words.length Fs[k].words&&(Fs[k].df.toList.isEmpty || ZaM 2 Fs[k].le Fs[k].mo Fs[k].words Fs[k].df))):=by unfold Hd Zd3;rw [if_neg hk1,if_pos hk2]
           have hlk:(Instr.lookup 278 (.map (some r)) (.int .i64 Fs[k].kd) true).run prog w1=.ok (.tuple #[.func (.func 259) #[] #[],.bool true]) w1:=by rw [hk2];exact ZdL w1 r 2 _ HR1.o ZtP
           clear hk1 hk2;go_wp2
           go_region_with (first
            | (go_at_call 259;refine (ZtW _ _ _ _ _ _ _ _ _ _ _ _ _ _).mono ?_;rintro e w2 ⟨rfl,hb2⟩;have HC2:Hd (Below (wr.heap.size+1) (wr.alloc (.cells #[.string Fs[k].nm,.int .i64 Fs[k].kd,.int .i64 Fs[k].le,.int .i64 Fs[k].mo,.slice wa Fs[k].words.length wcap,.string Fs[k].to,.int .i64 Fs[k].ro,.bool Fs[k].mu,.bool Fs[k].fx,.string Fs[k].df,.string Fs[k].we] 178)) w2):=(HC1.o.drew).trans (hb2.mono (by have:=HC1.o.size;simp at this;exact this));have hbx2:=fun i=>ZaL wr w2 #[.string Fs[k].nm,.int .i64 Fs[k].kd,.int .i64 Fs[k].le,.int .i64 Fs[k].mo,.slice wa Fs[k].words.length wcap,.string Fs[k].to,.int .i64 Fs[k].ro,.bool Fs[k].mu,.bool Fs[k].fx,.string Fs[k].df,.string Fs[k].we] 178 HC2.o i;have HB2:Hd (Zw_ w w2):=(HB1.o.drew).trans (hb2.mono HB1.o.size);clear hb2)
            | (go_at_call 263;refine (Zom _ _ _ _ _ _ _ _ _ _ Fs[k].words _ _ _ lo _ Ss (HL.o.below HB2.o) (HWS0.o.below HB2.o) hzz.s9 hzz.s10).mono ?_;rintro e w3 ⟨rfl,hb3⟩;rw [<- HRE.o];have HB3:Hd (Zw_ w w3):=HB2.o.trans (hb3.mono HB2.o.size);clear hb3))
           all_goals
            cases hre:Zd3 Ss Fs[k] with
            | false=>
             have HN:Hd (ZaA Ss Fs=false):=ZbM hlt (by rw [ZaG hlt,hre];simp);go_wp2;go_ret;exact⟨Zaa HN.o.symm,HB3.o⟩
            | true=>
             have HFA:Hd (ZbF Ss Fs k=true):=by unfold Hd;rw [ZaG hlt,hnm,hre,hdp];rfl
             go_wp2;go_roundw
             case rel=>exact⟨k+1,by go_num,by omega,HB3.o,fun i hi=>by
                        by_cases e:i=k
                        . rw [e];exact HFA.o
                        . exact HA.o i (by omega)⟩
             . simp [intOf];omega
         by_cases hk3:Fs[k].kd=3
         . have HRE:Hd (Zd3 Ss Fs[k]=(ZfC Fs[k].words.length Fs[k].to Fs[k].ro Fs[k].we&&Zc2 Fs[k].le Fs[k].mo&&(Fs[k].df.toList.isEmpty || ZaM 3 Fs[k].le Fs[k].mo Fs[k].words Fs[k].df))):=by unfold Hd Zd3;rw [if_neg hk1,if_neg hk2,if_pos hk3]
           have hlk:(Instr.lookup 278 (.map (some r)) (.int .i64 Fs[k].kd) true).run prog w1=.ok (.tuple #[.func (.func 260) #[] #[],.bool true]) w1:=by rw [hk3];exact ZdL w1 r 3 _ HR1.o ZtQ
           clear hk1 hk2 hk3;go_wp2
           go_region_with (first
            | (go_at_call 260;refine (ZtX _ _ _ _ _ _ _ _ _ _ _ _ _ _).mono ?_;rintro e w2 ⟨rfl,hb2⟩;have HC2:Hd (Below (wr.heap.size+1) (wr.alloc (.cells #[.string Fs[k].nm,.int .i64 Fs[k].kd,.int .i64 Fs[k].le,.int .i64 Fs[k].mo,.slice wa Fs[k].words.length wcap,.string Fs[k].to,.int .i64 Fs[k].ro,.bool Fs[k].mu,.bool Fs[k].fx,.string Fs[k].df,.string Fs[k].we] 178)) w2):=(HC1.o.drew).trans (hb2.mono (by have:=HC1.o.size;simp at this;exact this));have hbx2:=fun i=>ZaL wr w2 #[.string Fs[k].nm,.int .i64 Fs[k].kd,.int .i64 Fs[k].le,.int .i64 Fs[k].mo,.slice wa Fs[k].words.length wcap,.string Fs[k].to,.int .i64 Fs[k].ro,.bool Fs[k].mu,.bool Fs[k].fx,.string Fs[k].df,.string Fs[k].we] 178 HC2.o i;have HB2:Hd (Zw_ w w2):=(HB1.o.drew).trans (hb2.mono HB1.o.size);clear hb2)
            | (go_at_call 263;refine (Zon _ _ _ _ _ _ _ _ _ _ Fs[k].words _ _ _ lo _ Ss (HL.o.below HB2.o) (HWS0.o.below HB2.o) hzz.s9 hzz.s10).mono ?_;rintro e w3 ⟨rfl,hb3⟩;rw [<- HRE.o];have HB3:Hd (Zw_ w w3):=HB2.o.trans (hb3.mono HB2.o.size);clear hb3))
           all_goals
            cases hre:Zd3 Ss Fs[k] with
            | false=>
             have HN:Hd (ZaA Ss Fs=false):=ZbM hlt (by rw [ZaG hlt,hre];simp);go_wp2;go_ret;exact⟨Zaa HN.o.symm,HB3.o⟩
            | true=>
             have HFA:Hd (ZbF Ss Fs k=true):=by unfold Hd;rw [ZaG hlt,hnm,hre,hdp];rfl
             go_wp2;go_roundw
             case rel=>exact⟨k+1,by go_num,by omega,HB3.o,fun i hi=>by
                        by_cases e:i=k
                        . rw [e];exact HFA.o
                        . exact HA.o i (by omega)⟩
             . simp [intOf];omega
         by_cases hk4:Fs[k].kd=4
         . have HRE:Hd (Zd3 Ss Fs[k]=(ZfD Fs[k].le Fs[k].mo Fs[k].words.length Fs[k].we&&Zc3 Ss Fs[k].to Fs[k].ro Fs[k].mu Fs[k].df&&(Fs[k].df.toList.isEmpty || ZaM 4 Fs[k].le Fs[k].mo Fs[k].words Fs[k].df))):=by unfold Hd Zd3;rw [if_neg hk1,if_neg hk2,if_neg hk3,if_pos hk4]
           have hlk:(Instr.lookup 278 (.map (some r)) (.int .i64 Fs[k].kd) true).run prog w1=.ok (.tuple #[.func (.func 261) #[] #[],.bool true]) w1:=by rw [hk4];exact ZdL w1 r 4 _ HR1.o ZtR
           clear hk1 hk2 hk3 hk4;go_wp2
           go_region_with (first
            | (go_at_call 261;refine (ZtY _ _ _ _ _ _ _ _ _ _ _ _ _ _).mono ?_;rintro e w2 ⟨rfl,hb2⟩;have HC2:Hd (Below (wr.heap.size+1) (wr.alloc (.cells #[.string Fs[k].nm,.int .i64 Fs[k].kd,.int .i64 Fs[k].le,.int .i64 Fs[k].mo,.slice wa Fs[k].words.length wcap,.string Fs[k].to,.int .i64 Fs[k].ro,.bool Fs[k].mu,.bool Fs[k].fx,.string Fs[k].df,.string Fs[k].we] 178)) w2):=(HC1.o.drew).trans (hb2.mono (by have:=HC1.o.size;simp at this;exact this));have hbx2:=fun i=>ZaL wr w2 #[.string Fs[k].nm,.int .i64 Fs[k].kd,.int .i64 Fs[k].le,.int .i64 Fs[k].mo,.slice wa Fs[k].words.length wcap,.string Fs[k].to,.int .i64 Fs[k].ro,.bool Fs[k].mu,.bool Fs[k].fx,.string Fs[k].df,.string Fs[k].we] 178 HC2.o i;have HB2:Hd (Zw_ w w2):=(HB1.o.drew).trans (hb2.mono HB1.o.size);clear hb2)
            | (go_at_call 263;refine (Zoo _ _ _ _ _ _ _ _ _ _ Fs[k].words _ _ _ lo _ Ss (HL.o.below HB2.o) (HWS0.o.below HB2.o) hzz.s9 hzz.s10).mono ?_;rintro e w3 ⟨rfl,hb3⟩;rw [<- HRE.o];have HB3:Hd (Zw_ w w3):=HB2.o.trans (hb3.mono HB2.o.size);clear hb3))
           all_goals
            cases hre:Zd3 Ss Fs[k] with
            | false=>
             have HN:Hd (ZaA Ss Fs=false):=ZbM hlt (by rw [ZaG hlt,hre];simp);go_wp2;go_ret;exact⟨Zaa HN.o.symm,HB3.o⟩
            | true=>
             have HFA:Hd (ZbF Ss Fs k=true):=by unfold Hd;rw [ZaG hlt,hnm,hre,hdp];rfl
             go_wp2;go_roundw
             case rel=>exact⟨k+1,by go_num,by omega,HB3.o,fun i hi=>by
                        by_cases e:i=k
                        . rw [e];exact HFA.o
                        . exact HA.o i (by omega)⟩
             . simp [intOf];omega
         have HN:Hd (ZaA Ss Fs=false):=ZbM hlt (by rw [ZaG hlt];simp [Zd3,hk1,hk2,hk3,hk4]);have hlk:(Instr.lookup 278 (.map (some r)) (.int .i64 Fs[k].kd) true).run prog w1=.ok (.tuple #[.nilFunc,.bool false]) w1:=ZdL w1 r _ _ HR1.o (ZtN hk1 hk2 hk3 hk4);clear hk1 hk2 hk3 hk4;go_wp2
         go_quiet (fail)
         go_wp2;go_ret;exact⟨Zaa HN.o.symm,below_drewN HB1.o _⟩
    . go_wp2
      go_ret;exact⟨Zaa (ZdQ (by omega) (fun i hi=>HA.o i (by omega))).symm,HB.o⟩
 . go_enter func233,ntmps233
   go_wp2;go_ret;exact⟨Zaa (ZgA (by omega)).symm,Below.refl _ _⟩
end Go.Proofs.YtmappejlmapboaaGreat
