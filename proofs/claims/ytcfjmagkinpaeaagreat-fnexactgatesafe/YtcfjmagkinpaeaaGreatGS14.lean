import Derived.Test.YtcfjmagkinpaeaaGreatGB5
set_option maxHeartbeats 16000000
set_option maxRecDepth 100000
open Go.Proofs.Tryz
namespace Go.Proofs.YtcfjmagkinpaeaaGreat
open Go.RowKit Go.Deep
theorem ZfK (r lo lo':Nat) (lv fv:Value) (Ss:List Sh) (Fs:List Fd) (w:World) (hr:w.heap[r]?=some (.map Zam 4)) (hl:ZaU lo w lv Ss) (hv:Zav lo' w fv Fs) :
 Calls prog 170 #[.map (some r),lv,fv] w fun e w'=>e=.returned (.bool (ZaC Ss Fs))∧Zw_ w w':=by
 have HL:=Zab hl;have HR:=Zab hr;have hrl:r < w.heap.size:=(Array.getElem?_eq_some_iff.1 hr).1
 obtain⟨la,lcap,rfl⟩:=hl.form;clear hl hr
 by_cases hL:Fs=[]
 · subst hL
   obtain⟨a,cap,rfl⟩:=ZdS hv;clear hv;go_enter func170,ntmps170;go_wp2
   go_loop [16] (fun i=>i=.int .i64 0) (fun _=>0)
   case atStart=>rfl
   case round=>
    subst hrel;go_wp2;go_ret;exact⟨rfl,Below.refl _ _⟩
 have HFV:=Zab hv;obtain⟨b,off,cap,rfl,hm,hbw,hcp,hc⟩:=hv.full hL
 have hlo:Hid (lo'≤b):=by
  rcases hv with ⟨_,_,_,h⟩ | ⟨b',off',cap',h1,_,_,_,h5,_⟩
  · exact absurd h hL
  · simp only [Value.slice.injEq,Option.some.injEq,Addr.mk.injEq] at h1
    unfold Hid;omega
 clear hv;have HM:=Zab hm;unfold maxLen at hm
 by_cases h6:(Fs.length:Int)≤6
 · go_enter func170,ntmps170
   go_wp2
   go_loopw [16] (fun i wr=>∃ k:Nat,i=.int .i64 k∧k≤Fs.length∧Zw_ w wr∧∀ i,i < k→ZbE Ss Fs i=true) (fun i _=>Fs.length - (intOf i).toNat)
   case atStart=>exact⟨0,rfl,by omega,Below.refl _ _,fun i h=>by omega⟩
   case round=>
    obtain⟨k,rfl,hk,hb,hall⟩:=hrel;have HA:=Zab hall;have HB:=Zab hb;clear hall hb
    by_cases hlt:k < Fs.length
    · obtain⟨hzz,wv,hcell,hws⟩:=hc k hlt
      have HWS0:Hid (Zaf w wv Fs[k].words):=hws.at;obtain⟨wa,wcap,rfl⟩:=hws.at.form_len;clear hws;have hbo:b < wr.heap.size:=Zk_ hbw HB.out.size
      have HTK:Hid (Zav lo' wr (.slice (some ⟨b,off,none⟩) k cap) (Fs.take k)):=Zav.take hk HM.out hbo hlo.out hcp (fun i hi=>by
       obtain⟨q1,wv',q2,q3⟩:=hc i hi;exact⟨q1,wv',q2.below HB.out hbw,q3.below HB.out⟩)
      obtain⟨c0,c1,c2,c3,c4,c5,c6,c7,c8,c9,c10⟩:=hcell.below HB.out hbw;clear hcell;have hW:∀ o,Hid (Below wr.heap.size wr (wr.alloc o)):=fun o=>Zb_.alloc Zl_ _
      cases hnm:Zaj Fs[k].nm with
      | false=>
       have HN:Hid (ZaC Ss Fs=false):=ZbG hlt (by rw [ZaF hlt,hnm];rfl);go_wp2
       go_quiet ((go_at_call 118;exact Calls.quiet_of_same (Zag _ _ hzz.s0)))
       go_wp2;go_ret;exact⟨Zaa HN.out.symm,below_drewN (HB.out.alloc HB.out.size _) _⟩
      | true=>
       go_wp2
       go_region_with (first
        | (go_at_call 118;refine (Zag _ _ hzz.s0).mono ?_;rintro e w' ⟨rfl,rfl⟩)
        | (go_at_call 212;refine (Zja lo' _ (Fs.take k) _ _ (HTK.out.below (Below.drew (hW _).out))).mono ?_;rintro e w1 ⟨rfl,hb1⟩;have HB1:Hid (Zw_ w w1):=HB.out.trans ((((hW _).out.drew).mono HB.out.size).trans (hb1.mono (by have:=HB.out.size;simp;omega)));have HC1:Hid (Below (wr.heap.size+1) (wr.alloc (.cells #[.string Fs[k].nm,.int .i64 Fs[k].kd,.int .i64 Fs[k].le,.int .i64 Fs[k].mo,.slice wa Fs[k].words.length wcap,.string Fs[k].to,.int .i64 Fs[k].ro,.bool Fs[k].mu,.bool Fs[k].fx,.string Fs[k].df,.string Fs[k].we] 187)) w1):=(Zb_.drew).trans (hb1.mono (by simp));clear hb1))
       all_goals
        have HR1:Hid (w1.heap[r]?=some (.map Zam 4)):=by unfold Hid;rw [HB1.out.block r hrl];exact HR.out
        have hbx:=fun i=>ZaK wr w1 #[.string Fs[k].nm,.int .i64 Fs[k].kd,.int .i64 Fs[k].le,.int .i64 Fs[k].mo,.slice wa Fs[k].words.length wcap,.string Fs[k].to,.int .i64 Fs[k].ro,.bool Fs[k].mu,.bool Fs[k].fx,.string Fs[k].df,.string Fs[k].we] 187 HC1.out i
        cases hdp:ZlJ (Fs.take k) Fs[k].nm with
        | true=>
         have HN:Hid (ZaC Ss Fs=false):=ZbG hlt (by rw [ZaF hlt,hdp];simp);go_wp2;go_ret;exact⟨Zaa HN.out.symm,HB1.out⟩
        | false=>
         by_cases hk1:Fs[k].kd=1
         · have HRE:Hid (ZdU Ss Fs[k]=(Ze9 Fs[k].words.length Fs[k].to Fs[k].ro&&Zb5 Fs[k].le Fs[k].mo Fs[k].we&&(Fs[k].df.toList.isEmpty || ZaL 1 Fs[k].le Fs[k].mo Fs[k].words Fs[k].df))):=by unfold Hid ZdU;rw [if_pos hk1]
           have hlk:(Instr.lookup 254 (.map (some r)) (.int .i64 Fs[k].kd) true).run prog w1=.ok (.tuple #[.func (.func 208) #[] #[],.bool true]) w1:=by rw [hk1];exact Zdu w1 r 1 _ HR1.out Zsw
           clear hk1;go_wp2
           go_region_with (first
            | (go_at_call 208;refine (ZsE _ _ _ _ _ _ _ _ _ _ _ _ _ _).mono ?_;rintro e w2 ⟨rfl,hb2⟩;have HC2:Hid (Below (wr.heap.size+1) (wr.alloc (.cells #[.string Fs[k].nm,.int .i64 Fs[k].kd,.int .i64 Fs[k].le,.int .i64 Fs[k].mo,.slice wa Fs[k].words.length wcap,.string Fs[k].to,.int .i64 Fs[k].ro,.bool Fs[k].mu,.bool Fs[k].fx,.string Fs[k].df,.string Fs[k].we] 187)) w2):=(HC1.out.drew).trans (hb2.mono (by have:=HC1.out.size;simp at this;exact this));have hbx2:=fun i=>ZaK wr w2 #[.string Fs[k].nm,.int .i64 Fs[k].kd,.int .i64 Fs[k].le,.int .i64 Fs[k].mo,.slice wa Fs[k].words.length wcap,.string Fs[k].to,.int .i64 Fs[k].ro,.bool Fs[k].mu,.bool Fs[k].fx,.string Fs[k].df,.string Fs[k].we] 187 HC2.out i;have HB2:Hid (Zw_ w w2):=(HB1.out.drew).trans (hb2.mono HB1.out.size);clear hb2)
            | (go_at_call 213;refine (Zl4 _ _ _ _ _ _ _ _ _ _ Fs[k].words _ _ _ lo _ Ss (HL.out.below HB2.out) (HWS0.out.below HB2.out) hzz.s9 hzz.s10).mono ?_;rintro e w3 ⟨rfl,hb3⟩;rw [← HRE.out];have HB3:Hid (Zw_ w w3):=HB2.out.trans (hb3.mono HB2.out.size);clear hb3))
           all_goals
            cases hre:ZdU Ss Fs[k] with
            | false=>
             have HN:Hid (ZaC Ss Fs=false):=ZbG hlt (by rw [ZaF hlt,hre];simp);go_wp2;go_ret;exact⟨Zaa HN.out.symm,HB3.out⟩
            | true=>
             have HFA:Hid (ZbE Ss Fs k=true):=by unfold Hid;rw [ZaF hlt,hnm,hre,hdp];rfl
             go_wp2;go_roundw
             case rel=>exact⟨k+1,by go_num,by omega,HB3.out,fun i hi=>by
                        by_cases e:i=k
                        · rw [e];exact HFA.out
                        · exact HA.out i (by omega)⟩
             case measure=>simp [intOf];omega
         by_cases hk2:Fs[k].kd=2
         · have HRE:Hid (ZdU Ss Fs[k]=(ZeC Fs[k].le Fs[k].mo Fs[k].to Fs[k].ro Fs[k].we&&Zd1 Fs[k].words.length Fs[k].words&&(Fs[k].df.toList.isEmpty || ZaL 2 Fs[k].le Fs[k].mo Fs[k].words Fs[k].df))):=by unfold Hid ZdU;rw [if_neg hk1,if_pos hk2]
           have hlk:(Instr.lookup 254 (.map (some r)) (.int .i64 Fs[k].kd) true).run prog w1=.ok (.tuple #[.func (.func 209) #[] #[],.bool true]) w1:=by rw [hk2];exact Zdu w1 r 2 _ HR1.out Zsx
           clear hk1 hk2;go_wp2
           go_region_with (first
            | (go_at_call 209;refine (ZsF _ _ _ _ _ _ _ _ _ _ _ _ _ _).mono ?_;rintro e w2 ⟨rfl,hb2⟩;have HC2:Hid (Below (wr.heap.size+1) (wr.alloc (.cells #[.string Fs[k].nm,.int .i64 Fs[k].kd,.int .i64 Fs[k].le,.int .i64 Fs[k].mo,.slice wa Fs[k].words.length wcap,.string Fs[k].to,.int .i64 Fs[k].ro,.bool Fs[k].mu,.bool Fs[k].fx,.string Fs[k].df,.string Fs[k].we] 187)) w2):=(HC1.out.drew).trans (hb2.mono (by have:=HC1.out.size;simp at this;exact this));have hbx2:=fun i=>ZaK wr w2 #[.string Fs[k].nm,.int .i64 Fs[k].kd,.int .i64 Fs[k].le,.int .i64 Fs[k].mo,.slice wa Fs[k].words.length wcap,.string Fs[k].to,.int .i64 Fs[k].ro,.bool Fs[k].mu,.bool Fs[k].fx,.string Fs[k].df,.string Fs[k].we] 187 HC2.out i;have HB2:Hid (Zw_ w w2):=(HB1.out.drew).trans (hb2.mono HB1.out.size);clear hb2)
            | (go_at_call 213;refine (Zl5 _ _ _ _ _ _ _ _ _ _ Fs[k].words _ _ _ lo _ Ss (HL.out.below HB2.out) (HWS0.out.below HB2.out) hzz.s9 hzz.s10).mono ?_;rintro e w3 ⟨rfl,hb3⟩;rw [← HRE.out];have HB3:Hid (Zw_ w w3):=HB2.out.trans (hb3.mono HB2.out.size);clear hb3))
           all_goals
            cases hre:ZdU Ss Fs[k] with
            | false=>
             have HN:Hid (ZaC Ss Fs=false):=ZbG hlt (by rw [ZaF hlt,hre];simp);go_wp2;go_ret;exact⟨Zaa HN.out.symm,HB3.out⟩
            | true=>
             have HFA:Hid (ZbE Ss Fs k=true):=by unfold Hid;rw [ZaF hlt,hnm,hre,hdp];rfl
             go_wp2;go_roundw
             case rel=>exact⟨k+1,by go_num,by omega,HB3.out,fun i hi=>by
                        by_cases e:i=k
                        · rw [e];exact HFA.out
                        · exact HA.out i (by omega)⟩
             case measure=>simp [intOf];omega
         by_cases hk3:Fs[k].kd=3
         · have HRE:Hid (ZdU Ss Fs[k]=(ZeU Fs[k].words.length Fs[k].to Fs[k].ro Fs[k].we&&ZcL Fs[k].le Fs[k].mo&&(Fs[k].df.toList.isEmpty || ZaL 3 Fs[k].le Fs[k].mo Fs[k].words Fs[k].df))):=by unfold Hid ZdU;rw [if_neg hk1,if_neg hk2,if_pos hk3]
           have hlk:(Instr.lookup 254 (.map (some r)) (.int .i64 Fs[k].kd) true).run prog w1=.ok (.tuple #[.func (.func 210) #[] #[],.bool true]) w1:=by rw [hk3];exact Zdu w1 r 3 _ HR1.out Zsy
           clear hk1 hk2 hk3;go_wp2
           go_region_with (first
            | (go_at_call 210;refine (ZsG _ _ _ _ _ _ _ _ _ _ _ _ _ _).mono ?_;rintro e w2 ⟨rfl,hb2⟩;have HC2:Hid (Below (wr.heap.size+1) (wr.alloc (.cells #[.string Fs[k].nm,.int .i64 Fs[k].kd,.int .i64 Fs[k].le,.int .i64 Fs[k].mo,.slice wa Fs[k].words.length wcap,.string Fs[k].to,.int .i64 Fs[k].ro,.bool Fs[k].mu,.bool Fs[k].fx,.string Fs[k].df,.string Fs[k].we] 187)) w2):=(HC1.out.drew).trans (hb2.mono (by have:=HC1.out.size;simp at this;exact this));have hbx2:=fun i=>ZaK wr w2 #[.string Fs[k].nm,.int .i64 Fs[k].kd,.int .i64 Fs[k].le,.int .i64 Fs[k].mo,.slice wa Fs[k].words.length wcap,.string Fs[k].to,.int .i64 Fs[k].ro,.bool Fs[k].mu,.bool Fs[k].fx,.string Fs[k].df,.string Fs[k].we] 187 HC2.out i;have HB2:Hid (Zw_ w w2):=(HB1.out.drew).trans (hb2.mono HB1.out.size);clear hb2)
            | (go_at_call 213;refine (Zl6 _ _ _ _ _ _ _ _ _ _ Fs[k].words _ _ _ lo _ Ss (HL.out.below HB2.out) (HWS0.out.below HB2.out) hzz.s9 hzz.s10).mono ?_;rintro e w3 ⟨rfl,hb3⟩;rw [← HRE.out];have HB3:Hid (Zw_ w w3):=HB2.out.trans (hb3.mono HB2.out.size);clear hb3))
           all_goals
            cases hre:ZdU Ss Fs[k] with
            | false=>
             have HN:Hid (ZaC Ss Fs=false):=ZbG hlt (by rw [ZaF hlt,hre];simp);go_wp2;go_ret;exact⟨Zaa HN.out.symm,HB3.out⟩
            | true=>
             have HFA:Hid (ZbE Ss Fs k=true):=by unfold Hid;rw [ZaF hlt,hnm,hre,hdp];rfl
             go_wp2;go_roundw
             case rel=>exact⟨k+1,by go_num,by omega,HB3.out,fun i hi=>by
                        by_cases e:i=k
                        · rw [e];exact HFA.out
                        · exact HA.out i (by omega)⟩
             case measure=>simp [intOf];omega
         by_cases hk4:Fs[k].kd=4
         · have HRE:Hid (ZdU Ss Fs[k]=(ZeV Fs[k].le Fs[k].mo Fs[k].words.length Fs[k].we&&Zdc Ss Fs[k].to Fs[k].ro Fs[k].mu Fs[k].df&&(Fs[k].df.toList.isEmpty || ZaL 4 Fs[k].le Fs[k].mo Fs[k].words Fs[k].df))):=by unfold Hid ZdU;rw [if_neg hk1,if_neg hk2,if_neg hk3,if_pos hk4]
           have hlk:(Instr.lookup 254 (.map (some r)) (.int .i64 Fs[k].kd) true).run prog w1=.ok (.tuple #[.func (.func 211) #[] #[],.bool true]) w1:=by rw [hk4];exact Zdu w1 r 4 _ HR1.out Zsz
           clear hk1 hk2 hk3 hk4;go_wp2
           go_region_with (first
            | (go_at_call 211;refine (ZsH _ _ _ _ _ _ _ _ _ _ _ _ _ _).mono ?_;rintro e w2 ⟨rfl,hb2⟩;have HC2:Hid (Below (wr.heap.size+1) (wr.alloc (.cells #[.string Fs[k].nm,.int .i64 Fs[k].kd,.int .i64 Fs[k].le,.int .i64 Fs[k].mo,.slice wa Fs[k].words.length wcap,.string Fs[k].to,.int .i64 Fs[k].ro,.bool Fs[k].mu,.bool Fs[k].fx,.string Fs[k].df,.string Fs[k].we] 187)) w2):=(HC1.out.drew).trans (hb2.mono (by have:=HC1.out.size;simp at this;exact this));have hbx2:=fun i=>ZaK wr w2 #[.string Fs[k].nm,.int .i64 Fs[k].kd,.int .i64 Fs[k].le,.int .i64 Fs[k].mo,.slice wa Fs[k].words.length wcap,.string Fs[k].to,.int .i64 Fs[k].ro,.bool Fs[k].mu,.bool Fs[k].fx,.string Fs[k].df,.string Fs[k].we] 187 HC2.out i;have HB2:Hid (Zw_ w w2):=(HB1.out.drew).trans (hb2.mono HB1.out.size);clear hb2)
            | (go_at_call 213;refine (Zl7 _ _ _ _ _ _ _ _ _ _ Fs[k].words _ _ _ lo _ Ss (HL.out.below HB2.out) (HWS0.out.below HB2.out) hzz.s9 hzz.s10).mono ?_;rintro e w3 ⟨rfl,hb3⟩;rw [← HRE.out];have HB3:Hid (Zw_ w w3):=HB2.out.trans (hb3.mono HB2.out.size);clear hb3))
           all_goals
            cases hre:ZdU Ss Fs[k] with
            | false=>
             have HN:Hid (ZaC Ss Fs=false):=ZbG hlt (by rw [ZaF hlt,hre];simp);go_wp2;go_ret;exact⟨Zaa HN.out.symm,HB3.out⟩
            | true=>
             have HFA:Hid (ZbE Ss Fs k=true):=by unfold Hid;rw [ZaF hlt,hnm,hre,hdp];rfl
             go_wp2;go_roundw
             case rel=>exact⟨k+1,by go_num,by omega,HB3.out,fun i hi=>by
                        by_cases e:i=k
                        · rw [e];exact HFA.out
                        · exact HA.out i (by omega)⟩
             case measure=>simp [intOf];omega
         have HN:Hid (ZaC Ss Fs=false):=ZbG hlt (by rw [ZaF hlt];simp [ZdU,hk1,hk2,hk3,hk4]);have hlk:(Instr.lookup 254 (.map (some r)) (.int .i64 Fs[k].kd) true).run prog w1=.ok (.tuple #[.nilFunc,.bool false]) w1:=Zdu w1 r _ _ HR1.out (Zsv hk1 hk2 hk3 hk4);clear hk1 hk2 hk3 hk4;go_wp2
         go_quiet (fail)
         go_wp2;go_ret;exact⟨Zaa HN.out.symm,below_drewN HB1.out _⟩
    · go_wp2
      go_ret;exact⟨Zaa (Zdz (by omega) (fun i hi=>HA.out i (by omega))).symm,HB.out⟩
 · go_enter func170,ntmps170
   go_wp2;go_ret;exact⟨Zaa (Zfx (by omega)).symm,Below.refl _ _⟩
theorem Zmu {Ss:List Sh} {k:Nat} (h6:Ss.length≤6) (hk:Ss.length≤k) (h:∀ i,i < k→Za9 Ss i=true):ZaE Ss=true:=by
 unfold ZaE;rw [Za0 (fun i hi=>h i (by omega))];simp [h6]
theorem Zhf (lo:Nat) (v:Value) (Ss:List Sh) (w:World) (hv:ZaU lo w v Ss) :
 Calls prog 116 #[v] w fun e w'=>e=.returned (.bool (ZaE Ss))∧Zw_ w w':=by
 have HL:=Zab hv;have HW:∀ o,Hid (Zw_ w (w.alloc o)):=fun o=>Zb_.alloc Zl_ _
 by_cases hL:Ss=[]
 · subst hL
   obtain⟨a,cap,rfl⟩:=hv.form;clear hv;go_enter func116,ntmps116;go_wp2_with fail;refine (Zet _).mono ?_;rintro e w1 ⟨rfl,rfl⟩;go_wp2
   go_loop [12] (fun i=>i=.int .i64 0) (fun _=>0)
   case atStart=>rfl
   case round=>
    subst hrel;go_wp2;go_ret;exact⟨rfl,(HW _).out⟩
 obtain⟨b,off,cap,rfl,hm,hbw,hc⟩:=hv.full hL;clear hv;unfold maxLen at hm
 by_cases h6:(Ss.length:Int)≤6
 · go_enter func116,ntmps116
   go_wp2_with fail;refine (Zet _).mono ?_;rintro e w1 ⟨rfl,hw1⟩;have HB0:Hid (Zw_ w w1):=by unfold Hid;rw [hw1];exact (HW _).out
   have HR0:Hid (w1.heap[w.heap.size]?=some (.map Zam 4)):=by unfold Hid;rw [hw1];exact (MapKept.heap_alloc w _).1
   have hz1:w.heap.size < w1.heap.size:=by rw [hw1];simp
   clear hw1;go_wp2
   go_loopw [12] (fun i wr=>∃ k:Nat,i=.int .i64 k∧k≤Ss.length∧Below w1.heap.size w1 wr∧∀ i,i < k→Za9 Ss i=true) (fun i _=>Ss.length - (intOf i).toNat)
   case atStart=>exact⟨0,rfl,by omega,Below.refl _ _,fun i h=>by omega⟩
   case round=>
    obtain⟨k,rfl,hk,hb1,hall⟩:=hrel;have HA:=Zab hall;have HB1:=Zab hb1;have HB:Hid (Zw_ w wr):=HB0.out.trans (hb1.mono HB0.out.size);have HR:Hid (wr.heap[w.heap.size]?=some (.map Zam 4)):=by unfold Hid;rw [hb1.block w.heap.size hz1];exact HR0.out
    clear hall hb1
    by_cases hlt:k < Ss.length
    · obtain⟨hsz,fv,d0,d1,hst⟩:=hc k hlt
      have c0:wr.cell? ⟨b,off+k*2,none⟩=some (.string Ss[k].kind):=by rw [HB.out.cell (p:=⟨b,_,none⟩) hbw];exact d0
      have c1:wr.cell? ⟨b,off+k*2+1,none⟩=some fv:=by rw [HB.out.cell (p:=⟨b,_,none⟩) hbw];exact d1
      have HST:=Zab hst;obtain⟨fa,fcap,rfl⟩:=hst.form;clear d0 d1 hst;have hbo:b < wr.heap.size:=Zk_ hbw HB.out.size
      cases hnm:Zaj Ss[k].kind with
      | false=>
       have HN:Hid (ZaE Ss=false):=by
        unfold Hid;refine Zby hlt ?_
        cases k with
        | zero=>rw [ZcA hlt,hnm];rfl
        | succ j=>rw [ZbK hlt,hnm];rfl
       go_wp2
       go_quiet ((go_at_call 118;exact Calls.quiet_of_same (Zag _ _ hsz)))
       go_wp2;go_ret;exact⟨Zaa HN.out.symm,below_drewN (HB.out.alloc HB.out.size _) _⟩
      | true=>
       cases k with
       | zero=>
        have HEQ:Hid (Za9 Ss 0=ZaC Ss Ss[0].fields):=by unfold Hid;rw [ZcA hlt,hnm];rfl
        have c0':wr.cell? ⟨b,off,none⟩=some (.string Ss[0].kind):=by simpa using c0
        have c1':wr.cell? ⟨b,off+1,none⟩=some (.slice fa Ss[0].fields.length fcap):=by simpa using c1
        clear c0 c1;go_wp2
        go_quiet ((go_at_call 118;exact Calls.quiet_of_same (Zag _ _ hsz)))
        go_wp2_with fail;have HBD:∀ o n,Hid (Zw_ w ((wr.alloc o).drewN n)):=fun o n=>below_drewN (HB.out.alloc HB.out.size _) _
        have HRD:∀ o n,Hid (((wr.alloc o).drewN n).heap[w.heap.size]?=some (.map Zam 4)):=fun o n=>by
         unfold Hid;rw [(below_drewN ((Below.refl wr.heap.size wr).alloc Zl_ o) n).block w.heap.size (Zk_ hz1 HB1.out.size)];exact HR.out
        refine (ZfK w.heap.size lo lo _ _ Ss Ss[0].fields _ (HRD _ _).out (HL.out.below (HBD _ _).out) (HST.out.below (HBD _ _).out)).mono ?_;rintro e w3 ⟨rfl,hb3⟩;have HB3:Hid (Zw_ w w3):=(HBD _ _).out.trans (hb3.mono (HBD _ _).out.size);have HB13:Hid (Below w1.heap.size w1 w3):=(below_drewN (HB1.out.alloc HB1.out.size _) _).trans (hb3.mono (below_drewN (HB1.out.alloc HB1.out.size _) _).size);clear hb3
        cases hfb:ZaC Ss Ss[0].fields with
        | false=>
         have HN:Hid (ZaE Ss=false):=Zby hlt (by rw [HEQ.out];exact hfb);go_wp2;go_ret;exact⟨Zaa HN.out.symm,HB3.out⟩
        | true=>
         have hnx:Hid (∀ i,i < 0+1→Za9 Ss i=true):=fun i hi=>by
          by_cases e:i=0
          · rw [e,HEQ.out];exact hfb
          · exact HA.out i (by omega)
         go_wp2;go_roundw
         case rel=>exact⟨0+1,by go_num,by omega,HB13.out,hnx.out⟩
         case measure=>simp [intOf];omega
       | succ jj=>
        obtain⟨_,fvj,dj,_,_⟩:=hc jj (by omega);have cj:wr.cell? ⟨b,off+jj*2,none⟩=some (.string Ss[jj].kind):=by rw [HB.out.cell (p:=⟨b,_,none⟩) hbw];exact dj
        clear dj;have hjw:IntKind.i64.wrap (jj:Int)=jj:=by rw [IntKind.wrap_i64];omega
        have hjl:jj < Ss.length:=by omega
        have hdl:decide ((jj:Int)+1 < (Ss.length:Int))=true:=by simp;omega
        have cj2:∀ o,(wr.alloc o).cell? ⟨b,off+jj*2,none⟩=some (.string Ss[jj].kind):=fun o=>by rw [((Below.refl wr.heap.size wr).alloc Zl_ o).cell (p:=⟨b,_,none⟩) hbo];exact cj
        have cj3:∀ o n,((wr.alloc o).drewN n).cell? ⟨b,off+jj*2,none⟩=some (.string Ss[jj].kind):=fun o n=>cj2 o
        cases hls:Op.bytesLess Ss[jj].kind.toList Ss[jj+1].kind.toList with
        | false=>
         have HN:Hid (ZaE Ss=false):=Zby hlt (by rw [ZbK hlt,hls];simp);go_wp2
         go_quiet ((go_at_call 118;exact Calls.quiet_of_same (Zag _ _ hsz)))
         go_wp2;go_ret;exact⟨Zaa HN.out.symm,below_drewN (HB.out.alloc HB.out.size _) _⟩
        | true=>
         have HEQ:Hid (Za9 Ss (jj+1)=ZaC Ss Ss[jj+1].fields):=by unfold Hid;rw [ZbK hlt,hnm,hls];rfl
         go_wp2
         go_quiet ((go_at_call 118;exact Calls.quiet_of_same (Zag _ _ hsz)))
         go_wp2_with fail;have HBD:∀ o n,Hid (Zw_ w ((wr.alloc o).drewN n)):=fun o n=>below_drewN (HB.out.alloc HB.out.size _) _
         have HRD:∀ o n,Hid (((wr.alloc o).drewN n).heap[w.heap.size]?=some (.map Zam 4)):=fun o n=>by
          unfold Hid;rw [(below_drewN ((Below.refl wr.heap.size wr).alloc Zl_ o) n).block w.heap.size (Zk_ hz1 HB1.out.size)];exact HR.out
         refine (ZfK w.heap.size lo lo _ _ Ss Ss[jj+1].fields _ (HRD _ _).out (HL.out.below (HBD _ _).out) (HST.out.below (HBD _ _).out)).mono ?_;rintro e w3 ⟨rfl,hb3⟩;have HB3:Hid (Zw_ w w3):=(HBD _ _).out.trans (hb3.mono (HBD _ _).out.size);have HB13:Hid (Below w1.heap.size w1 w3):=(below_drewN (HB1.out.alloc HB1.out.size _) _).trans (hb3.mono (below_drewN (HB1.out.alloc HB1.out.size _) _).size);clear hb3
         cases hfb:ZaC Ss Ss[jj+1].fields with
         | false=>
          have HN:Hid (ZaE Ss=false):=Zby hlt (by rw [HEQ.out];exact hfb);go_wp2;go_ret;exact⟨Zaa HN.out.symm,HB3.out⟩
         | true=>
          have hnx:Hid (∀ i,i < jj+1+1→Za9 Ss i=true):=fun i hi=>by
           by_cases e:i=jj+1
           · rw [e,HEQ.out];exact hfb
           · exact HA.out i (by omega)
          go_wp2;go_roundw
          case rel=>exact⟨jj+1+1,by go_num,by omega,HB13.out,hnx.out⟩
          case measure=>simp [intOf];omega
    · go_wp2
      go_ret;exact⟨Zaa (Zmu (by omega) (by omega) HA.out).symm,HB.out⟩
 · go_enter func116,ntmps116
   go_wp2;go_ret;exact⟨Zaa (by unfold ZaE;simp;intro h;omega),Below.refl _ _⟩
end Go.Proofs.YtcfjmagkinpaeaaGreat
