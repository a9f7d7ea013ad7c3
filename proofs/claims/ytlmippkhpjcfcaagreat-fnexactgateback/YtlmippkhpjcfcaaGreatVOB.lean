import Derived.Test.YtlmippkhpjcfcaaGreatVOA
set_option maxHeartbeats 16000000
set_option maxRecDepth 100000
open Go.Proofs.Tryz
namespace Go.Proofs.YtlmippkhpjcfcaaGreat
open Go.RowKit Go.Deep
theorem Zld (lo hi:Nat) (v:Value) (Xl:List Le) (k:Int) (w:World) (hv:ZaR lo hi w v Xl) (hn:Zed Xl) (h0:0≤k) (hk:k≤2000000000000000000) :
 Calls prog 60 #[v,.int .i64 k] w fun e w'=>e=.returned (.int .i64 (k+(ZcC Xl Xl.length:Int)))∧Zae lo hi w w'∧ZaR lo hi w' v (Zj0 k Xl):=by
 rcases hv with ⟨a,cap,rfl,rfl⟩ | ⟨b,off,cap,c,X,rfl,hne,hm,hcap,hX,hR⟩
 · go_enter func60,ntmps60
   go_wp2
   go_loop [5,1] (fun i q=>i=.int .i64 0∧q=.int .i64 k) (fun _ _=>0)
   case atStart=>exact⟨rfl,rfl⟩
   case round=>
    obtain⟨rfl,rfl⟩:=hrel;go_wp2;go_ret;exact⟨by simp [ZcC],Zae.refl _ _ _,Or.inl ⟨_,_,rfl,rfl⟩⟩
 · have hlen:=hn.1
   have HN:=Zab hn;have HX:=Zab hX;have HR0:=Zab hR;have HM:=Zab hm;have HC:=Zab hcap;have HNE:=Zab hne;clear hn hX hR hm hcap hne;go_enter func60,ntmps60;go_wp2
   go_loopw [5,1] (fun i q wr=>∃ j:Nat,i=.int .i64 j∧q=.int .i64 (k+(ZcC Xl j:Int))∧j≤Xl.length∧Zae lo hi w wr∧Ze2 lo hi wr b off Xl.length c (fun i=>if i < j then ZsH (k+(ZcC Xl i:Int)) (X i) else X i)) (fun i _ _=>Xl.length - (intOf i).toNat)
   case atStart=>exact⟨0,rfl,by simp [ZcC],by omega,Zae.refl _ _ _,HR0.out.to (fun i _=>by simp)⟩
   case round=>
    obtain⟨j,rfl,rfl,hj,ht,hr⟩:=hrel;have HT:=Zab ht;have HR:=Zab hr;clear ht hr HR0
    by_cases hlt:j < Xl.length
    · have hpos:=ZjB HN.out (i:=j) (by omega)
      have HP:=Zab (Zgh hlt)
      have hone:ZfO b (off+j*4) (c j) (c (j+1)) wr (X j):=by
       have:=HR.out.row j hlt;simp only [Nat.lt_irrefl,if_false] at this;exact this
      have hxj:X j=Xl[j]:=HX.out j hlt;obtain⟨x,hx⟩:∃ x,x=X j:=⟨_,rfl⟩
      rw [← hx] at hone;obtain⟨hs,hc⟩:=hone;have HXJ:=Zab hxj;have HXX:=Zab hx;obtain⟨K,hK⟩:∃ K,K=k+(ZcC Xl j:Int):=⟨_,rfl⟩
      rw [← hK];have hK0:0≤K:=by omega
      have hK1:K≤2500000000000000000:=by omega
      have HK:=Zab hK;have HBC:Hid (b < c j):=Zk_ HR.out.bc (HR.out.le Zz_ (by omega));have HS:Hid (Zjn wr b (off+j*4) (c j) (c (j+1)) wr x):=⟨ZbZ.refl _ _ _ _ _ _,HBC.out,hc,HR.out.frz,HR.out.lt⟩;clear hpos hxj hx hs hc hK;obtain⟨d0,d1,d2,d3⟩:=HS.out.cells;have fz:=HS.out.frz;go_wp2_with fail;clear d0 d1 d2 d3 fz;refine (Zah _ _ (by omega)).mono ?_;rintro e v1 ⟨rfl,hb⟩;have HS1:=Zab (HS.out.below hb);clear hb HS;obtain⟨d0,d1,d2,d3⟩:=HS1.out.cells;have fz:=HS1.out.frz;go_wp2_with fail;clear d0 d1 d2 d3 fz;obtain⟨v2,hv2,HS2⟩:∃ v',v'=(v1.setCell ⟨b,off+j*4,none⟩ (.string (mtB (K))))∧Hid (Zjn wr b (off+j*4) (c j) (c (j+1)) v' ⟨mtB (K),x.re,x.mo,x.fr⟩):=⟨_,rfl,(HS1.out.s0 (mtB (K)))⟩
      rw [← hv2];clear hv2 HS1;refine (Zah _ _ (by omega)).mono ?_;rintro e v3 ⟨rfl,hb⟩;have HS3:=Zab (HS2.out.below hb);clear hb HS2;obtain⟨d0,d1,d2,d3⟩:=HS3.out.cells;have fz:=HS3.out.frz;go_wp2;clear d0 d1 d2 d3 fz;obtain⟨v4,hv4,HS4⟩:∃ v',v'=(((v3.setCell ⟨b,off+j*4+1,none⟩ (.string (mtB (K+1)))).setCell ⟨b,off+j*4+2,none⟩ (.int .i64 (K+1+1))).setCell ⟨b,off+j*4+3,none⟩ (.int .i64 (K+1+1+1)))∧Hid (Zjn wr b (off+j*4) (c j) (c (j+1)) v' ⟨mtB (K),mtB (K+1),K+1+1,K+1+1+1⟩):=⟨_,rfl,(((HS3.out.s1 (mtB (K+1))).s2 (K+1+1)).s3 (K+1+1+1))⟩
      rw [← hv4];clear hv4 HS3;have HW:Hid (Zsx Xl[j]=4):=by unfold Hid;rw [← HXJ.out,← HXX.out];rfl
      have HQ:Hid ((K+1+1+1+1:Int)=k+(ZcC Xl (j+1):Int)):=by
       have h1:=HP.out;have h2:=HW.out;have h3:=HK.out;unfold Hid
       omega
      have HRN:=Zab (HR.out.near hlt HS4.out.near (show ZfO b (off+j*4) (c j) (c (j+1)) v4 (ZsH K x) from ⟨⟨Zb6 _ (by omega),Zb6 _ (by omega)⟩,HS4.out.cells⟩));have HTN:=Zab (HS4.out.near.wide HR.out.lt (lo':=lo) (hi':=hi) (by have:=HBC.out;have:=HR.out.low;omega) (Nat.le_trans (HR.out.le (by omega) Zl_) HR.out.top) ⟨HR.out.low,HR.out.bh⟩);go_roundw
      case rel=>
       refine⟨j+1,by go_num,congrArg (Value.int .i64) HQ.out,by omega,HT.out.trans HTN.out,HRN.out.to (fun i hi'=>?_)⟩
       by_cases e:i=j
       · subst e
         rw [if_pos rfl,if_pos (by omega),← HK.out,HXX.out]
       · rw [if_neg e]
         by_cases e2:i < j
         · rw [if_pos e2,if_pos (by omega)]
         · rw [if_neg e2,if_neg (by omega)]
      case measure=>simp [intOf];omega
    · have e:j=Xl.length:=by omega
      subst e;go_wp2;go_ret;refine⟨rfl,HT.out,Or.inr ⟨b,off,cap,c,fun i=>ZsH (k+(ZcC Xl i:Int)) (X i),by rw [ZbM],?_,by rw [ZbM];exact HM.out,by rw [ZbM];exact HC.out,fun i h=>?_,?_⟩⟩
      · intro e
        have:=congrArg List.length e;rw [ZbM] at this;exact HNE.out (List.length_eq_zero_iff.1 (by simpa using this))
      · have h':i < Xl.length:=by rw [ZbM] at h;exact h
        rw [ZjR _ _ _ _ h',← HX.out i h']
      · rw [ZbM]
        exact HR.out.to (fun i hi'=>by rw [if_pos hi'])
theorem Zls (lo hi:Nat) (v:Value) (Xl:List Pu) (k:Int) (w:World) (hv:ZaY lo hi w v Xl) (hn:Zd9 Xl) (h0:0≤k) (hk:k≤2000000000000000000) :
 Calls prog 61 #[v,.int .i64 k] w fun e w'=>e=.returned (.int .i64 (k+(Zc9 Xl Xl.length:Int)))∧Zae lo hi w w'∧ZaY lo hi w' v (Zk1 k Xl):=by
 rcases hv with ⟨a,cap,rfl,rfl⟩ | ⟨b,off,cap,c,X,rfl,hne,hm,hcap,hX,hR⟩
 · go_enter func61,ntmps61
   go_wp2
   go_loop [5,1] (fun i q=>i=.int .i64 0∧q=.int .i64 k) (fun _ _=>0)
   case atStart=>exact⟨rfl,rfl⟩
   case round=>
    obtain⟨rfl,rfl⟩:=hrel;go_wp2;go_ret;exact⟨by simp [Zc9],Zae.refl _ _ _,Or.inl ⟨_,_,rfl,rfl⟩⟩
 · have hlen:=hn.1
   have HN:=Zab hn;have HX:=Zab hX;have HR0:=Zab hR;have HM:=Zab hm;have HC:=Zab hcap;have HNE:=Zab hne;clear hn hX hR hm hcap hne;go_enter func61,ntmps61;go_wp2
   go_loopw [5,1] (fun i q wr=>∃ j:Nat,i=.int .i64 j∧q=.int .i64 (k+(Zc9 Xl j:Int))∧j≤Xl.length∧Zae lo hi w wr∧ZeY lo hi wr b off Xl.length c (fun i=>if i < j then Zsv (k+(Zc9 Xl i:Int)) (X i) else X i)) (fun i _ _=>Xl.length - (intOf i).toNat)
   case atStart=>exact⟨0,rfl,by simp [Zc9],by omega,Zae.refl _ _ _,HR0.out.to (fun i _=>by simp)⟩
   case round=>
    obtain⟨j,rfl,rfl,hj,ht,hr⟩:=hrel;have HT:=Zab ht;have HR:=Zab hr;clear ht hr HR0
    by_cases hlt:j < Xl.length
    · have hpos:=ZiP HN.out (i:=j) (by omega)
      have HP:=Zab (Zgj hlt)
      have hone:Zf3 b (off+j*5) (c j) (c (j+1)) wr (X j):=by
       have:=HR.out.row j hlt;simp only [Nat.lt_irrefl,if_false] at this;exact this
      have hxj:X j=Xl[j]:=HX.out j hlt;obtain⟨x,hx⟩:∃ x,x=X j:=⟨_,rfl⟩
      rw [← hx] at hone;obtain⟨hs,hc⟩:=hone;have HXJ:=Zab hxj;have HXX:=Zab hx;obtain⟨K,hK⟩:∃ K,K=k+(Zc9 Xl j:Int):=⟨_,rfl⟩
      rw [← hK];have hK0:0≤K:=by omega
      have hK1:K≤2500000000000000000:=by omega
      have HK:=Zab hK;have HBC:Hid (b < c j):=Zk_ HR.out.bc (HR.out.le Zz_ (by omega));have HS:Hid (ZhQ wr b (off+j*5) (c j) (c (j+1)) wr x):=⟨ZbZ.refl _ _ _ _ _ _,HBC.out,hc,HR.out.frz,HR.out.lt⟩;clear hpos hxj hx hs hc hK;obtain⟨d0,d1,d2,d3,d4⟩:=HS.out.cells;have fz:=HS.out.frz;go_wp2_with fail;clear d0 d1 d2 d3 d4 fz;refine (Zah _ _ (by omega)).mono ?_;rintro e v1 ⟨rfl,hb⟩;have HS1:=Zab (HS.out.below hb);clear hb HS;obtain⟨d0,d1,d2,d3,d4⟩:=HS1.out.cells;have fz:=HS1.out.frz;go_wp2_with fail;clear d0 d1 d2 d3 d4 fz;obtain⟨v2,hv2,HS2⟩:∃ v',v'=(v1.setCell ⟨b,off+j*5,none⟩ (.string (mtB (K))))∧Hid (ZhQ wr b (off+j*5) (c j) (c (j+1)) v' ⟨mtB (K),x.tm,x.re,x.am,x.un⟩):=⟨_,rfl,(HS1.out.s0 (mtB (K)))⟩
      rw [← hv2];clear hv2 HS1;refine (Zah _ _ (by omega)).mono ?_;rintro e v3 ⟨rfl,hb⟩;have HS3:=Zab (HS2.out.below hb);clear hb HS2;obtain⟨d0,d1,d2,d3,d4⟩:=HS3.out.cells;have fz:=HS3.out.frz;go_wp2_with fail;clear d0 d1 d2 d3 d4 fz;obtain⟨v4,hv4,HS4⟩:∃ v',v'=(v3.setCell ⟨b,off+j*5+1,none⟩ (.string (mtB (K+1))))∧Hid (ZhQ wr b (off+j*5) (c j) (c (j+1)) v' ⟨mtB (K),mtB (K+1),x.re,x.am,x.un⟩):=⟨_,rfl,(HS3.out.s1 (mtB (K+1)))⟩
      rw [← hv4];clear hv4 HS3;refine (Zah _ _ (by omega)).mono ?_;rintro e v5 ⟨rfl,hb⟩;have HS5:=Zab (HS4.out.below hb);clear hb HS4;obtain⟨d0,d1,d2,d3,d4⟩:=HS5.out.cells;have fz:=HS5.out.frz;go_wp2;clear d0 d1 d2 d3 d4 fz;obtain⟨v6,hv6,HS6⟩:∃ v',v'=(((v5.setCell ⟨b,off+j*5+2,none⟩ (.string (mtB (K+1+1)))).setCell ⟨b,off+j*5+3,none⟩ (.int .i64 (K+1+1+1))).setCell ⟨b,off+j*5+4,none⟩ (.int .i64 (K+1+1+1+1)))∧Hid (ZhQ wr b (off+j*5) (c j) (c (j+1)) v' ⟨mtB (K),mtB (K+1),mtB (K+1+1),K+1+1+1,K+1+1+1+1⟩):=⟨_,rfl,(((HS5.out.s2 (mtB (K+1+1))).s3 (K+1+1+1)).s4 (K+1+1+1+1))⟩
      rw [← hv6];clear hv6 HS5;have HW:Hid (Zsw Xl[j]=5):=by unfold Hid;rw [← HXJ.out,← HXX.out];rfl
      have HQ:Hid ((K+1+1+1+1+1:Int)=k+(Zc9 Xl (j+1):Int)):=by
       have h1:=HP.out;have h2:=HW.out;have h3:=HK.out;unfold Hid
       omega
      have HRN:=Zab (HR.out.near hlt HS6.out.near (show Zf3 b (off+j*5) (c j) (c (j+1)) v6 (Zsv K x) from ⟨⟨Zb6 _ (by omega),Zb6 _ (by omega),Zb6 _ (by omega)⟩,HS6.out.cells⟩));have HTN:=Zab (HS6.out.near.wide HR.out.lt (lo':=lo) (hi':=hi) (by have:=HBC.out;have:=HR.out.low;omega) (Nat.le_trans (HR.out.le (by omega) Zl_) HR.out.top) ⟨HR.out.low,HR.out.bh⟩);go_roundw
      case rel=>
       refine⟨j+1,by go_num,congrArg (Value.int .i64) HQ.out,by omega,HT.out.trans HTN.out,HRN.out.to (fun i hi'=>?_)⟩
       by_cases e:i=j
       · subst e
         rw [if_pos rfl,if_pos (by omega),← HK.out,HXX.out]
       · rw [if_neg e]
         by_cases e2:i < j
         · rw [if_pos e2,if_pos (by omega)]
         · rw [if_neg e2,if_neg (by omega)]
      case measure=>simp [intOf];omega
    · have e:j=Xl.length:=by omega
      subst e;go_wp2;go_ret;refine⟨rfl,HT.out,Or.inr ⟨b,off,cap,c,fun i=>Zsv (k+(Zc9 Xl i:Int)) (X i),by rw [ZbO],?_,by rw [ZbO];exact HM.out,by rw [ZbO];exact HC.out,fun i h=>?_,?_⟩⟩
      · intro e
        have:=congrArg List.length e;rw [ZbO] at this;exact HNE.out (List.length_eq_zero_iff.1 (by simpa using this))
      · have h':i < Xl.length:=by rw [ZbO] at h;exact h
        rw [ZkB _ _ _ _ h',← HX.out i h']
      · rw [ZbO]
        exact HR.out.to (fun i hi'=>by rw [if_pos hi'])
theorem Zlk (lo hi:Nat) (v:Value) (Xl:List Gr) (k:Int) (w:World) (hv:Zbe lo hi w v Xl) (hn:Zdu Xl) (h0:0≤k) (hk:k≤2000000000000000000) :
 Calls prog 59 #[v,.int .i64 k] w fun e w'=>e=.returned (.int .i64 (k+(Zcr Xl Xl.length:Int)))∧Zae lo hi w w'∧Zbe lo hi w' v (Zks k Xl):=by
 rcases hv with ⟨a,cap,rfl,rfl⟩ | ⟨b,off,cap,c,X,rfl,hne,hm,hcap,hX,hR⟩
 · go_enter func59,ntmps59
   go_wp2
   go_loop [5,1] (fun i q=>i=.int .i64 0∧q=.int .i64 k) (fun _ _=>0)
   case atStart=>exact⟨rfl,rfl⟩
   case round=>
    obtain⟨rfl,rfl⟩:=hrel;go_wp2;go_ret;exact⟨by simp [Zcr],Zae.refl _ _ _,Or.inl ⟨_,_,rfl,rfl⟩⟩
 · have hlen:=hn.1
   have HN:=Zab hn;have HX:=Zab hX;have HR0:=Zab hR;have HM:=Zab hm;have HC:=Zab hcap;have HNE:=Zab hne;clear hn hX hR hm hcap hne;go_enter func59,ntmps59;go_wp2
   go_loopw [5,1] (fun i q wr=>∃ j:Nat,i=.int .i64 j∧q=.int .i64 (k+(Zcr Xl j:Int))∧j≤Xl.length∧Zae lo hi w wr∧Zfu lo hi wr b off Xl.length c (fun i=>if i < j then ZsB (k+(Zcr Xl i:Int)) (X i) else X i)) (fun i _ _=>Xl.length - (intOf i).toNat)
   case atStart=>exact⟨0,rfl,by simp [Zcr],by omega,Zae.refl _ _ _,HR0.out.to (fun i _=>by simp)⟩
   case round=>
    obtain⟨j,rfl,rfl,hj,ht,hr⟩:=hrel;have HT:=Zab ht;have HR:=Zab hr;clear ht hr HR0
    by_cases hlt:j < Xl.length
    · have hpos:=Zjy HN.out (i:=j) (by omega)
      have HP:=Zab (Zgg hlt)
      have hone:Zf5 b (off+j*7) (c j).1 (c j).2 wr (X j):=by
       have:=HR.out.row j hlt;simp only [Nat.lt_irrefl,if_false] at this;exact this
      have hxj:X j=Xl[j]:=HX.out j hlt;obtain⟨x,hx⟩:∃ x,x=X j:=⟨_,rfl⟩
      rw [← hx] at hone;obtain⟨hs,vv0,q0,hc,l0⟩:=hone;have hs0:x.vb.length≤1048576:=by have:=HN.out.2 j hlt;rw [hx,hxj];unfold ZdE at this;omega
      have HXJ:=Zab hxj;have HXX:=Zab hx;obtain⟨K,hK⟩:∃ K,K=k+(Zcr Xl j:Int):=⟨_,rfl⟩
      rw [← hK];have hK0:0≤K:=by omega
      have hK1:K≤2500000000000000000:=by omega
      have HK:=Zab hK;have HBC:Hid (b < (c j).1∨(c j).2≤b):=(HR.out.seg j hlt).2.2;have HS:Hid (Ze8 wr b (off+j*7) (c j).1 (c j).2 vv0 wr x):=⟨ZbZ.refl _ _ _ _ _ _,HBC.out,q0,hc,l0,HR.out.frz,HR.out.lt⟩;clear hpos hxj hx hs hc l0 q0 hK;obtain⟨d0,d1,d2,d3,d4,d5,d6⟩:=HS.out.cells;have fz:=HS.out.frz;go_wp2_with fail;clear d0 d1 d2 d3 d4 d5 d6 fz;obtain⟨v1,hv1,HS1⟩:∃ v',v'=(wr.setCell ⟨b,off+j*7,none⟩ (.int .i64 (K)))∧Hid (Ze8 wr b (off+j*7) (c j).1 (c j).2 vv0 v' ⟨K,x.tw,x.gb,x.vb,x.kd,x.tm,x.pf⟩):=⟨_,rfl,(HS.out.s0 (K))⟩
      rw [← hv1];clear hv1 HS;refine (Zah _ _ (by omega)).mono ?_;rintro e v2 ⟨rfl,hb⟩;have HS2:=Zab (HS1.out.below hb);clear hb HS1;obtain⟨d0,d1,d2,d3,d4,d5,d6⟩:=HS2.out.cells;have fz:=HS2.out.frz;go_wp2_with fail;clear d0 d1 d2 d3 d4 d5 d6 fz;obtain⟨v3,hv3,HS3⟩:∃ v',v'=(v2.setCell ⟨b,off+j*7+1,none⟩ (.string (mtB (K+1))))∧Hid (Ze8 wr b (off+j*7) (c j).1 (c j).2 vv0 v' ⟨K,mtB (K+1),x.gb,x.vb,x.kd,x.tm,x.pf⟩):=⟨_,rfl,(HS2.out.s1 (mtB (K+1)))⟩
      rw [← hv3];clear hv3 HS2;refine (Zah _ _ (by omega)).mono ?_;rintro e v4 ⟨rfl,hb⟩;have HS4:=Zab (HS3.out.below hb);clear hb HS3;obtain⟨d0,d1,d2,d3,d4,d5,d6⟩:=HS4.out.cells;have fz:=HS4.out.frz;go_wp2_with fail;clear d0 d1 d2 d3 d4 d5 d6 fz;obtain⟨v5,hv5,HS5⟩:∃ v',v'=(v4.setCell ⟨b,off+j*7+2,none⟩ (.string (mtB (K+1+1))))∧Hid (Ze8 wr b (off+j*7) (c j).1 (c j).2 vv0 v' ⟨K,mtB (K+1),mtB (K+1+1),x.vb,x.kd,x.tm,x.pf⟩):=⟨_,rfl,(HS4.out.s2 (mtB (K+1+1)))⟩
      rw [← hv5];clear hv5 HS4;refine (ZkI _ _ _ x.vb _ _ HS5.out.l0 (by omega) (by omega)).mono ?_;rintro e v6 ⟨rfl,ht,hl⟩;have HS6:Hid (Ze8 wr b (off+j*7) (c j).1 (c j).2 vv0 v6 ⟨K,mtB (K+1),mtB (K+1+1),ZdT (K+1+1+1) x.vb.length,x.kd,x.tm,x.pf⟩):=HS5.out.m0' ht hl;clear ht hl HS5;obtain⟨d0,d1,d2,d3,d4,d5,d6⟩:=HS6.out.cells;have fz:=HS6.out.frz;go_wp2_with fail;clear d0 d1 d2 d3 d4 d5 d6 fz;refine (Zah _ _ (by omega)).mono ?_;rintro e v7 ⟨rfl,hb⟩;have HS7:=Zab (HS6.out.below hb);clear hb HS6;obtain⟨d0,d1,d2,d3,d4,d5,d6⟩:=HS7.out.cells;have fz:=HS7.out.frz;go_wp2_with fail;clear d0 d1 d2 d3 d4 d5 d6 fz
      obtain⟨v8,hv8,HS8⟩:∃ v',v'=(v7.setCell ⟨b,off+j*7+4,none⟩ (.string (mtB (K+1+1+1+(x.vb.length:Int)))))∧Hid (Ze8 wr b (off+j*7) (c j).1 (c j).2 vv0 v' ⟨K,mtB (K+1),mtB (K+1+1),ZdT (K+1+1+1) x.vb.length,mtB (K+1+1+1+(x.vb.length:Int)),x.tm,x.pf⟩):=⟨_,rfl,(HS7.out.s4 (mtB (K+1+1+1+(x.vb.length:Int))))⟩
      rw [← hv8];clear hv8 HS7;refine (Zah _ _ (by omega)).mono ?_;rintro e v9 ⟨rfl,hb⟩;have HS9:=Zab (HS8.out.below hb);clear hb HS8;obtain⟨d0,d1,d2,d3,d4,d5,d6⟩:=HS9.out.cells;have fz:=HS9.out.frz;go_wp2_with fail;clear d0 d1 d2 d3 d4 d5 d6 fz;obtain⟨v10,hv10,HS10⟩:∃ v',v'=(v9.setCell ⟨b,off+j*7+5,none⟩ (.string (mtB (K+1+1+1+(x.vb.length:Int)+1))))∧Hid (Ze8 wr b (off+j*7) (c j).1 (c j).2 vv0 v' ⟨K,mtB (K+1),mtB (K+1+1),ZdT (K+1+1+1) x.vb.length,mtB (K+1+1+1+(x.vb.length:Int)),mtB (K+1+1+1+(x.vb.length:Int)+1),x.pf⟩):=⟨_,rfl,(HS9.out.s5 (mtB (K+1+1+1+(x.vb.length:Int)+1)))⟩
      rw [← hv10];clear hv10 HS9;refine (Zah _ _ (by omega)).mono ?_;rintro e v11 ⟨rfl,hb⟩;have HS11:=Zab (HS10.out.below hb);clear hb HS10;obtain⟨d0,d1,d2,d3,d4,d5,d6⟩:=HS11.out.cells;have fz:=HS11.out.frz;go_wp2;clear d0 d1 d2 d3 d4 d5 d6 fz;obtain⟨v12,hv12,HS12⟩:∃ v',v'=(v11.setCell ⟨b,off+j*7+6,none⟩ (.string (mtB (K+1+1+1+(x.vb.length:Int)+1+1))))∧Hid (Ze8 wr b (off+j*7) (c j).1 (c j).2 vv0 v' ⟨K,mtB (K+1),mtB (K+1+1),ZdT (K+1+1+1) x.vb.length,mtB (K+1+1+1+(x.vb.length:Int)),mtB (K+1+1+1+(x.vb.length:Int)+1),mtB (K+1+1+1+(x.vb.length:Int)+1+1)⟩):=⟨_,rfl,(HS11.out.s6 (mtB (K+1+1+1+(x.vb.length:Int)+1+1)))⟩
      rw [← hv12];clear hv12 HS11;have HW:Hid (Zsz Xl[j]=6+x.vb.length):=by unfold Hid;rw [← HXJ.out,← HXX.out];rfl
      have HQ:Hid ((K+1+1+1+(x.vb.length:Int)+1+1+1:Int)=k+(Zcr Xl (j+1):Int)):=by
       have h1:=HP.out;have h2:=HW.out;have h3:=HK.out;unfold Hid
       omega
      have HRN:=Zab (HR.out.near hlt HS12.out.near (show Zf5 b (off+j*7) (c j).1 (c j).2 v12 (ZsB K x) from ⟨⟨Zb6 _ (by omega),Zb6 _ (by omega),Zb6 _ (by omega),Zb6 _ (by omega),Zb6 _ (by omega)⟩,_,HS12.out.q0,HS12.out.cells,HS12.out.l0⟩));have HTN:=Zab (HS12.out.near.wide HR.out.lt (lo':=lo) (hi':=hi) (HR.out.seg j hlt).1 (HR.out.seg j hlt).2.1 ⟨HR.out.low,HR.out.bh⟩);go_roundw
      case rel=>
       refine⟨j+1,by go_num,congrArg (Value.int .i64) HQ.out,by omega,HT.out.trans HTN.out,HRN.out.to (fun i hi'=>?_)⟩
       by_cases e:i=j
       · subst e
         rw [if_pos rfl,if_pos (by omega),← HK.out,HXX.out]
       · rw [if_neg e]
         by_cases e2:i < j
         · rw [if_pos e2,if_pos (by omega)]
         · rw [if_neg e2,if_neg (by omega)]
      case measure=>simp [intOf];omega
    · have e:j=Xl.length:=by omega
      subst e;go_wp2;go_ret;refine⟨rfl,HT.out,Or.inr ⟨b,off,cap,c,fun i=>ZsB (k+(Zcr Xl i:Int)) (X i),by rw [ZbN],?_,by rw [ZbN];exact HM.out,by rw [ZbN];exact HC.out,fun i h=>?_,?_⟩⟩
      · intro e
        have:=congrArg List.length e;rw [ZbN] at this;exact HNE.out (List.length_eq_zero_iff.1 (by simpa using this))
      · have h':i < Xl.length:=by rw [ZbN] at h;exact h
        rw [Zkm _ _ _ _ h',← HX.out i h']
      · rw [ZbN]
        exact HR.out.to (fun i hi'=>by rw [if_pos hi'])
theorem Zk6 (lo hi:Nat) (v:Value) (Xl:List Ob) (k:Int) (w:World) (hv:Za7 lo hi w v Xl) (hn:ZbI Xl) (h0:0≤k) (hk:k≤2000000000000000000) :
 Calls prog 58 #[v,.int .i64 k] w fun e w'=>e=.returned (.int .i64 (k+(Zca Xl Xl.length:Int)))∧Zae lo hi w w'∧Za7 lo hi w' v (Zkf k Xl):=by
 rcases hv with ⟨a,cap,rfl,rfl⟩ | ⟨b,off,cap,c,X,rfl,hne,hm,hcap,hX,hR⟩
 · go_enter func58,ntmps58
   go_wp2
   go_loop [5,1] (fun i q=>i=.int .i64 0∧q=.int .i64 k) (fun _ _=>0)
   case atStart=>exact⟨rfl,rfl⟩
   case round=>
    obtain⟨rfl,rfl⟩:=hrel;go_wp2;go_ret;exact⟨by simp [Zca],Zae.refl _ _ _,Or.inl ⟨_,_,rfl,rfl⟩⟩
 · have hlen:=hn.1
   have HN:=Zab hn;have HX:=Zab hX;have HR0:=Zab hR;have HM:=Zab hm;have HC:=Zab hcap;have HNE:=Zab hne;clear hn hX hR hm hcap hne;go_enter func58,ntmps58;go_wp2
   go_loopw [5,1] (fun i q wr=>∃ j:Nat,i=.int .i64 j∧q=.int .i64 (k+(Zca Xl j:Int))∧j≤Xl.length∧Zae lo hi w wr∧Zfx lo hi wr b off Xl.length c (fun i=>if i < j then ZsE (k+(Zca Xl i:Int)) (X i) else X i)) (fun i _ _=>Xl.length - (intOf i).toNat)
   case atStart=>exact⟨0,rfl,by simp [Zca],by omega,Zae.refl _ _ _,HR0.out.to (fun i _=>by simp)⟩
   case round=>
    obtain⟨j,rfl,rfl,hj,ht,hr⟩:=hrel;have HT:=Zab ht;have HR:=Zab hr;clear ht hr HR0
    by_cases hlt:j < Xl.length
    · have hpos:=Zjk HN.out (i:=j) (by omega)
      have HP:=Zab (Zf8 hlt)
      have hone:Zf4 b (off+j*7) (c j).1 (c j).2 wr (X j):=by
       have:=HR.out.row j hlt;simp only [Nat.lt_irrefl,if_false] at this;exact this
      have hxj:X j=Xl[j]:=HX.out j hlt;obtain⟨x,hx⟩:∃ x,x=X j:=⟨_,rfl⟩
      rw [← hx] at hone;obtain⟨hs,vv0,vv1,m1,q0,q1,hc,l0,l1⟩:=hone;have hs0:x.vs.length≤1048576:=by have:=HN.out.2 j hlt;rw [hx,hxj];unfold ZdD at this;omega
      have hs1:x.hs.length≤1048576:=by have:=HN.out.2 j hlt;rw [hx,hxj];unfold ZdD at this;omega
      have HXJ:=Zab hxj;have HXX:=Zab hx;obtain⟨K,hK⟩:∃ K,K=k+(Zca Xl j:Int):=⟨_,rfl⟩
      rw [← hK];have hK0:0≤K:=by omega
      have hK1:K≤2500000000000000000:=by omega
      have HK:=Zab hK;have HBC:Hid (b < (c j).1∨(c j).2≤b):=(HR.out.seg j hlt).2.2;have HS:Hid (Zfe wr b (off+j*7) (c j).1 (c j).2 m1 vv0 vv1 wr x):=⟨ZbZ.refl _ _ _ _ _ _,HBC.out,q0,q1,hc,l0,l1,HR.out.frz,HR.out.lt⟩;clear hpos hxj hx hs hc l0 l1 q0 q1 hK;obtain⟨d0,d1,d2,d3,d4,d5,d6⟩:=HS.out.cells;have fz:=HS.out.frz;go_wp2_with fail;clear d0 d1 d2 d3 d4 d5 d6 fz;refine (Zah _ _ (by omega)).mono ?_;rintro e v1 ⟨rfl,hb⟩;have HS1:=Zab (HS.out.below hb);clear hb HS;obtain⟨d0,d1,d2,d3,d4,d5,d6⟩:=HS1.out.cells;have fz:=HS1.out.frz;go_wp2_with fail;clear d0 d1 d2 d3 d4 d5 d6 fz;obtain⟨v2,hv2,HS2⟩:∃ v',v'=(v1.setCell ⟨b,off+j*7,none⟩ (.string (mtB (K))))∧Hid (Zfe wr b (off+j*7) (c j).1 (c j).2 m1 vv0 vv1 v' ⟨mtB (K),x.nm,x.tm,x.vs,x.en,x.hs,x.ver⟩):=⟨_,rfl,(HS1.out.s0 (mtB (K)))⟩
      rw [← hv2];clear hv2 HS1;refine (Zah _ _ (by omega)).mono ?_;rintro e v3 ⟨rfl,hb⟩;have HS3:=Zab (HS2.out.below hb);clear hb HS2;obtain⟨d0,d1,d2,d3,d4,d5,d6⟩:=HS3.out.cells;have fz:=HS3.out.frz;go_wp2_with fail;clear d0 d1 d2 d3 d4 d5 d6 fz;obtain⟨v4,hv4,HS4⟩:∃ v',v'=(v3.setCell ⟨b,off+j*7+1,none⟩ (.string (mtB (K+1))))∧Hid (Zfe wr b (off+j*7) (c j).1 (c j).2 m1 vv0 vv1 v' ⟨mtB (K),mtB (K+1),x.tm,x.vs,x.en,x.hs,x.ver⟩):=⟨_,rfl,(HS3.out.s1 (mtB (K+1)))⟩
      rw [← hv4];clear hv4 HS3;refine (Zah _ _ (by omega)).mono ?_;rintro e v5 ⟨rfl,hb⟩;have HS5:=Zab (HS4.out.below hb);clear hb HS4;obtain⟨d0,d1,d2,d3,d4,d5,d6⟩:=HS5.out.cells;have fz:=HS5.out.frz;go_wp2_with fail;clear d0 d1 d2 d3 d4 d5 d6 fz;obtain⟨v6,hv6,HS6⟩:∃ v',v'=(v5.setCell ⟨b,off+j*7+2,none⟩ (.string (mtB (K+1+1))))∧Hid (Zfe wr b (off+j*7) (c j).1 (c j).2 m1 vv0 vv1 v' ⟨mtB (K),mtB (K+1),mtB (K+1+1),x.vs,x.en,x.hs,x.ver⟩):=⟨_,rfl,(HS5.out.s2 (mtB (K+1+1)))⟩
      rw [← hv6];clear hv6 HS5;refine (Zgx _ _ _ x.vs _ _ HS6.out.l0 (by omega) (by omega)).mono ?_;rintro e v7 ⟨rfl,ht,hl⟩;have HS7:Hid (Zfe wr b (off+j*7) (c j).1 (c j).2 m1 vv0 vv1 v7 ⟨mtB (K),mtB (K+1),mtB (K+1+1),ZeI (K+1+1+1) x.vs.length,x.en,x.hs,x.ver⟩):=HS6.out.m0' ht hl;clear ht hl HS6;obtain⟨d0,d1,d2,d3,d4,d5,d6⟩:=HS7.out.cells;have fz:=HS7.out.frz;go_wp2_with fail;clear d0 d1 d2 d3 d4 d5 d6 fz;obtain⟨v8,hv8,HS8⟩:∃ v',v'=(v7.setCell ⟨b,off+j*7+4,none⟩ (.bool (((K+1+1+1+(x.vs.length:Int)) % 3 == 0))))∧Hid (Zfe wr b (off+j*7) (c j).1 (c j).2 m1 vv0 vv1 v' ⟨mtB (K),mtB (K+1),mtB (K+1+1),ZeI (K+1+1+1) x.vs.length,((K+1+1+1+(x.vs.length:Int)) % 3 == 0),x.hs,x.ver⟩):=⟨_,rfl,(HS7.out.s4 (((K+1+1+1+(x.vs.length:Int)) % 3 == 0)))⟩
      rw [← hv8];clear hv8 HS7;refine (Zgx _ _ _ x.hs _ _ HS8.out.l1 (by omega) (by omega)).mono ?_;rintro e v9 ⟨rfl,ht,hl⟩;have HS9:Hid (Zfe wr b (off+j*7) (c j).1 (c j).2 m1 vv0 vv1 v9 ⟨mtB (K),mtB (K+1),mtB (K+1+1),ZeI (K+1+1+1) x.vs.length,((K+1+1+1+(x.vs.length:Int)) % 3 == 0),ZeI (K+1+1+1+(x.vs.length:Int)+1) x.hs.length,x.ver⟩):=HS8.out.m1' ht hl;clear ht hl HS8;obtain⟨d0,d1,d2,d3,d4,d5,d6⟩:=HS9.out.cells;have fz:=HS9.out.frz;go_wp2;clear d0 d1 d2 d3 d4 d5 d6 fz
      obtain⟨v10,hv10,HS10⟩:∃ v',v'=(v9.setCell ⟨b,off+j*7+6,none⟩ (.int .i64 (K+1+1+1+(x.vs.length:Int)+1+(x.hs.length:Int))))∧Hid (Zfe wr b (off+j*7) (c j).1 (c j).2 m1 vv0 vv1 v' ⟨mtB (K),mtB (K+1),mtB (K+1+1),ZeI (K+1+1+1) x.vs.length,((K+1+1+1+(x.vs.length:Int)) % 3 == 0),ZeI (K+1+1+1+(x.vs.length:Int)+1) x.hs.length,K+1+1+1+(x.vs.length:Int)+1+(x.hs.length:Int)⟩):=⟨_,rfl,(HS9.out.s6 (K+1+1+1+(x.vs.length:Int)+1+(x.hs.length:Int)))⟩
      rw [← hv10];clear hv10 HS9;have HW:Hid (ZsD Xl[j]=5+x.vs.length+x.hs.length):=by unfold Hid;rw [← HXJ.out,← HXX.out];rfl
      have HQ:Hid ((K+1+1+1+(x.vs.length:Int)+1+(x.hs.length:Int)+1:Int)=k+(Zca Xl (j+1):Int)):=by
       have h1:=HP.out;have h2:=HW.out;have h3:=HK.out;unfold Hid
       omega
      have HRN:=Zab (HR.out.near hlt HS10.out.near (show Zf4 b (off+j*7) (c j).1 (c j).2 v10 (ZsE K x) from ⟨⟨Zb6 _ (by omega),Zb6 _ (by omega),Zb6 _ (by omega)⟩,_,_,_,HS10.out.q0,HS10.out.q1,HS10.out.cells,HS10.out.l0,HS10.out.l1⟩));have HTN:=Zab (HS10.out.near.wide HR.out.lt (lo':=lo) (hi':=hi) (HR.out.seg j hlt).1 (HR.out.seg j hlt).2.1 ⟨HR.out.low,HR.out.bh⟩);go_roundw
      case rel=>
       refine⟨j+1,by go_num,congrArg (Value.int .i64) HQ.out,by omega,HT.out.trans HTN.out,HRN.out.to (fun i hi'=>?_)⟩
       by_cases e:i=j
       · subst e
         rw [if_pos rfl,if_pos (by omega),← HK.out,HXX.out]
       · rw [if_neg e]
         by_cases e2:i < j
         · rw [if_pos e2,if_pos (by omega)]
         · rw [if_neg e2,if_neg (by omega)]
      case measure=>simp [intOf];omega
    · have e:j=Xl.length:=by omega
      subst e;go_wp2;go_ret;refine⟨rfl,HT.out,Or.inr ⟨b,off,cap,c,fun i=>ZsE (k+(Zca Xl i:Int)) (X i),by rw [ZbQ],?_,by rw [ZbQ];exact HM.out,by rw [ZbQ];exact HC.out,fun i h=>?_,?_⟩⟩
      · intro e
        have:=congrArg List.length e;rw [ZbQ] at this;exact HNE.out (List.length_eq_zero_iff.1 (by simpa using this))
      · have h':i < Xl.length:=by rw [ZbQ] at h;exact h
        rw [Zkq _ _ _ _ h',← HX.out i h']
      · rw [ZbQ]
        exact HR.out.to (fun i hi'=>by rw [if_pos hi'])
theorem Zk9 (lo hi:Nat) (v:Value) (Xl:List Tm) (k:Int) (w:World) (hv:Zcq lo hi w v Xl) (hn:Zdt Xl) (h0:0≤k) (hk:k≤2000000000000000000) :
 Calls prog 57 #[v,.int .i64 k] w fun e w'=>e=.returned (.int .i64 (k+(ZeZ Xl Xl.length:Int)))∧Zae lo hi w w'∧Zcq lo hi w' v (ZoV k Xl):=by
 rcases hv with ⟨a,cap,rfl,rfl⟩ | ⟨b,off,cap,c,X,rfl,hne,hm,hcap,hX,hR⟩
 · go_enter func57,ntmps57
   go_wp2
   go_loop [5,1] (fun i q=>i=.int .i64 0∧q=.int .i64 k) (fun _ _=>0)
   case atStart=>exact⟨rfl,rfl⟩
   case round=>
    obtain⟨rfl,rfl⟩:=hrel;go_wp2;go_ret;exact⟨by simp [ZeZ],Zae.refl _ _ _,Or.inl ⟨_,_,rfl,rfl⟩⟩
 · have hlen:=hn.1
   have HN:=Zab hn;have HX:=Zab hX;have HR0:=Zab hR;have HM:=Zab hm;have HC:=Zab hcap;have HNE:=Zab hne;clear hn hX hR hm hcap hne;go_enter func57,ntmps57;go_wp2
   go_loopw [5,1] (fun i q wr=>∃ j:Nat,i=.int .i64 j∧q=.int .i64 (k+(ZeZ Xl j:Int))∧j≤Xl.length∧Zae lo hi w wr∧Ze3 lo hi wr b off Xl.length c (fun i=>if i < j then ZsC (k+(ZeZ Xl i:Int)) (X i) else X i)) (fun i _ _=>Xl.length - (intOf i).toNat)
   case atStart=>exact⟨0,rfl,by simp [ZeZ],by omega,Zae.refl _ _ _,HR0.out.to (fun i _=>by simp)⟩
   case round=>
    obtain⟨j,rfl,rfl,hj,ht,hr⟩:=hrel;have HT:=Zab ht;have HR:=Zab hr;clear ht hr HR0
    by_cases hlt:j < Xl.length
    · have hpos:=Zmt HN.out (i:=j) (by omega)
      have HP:=Zab (ZiF hlt)
      have hone:ZfX b (off+j*2) (c j) (c (j+1)) wr (X j):=by
       have:=HR.out.row j hlt;simp only [Nat.lt_irrefl,if_false] at this;exact this
      have hxj:X j=Xl[j]:=HX.out j hlt;obtain⟨x,hx⟩:∃ x,x=X j:=⟨_,rfl⟩
      rw [← hx] at hone;obtain⟨hs,hc⟩:=hone;have HXJ:=Zab hxj;have HXX:=Zab hx;obtain⟨K,hK⟩:∃ K,K=k+(ZeZ Xl j:Int):=⟨_,rfl⟩
      rw [← hK];have hK0:0≤K:=by omega
      have hK1:K≤2500000000000000000:=by omega
      have HK:=Zab hK;have HBC:Hid (b < c j):=Zk_ HR.out.bc (HR.out.le Zz_ (by omega));have HS:Hid (Zor wr b (off+j*2) (c j) (c (j+1)) wr x):=⟨ZbZ.refl _ _ _ _ _ _,HBC.out,hc,HR.out.frz,HR.out.lt⟩;clear hpos hxj hx hs hc hK;obtain⟨d0,d1⟩:=HS.out.cells;have fz:=HS.out.frz;go_wp2_with fail;clear d0 d1 fz;refine (Zah _ _ (by omega)).mono ?_;rintro e v1 ⟨rfl,hb⟩;have HS1:=Zab (HS.out.below hb);clear hb HS;obtain⟨d0,d1⟩:=HS1.out.cells;have fz:=HS1.out.frz;go_wp2_with fail;clear d0 d1 fz;obtain⟨v2,hv2,HS2⟩:∃ v',v'=(v1.setCell ⟨b,off+j*2,none⟩ (.string (mtB (K))))∧Hid (Zor wr b (off+j*2) (c j) (c (j+1)) v' ⟨mtB (K),x.ov⟩):=⟨_,rfl,(HS1.out.s0 (mtB (K)))⟩
      rw [← hv2];clear hv2 HS1;refine (Zah _ _ (by omega)).mono ?_;rintro e v3 ⟨rfl,hb⟩;have HS3:=Zab (HS2.out.below hb);clear hb HS2;obtain⟨d0,d1⟩:=HS3.out.cells;have fz:=HS3.out.frz;go_wp2;clear d0 d1 fz;obtain⟨v4,hv4,HS4⟩:∃ v',v'=(v3.setCell ⟨b,off+j*2+1,none⟩ (.string (mtB (K+1))))∧Hid (Zor wr b (off+j*2) (c j) (c (j+1)) v' ⟨mtB (K),mtB (K+1)⟩):=⟨_,rfl,(HS3.out.s1 (mtB (K+1)))⟩
      rw [← hv4];clear hv4 HS3;have HW:Hid (Ztg Xl[j]=2):=by unfold Hid;rw [← HXJ.out,← HXX.out];rfl
      have HQ:Hid ((K+1+1:Int)=k+(ZeZ Xl (j+1):Int)):=by
       have h1:=HP.out;have h2:=HW.out;have h3:=HK.out;unfold Hid
       omega
      have HRN:=Zab (HR.out.near hlt HS4.out.near (show ZfX b (off+j*2) (c j) (c (j+1)) v4 (ZsC K x) from ⟨⟨Zb6 _ (by omega),Zb6 _ (by omega)⟩,HS4.out.cells⟩));have HTN:=Zab (HS4.out.near.wide HR.out.lt (lo':=lo) (hi':=hi) (by have:=HBC.out;have:=HR.out.low;omega) (Nat.le_trans (HR.out.le (by omega) Zl_) HR.out.top) ⟨HR.out.low,HR.out.bh⟩);go_roundw
      case rel=>
       refine⟨j+1,by go_num,congrArg (Value.int .i64) HQ.out,by omega,HT.out.trans HTN.out,HRN.out.to (fun i hi'=>?_)⟩
       by_cases e:i=j
       · subst e
         rw [if_pos rfl,if_pos (by omega),← HK.out,HXX.out]
       · rw [if_neg e]
         by_cases e2:i < j
         · rw [if_pos e2,if_pos (by omega)]
         · rw [if_neg e2,if_neg (by omega)]
      case measure=>simp [intOf];omega
    · have e:j=Xl.length:=by omega
      subst e;go_wp2;go_ret;refine⟨rfl,HT.out,Or.inr ⟨b,off,cap,c,fun i=>ZsC (k+(ZeZ Xl i:Int)) (X i),by rw [ZdN],?_,by rw [ZdN];exact HM.out,by rw [ZdN];exact HC.out,fun i h=>?_,?_⟩⟩
      · intro e
        have:=congrArg List.length e;rw [ZdN] at this;exact HNE.out (List.length_eq_zero_iff.1 (by simpa using this))
      · have h':i < Xl.length:=by rw [ZdN] at h;exact h
        rw [ZpP _ _ _ _ h',← HX.out i h']
      · rw [ZdN]
        exact HR.out.to (fun i hi'=>by rw [if_pos hi'])
end Go.Proofs.YtlmippkhpjcfcaaGreat
