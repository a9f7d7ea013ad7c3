import Derived.Test.YtfohnageehneoaaGreatVOA
set_option maxHeartbeats 16000000
set_option maxRecDepth 100000
open Go.Proofs.Tryz
namespace Go.Proofs.YtfohnageehneoaaGreat
open Go.RowKit Go.Deep
theorem Zli (lo hi:Nat) (v:Value) (Xl:List Le) (k:Int) (w:World) (hv:ZaO lo hi w v Xl) (hn:Zd4 Xl) (h0:0≤k) (hk:k≤2000000000000000000) :
 Calls prog 63 #[v,.int .i64 k] w fun e w'=>e=.returned (.int .i64 (k+(Zcz Xl Xl.length:Int)))∧Zad lo hi w w'∧ZaO lo hi w' v (Zjt k Xl):=by
 rcases hv with ⟨a,cap,rfl,rfl⟩ | ⟨b,off,cap,c,X,rfl,hne,hm,hcap,hX,hR⟩
 · go_enter func63,ntmps63
   go_wp2
   go_loop [5,1] (fun i q=>i=.int .i64 0∧q=.int .i64 k) (fun _ _=>0)
   case atStart=>exact⟨rfl,rfl⟩
   case round=>
    obtain⟨rfl,rfl⟩:=hrel;go_wp2;go_ret;exact⟨by simp [Zcz],Zad.refl _ _ _,Or.inl ⟨_,_,rfl,rfl⟩⟩
 · have hlen:=hn.1
   have HN:=Zab hn;have HX:=Zab hX;have HR0:=Zab hR;have HM:=Zab hm;have HC:=Zab hcap;have HNE:=Zab hne;clear hn hX hR hm hcap hne;go_enter func63,ntmps63;go_wp2
   go_loopw [5,1] (fun i q wr=>∃ j:Nat,i=.int .i64 j∧q=.int .i64 (k+(Zcz Xl j:Int))∧j≤Xl.length∧Zad lo hi w wr∧ZeL lo hi wr b off Xl.length c (fun i=>if i < j then Zsm (k+(Zcz Xl i:Int)) (X i) else X i)) (fun i _ _=>Xl.length - (intOf i).toNat)
   case atStart=>exact⟨0,rfl,by simp [Zcz],by omega,Zad.refl _ _ _,HR0.out.to (fun i _=>by simp)⟩
   case round=>
    obtain⟨j,rfl,rfl,hj,ht,hr⟩:=hrel;have HT:=Zab ht;have HR:=Zab hr;clear ht hr HR0
    by_cases hlt:j < Xl.length
    · have hpos:=Zja HN.out (i:=j) (by omega)
      have HP:=Zab (ZfR hlt)
      have hone:Zfx b (off+j*4) (c j) (c (j+1)) wr (X j):=by
       have:=HR.out.row j hlt;simp only [Nat.lt_irrefl,if_false] at this;exact this
      have hxj:X j=Xl[j]:=HX.out j hlt;obtain⟨x,hx⟩:∃ x,x=X j:=⟨_,rfl⟩
      rw [← hx] at hone;obtain⟨hs,hc⟩:=hone;have HXJ:=Zab hxj;have HXX:=Zab hx;obtain⟨K,hK⟩:∃ K,K=k+(Zcz Xl j:Int):=⟨_,rfl⟩
      rw [← hK];have hK0:0≤K:=by omega
      have hK1:K≤2500000000000000000:=by omega
      have HK:=Zab hK;have HBC:Hid (b < c j):=Zk_ HR.out.bc (HR.out.le Zz_ (by omega));have HS:Hid (Zjc wr b (off+j*4) (c j) (c (j+1)) wr x):=⟨ZbW.refl _ _ _ _ _ _,HBC.out,hc,HR.out.frz,HR.out.lt⟩;clear hpos hxj hx hs hc hK;obtain⟨d0,d1,d2,d3⟩:=HS.out.cells;have fz:=HS.out.frz;go_wp2_with fail;clear d0 d1 d2 d3 fz;refine (Zah _ _ (by omega)).mono ?_;rintro e v1 ⟨rfl,hb⟩;have HS1:=Zab (HS.out.below hb);clear hb HS;obtain⟨d0,d1,d2,d3⟩:=HS1.out.cells;have fz:=HS1.out.frz;go_wp2_with fail;clear d0 d1 d2 d3 fz;obtain⟨v2,hv2,HS2⟩:∃ v',v'=(v1.setCell ⟨b,off+j*4,none⟩ (.string (mtB (K))))∧Hid (Zjc wr b (off+j*4) (c j) (c (j+1)) v' ⟨mtB (K),x.re,x.mo,x.fr⟩):=⟨_,rfl,(HS1.out.s0 (mtB (K)))⟩
      rw [← hv2];clear hv2 HS1;refine (Zah _ _ (by omega)).mono ?_;rintro e v3 ⟨rfl,hb⟩;have HS3:=Zab (HS2.out.below hb);clear hb HS2;obtain⟨d0,d1,d2,d3⟩:=HS3.out.cells;have fz:=HS3.out.frz;go_wp2;clear d0 d1 d2 d3 fz;obtain⟨v4,hv4,HS4⟩:∃ v',v'=(((v3.setCell ⟨b,off+j*4+1,none⟩ (.string (mtB (K+1)))).setCell ⟨b,off+j*4+2,none⟩ (.int .i64 (K+1+1))).setCell ⟨b,off+j*4+3,none⟩ (.int .i64 (K+1+1+1)))∧Hid (Zjc wr b (off+j*4) (c j) (c (j+1)) v' ⟨mtB (K),mtB (K+1),K+1+1,K+1+1+1⟩):=⟨_,rfl,(((HS3.out.s1 (mtB (K+1))).s2 (K+1+1)).s3 (K+1+1+1))⟩
      rw [← hv4];clear hv4 HS3;have HW:Hid (Zsl Xl[j]=4):=by unfold Hid;rw [← HXJ.out,← HXX.out];rfl
      have HQ:Hid ((K+1+1+1+1:Int)=k+(Zcz Xl (j+1):Int)):=by
       have h1:=HP.out;have h2:=HW.out;have h3:=HK.out;unfold Hid
       omega
      have HRN:=Zab (HR.out.near hlt HS4.out.near (show Zfx b (off+j*4) (c j) (c (j+1)) v4 (Zsm K x) from ⟨⟨Zb3 _ (by omega),Zb3 _ (by omega)⟩,HS4.out.cells⟩));have HTN:=Zab (HS4.out.near.wide HR.out.lt (lo':=lo) (hi':=hi) (by have:=HBC.out;have:=HR.out.low;omega) (Nat.le_trans (HR.out.le (by omega) Zl_) HR.out.top) ⟨HR.out.low,HR.out.bh⟩);go_roundw
      case rel=>
       refine⟨j+1,by go_num,congrArg (Value.int .i64) HQ.out,by omega,HT.out.trans HTN.out,HRN.out.to (fun i hi'=>?_)⟩
       by_cases e:i=j
       · subst e
         rw [if_pos rfl,if_pos (by omega),← HK.out,HXX.out]
       · rw [if_neg e]
         by_cases e2:i < j
         · rw [if_pos e2,if_pos (by omega)]
         · rw [if_neg e2,if_neg (by omega)]
      case measure=>simp [intOf];omega
    · have e:j=Xl.length:=by omega
      subst e;go_wp2;go_ret;refine⟨rfl,HT.out,Or.inr ⟨b,off,cap,c,fun i=>Zsm (k+(Zcz Xl i:Int)) (X i),by rw [ZbN],?_,by rw [ZbN];exact HM.out,by rw [ZbN];exact HC.out,fun i h=>?_,?_⟩⟩
      · intro e
        have:=congrArg List.length e;rw [ZbN] at this;exact HNE.out (List.length_eq_zero_iff.1 (by simpa using this))
      · have h':i < Xl.length:=by rw [ZbN] at h;exact h
        rw [ZjV _ _ _ _ h',← HX.out i h']
      · rw [ZbN]
        exact HR.out.to (fun i hi'=>by rw [if_pos hi'])
theorem Zky (lo hi:Nat) (v:Value) (Xl:List Pu) (k:Int) (w:World) (hv:Za5 lo hi w v Xl) (hn:ZdW Xl) (h0:0≤k) (hk:k≤2000000000000000000) :
 Calls prog 64 #[v,.int .i64 k] w fun e w'=>e=.returned (.int .i64 (k+(Zc4 Xl Xl.length:Int)))∧Zad lo hi w w'∧Za5 lo hi w' v (ZjS k Xl):=by
 rcases hv with ⟨a,cap,rfl,rfl⟩ | ⟨b,off,cap,c,X,rfl,hne,hm,hcap,hX,hR⟩
 · go_enter func64,ntmps64
   go_wp2
   go_loop [5,1] (fun i q=>i=.int .i64 0∧q=.int .i64 k) (fun _ _=>0)
   case atStart=>exact⟨rfl,rfl⟩
   case round=>
    obtain⟨rfl,rfl⟩:=hrel;go_wp2;go_ret;exact⟨by simp [Zc4],Zad.refl _ _ _,Or.inl ⟨_,_,rfl,rfl⟩⟩
 · have hlen:=hn.1
   have HN:=Zab hn;have HX:=Zab hX;have HR0:=Zab hR;have HM:=Zab hm;have HC:=Zab hcap;have HNE:=Zab hne;clear hn hX hR hm hcap hne;go_enter func64,ntmps64;go_wp2
   go_loopw [5,1] (fun i q wr=>∃ j:Nat,i=.int .i64 j∧q=.int .i64 (k+(Zc4 Xl j:Int))∧j≤Xl.length∧Zad lo hi w wr∧ZeK lo hi wr b off Xl.length c (fun i=>if i < j then Zsi (k+(Zc4 Xl i:Int)) (X i) else X i)) (fun i _ _=>Xl.length - (intOf i).toNat)
   case atStart=>exact⟨0,rfl,by simp [Zc4],by omega,Zad.refl _ _ _,HR0.out.to (fun i _=>by simp)⟩
   case round=>
    obtain⟨j,rfl,rfl,hj,ht,hr⟩:=hrel;have HT:=Zab ht;have HR:=Zab hr;clear ht hr HR0
    by_cases hlt:j < Xl.length
    · have hpos:=ZiV HN.out (i:=j) (by omega)
      have HP:=Zab (ZfO hlt)
      have hone:ZfS b (off+j*5) (c j) (c (j+1)) wr (X j):=by
       have:=HR.out.row j hlt;simp only [Nat.lt_irrefl,if_false] at this;exact this
      have hxj:X j=Xl[j]:=HX.out j hlt;obtain⟨x,hx⟩:∃ x,x=X j:=⟨_,rfl⟩
      rw [← hx] at hone;obtain⟨hs,hc⟩:=hone;have HXJ:=Zab hxj;have HXX:=Zab hx;obtain⟨K,hK⟩:∃ K,K=k+(Zc4 Xl j:Int):=⟨_,rfl⟩
      rw [← hK];have hK0:0≤K:=by omega
      have hK1:K≤2500000000000000000:=by omega
      have HK:=Zab hK;have HBC:Hid (b < c j):=Zk_ HR.out.bc (HR.out.le Zz_ (by omega));have HS:Hid (Zhy wr b (off+j*5) (c j) (c (j+1)) wr x):=⟨ZbW.refl _ _ _ _ _ _,HBC.out,hc,HR.out.frz,HR.out.lt⟩;clear hpos hxj hx hs hc hK;obtain⟨d0,d1,d2,d3,d4⟩:=HS.out.cells;have fz:=HS.out.frz;go_wp2_with fail;clear d0 d1 d2 d3 d4 fz;refine (Zah _ _ (by omega)).mono ?_;rintro e v1 ⟨rfl,hb⟩;have HS1:=Zab (HS.out.below hb);clear hb HS;obtain⟨d0,d1,d2,d3,d4⟩:=HS1.out.cells;have fz:=HS1.out.frz;go_wp2_with fail;clear d0 d1 d2 d3 d4 fz;obtain⟨v2,hv2,HS2⟩:∃ v',v'=(v1.setCell ⟨b,off+j*5,none⟩ (.string (mtB (K))))∧Hid (Zhy wr b (off+j*5) (c j) (c (j+1)) v' ⟨mtB (K),x.tm,x.re,x.am,x.un⟩):=⟨_,rfl,(HS1.out.s0 (mtB (K)))⟩
      rw [← hv2];clear hv2 HS1;refine (Zah _ _ (by omega)).mono ?_;rintro e v3 ⟨rfl,hb⟩;have HS3:=Zab (HS2.out.below hb);clear hb HS2;obtain⟨d0,d1,d2,d3,d4⟩:=HS3.out.cells;have fz:=HS3.out.frz;go_wp2_with fail;clear d0 d1 d2 d3 d4 fz;obtain⟨v4,hv4,HS4⟩:∃ v',v'=(v3.setCell ⟨b,off+j*5+1,none⟩ (.string (mtB (K+1))))∧Hid (Zhy wr b (off+j*5) (c j) (c (j+1)) v' ⟨mtB (K),mtB (K+1),x.re,x.am,x.un⟩):=⟨_,rfl,(HS3.out.s1 (mtB (K+1)))⟩
      rw [← hv4];clear hv4 HS3;refine (Zah _ _ (by omega)).mono ?_;rintro e v5 ⟨rfl,hb⟩;have HS5:=Zab (HS4.out.below hb);clear hb HS4;obtain⟨d0,d1,d2,d3,d4⟩:=HS5.out.cells;have fz:=HS5.out.frz;go_wp2;clear d0 d1 d2 d3 d4 fz;obtain⟨v6,hv6,HS6⟩:∃ v',v'=(((v5.setCell ⟨b,off+j*5+2,none⟩ (.string (mtB (K+1+1)))).setCell ⟨b,off+j*5+3,none⟩ (.int .i64 (K+1+1+1))).setCell ⟨b,off+j*5+4,none⟩ (.int .i64 (K+1+1+1+1)))∧Hid (Zhy wr b (off+j*5) (c j) (c (j+1)) v' ⟨mtB (K),mtB (K+1),mtB (K+1+1),K+1+1+1,K+1+1+1+1⟩):=⟨_,rfl,(((HS5.out.s2 (mtB (K+1+1))).s3 (K+1+1+1)).s4 (K+1+1+1+1))⟩
      rw [← hv6];clear hv6 HS5;have HW:Hid (Zsh Xl[j]=5):=by unfold Hid;rw [← HXJ.out,← HXX.out];rfl
      have HQ:Hid ((K+1+1+1+1+1:Int)=k+(Zc4 Xl (j+1):Int)):=by
       have h1:=HP.out;have h2:=HW.out;have h3:=HK.out;unfold Hid
       omega
      have HRN:=Zab (HR.out.near hlt HS6.out.near (show ZfS b (off+j*5) (c j) (c (j+1)) v6 (Zsi K x) from ⟨⟨Zb3 _ (by omega),Zb3 _ (by omega),Zb3 _ (by omega)⟩,HS6.out.cells⟩));have HTN:=Zab (HS6.out.near.wide HR.out.lt (lo':=lo) (hi':=hi) (by have:=HBC.out;have:=HR.out.low;omega) (Nat.le_trans (HR.out.le (by omega) Zl_) HR.out.top) ⟨HR.out.low,HR.out.bh⟩);go_roundw
      case rel=>
       refine⟨j+1,by go_num,congrArg (Value.int .i64) HQ.out,by omega,HT.out.trans HTN.out,HRN.out.to (fun i hi'=>?_)⟩
       by_cases e:i=j
       · subst e
         rw [if_pos rfl,if_pos (by omega),← HK.out,HXX.out]
       · rw [if_neg e]
         by_cases e2:i < j
         · rw [if_pos e2,if_pos (by omega)]
         · rw [if_neg e2,if_neg (by omega)]
      case measure=>simp [intOf];omega
    · have e:j=Xl.length:=by omega
      subst e;go_wp2;go_ret;refine⟨rfl,HT.out,Or.inr ⟨b,off,cap,c,fun i=>Zsi (k+(Zc4 Xl i:Int)) (X i),by rw [ZbP],?_,by rw [ZbP];exact HM.out,by rw [ZbP];exact HC.out,fun i h=>?_,?_⟩⟩
      · intro e
        have:=congrArg List.length e;rw [ZbP] at this;exact HNE.out (List.length_eq_zero_iff.1 (by simpa using this))
      · have h':i < Xl.length:=by rw [ZbP] at h;exact h
        rw [Zkk _ _ _ _ h',← HX.out i h']
      · rw [ZbP]
        exact HR.out.to (fun i hi'=>by rw [if_pos hi'])
theorem ZkP (lo hi:Nat) (v:Value) (Xl:List Gr) (k:Int) (w:World) (hv:Za8 lo hi w v Xl) (hn:Zds Xl) (h0:0≤k) (hk:k≤2000000000000000000) :
 Calls prog 62 #[v,.int .i64 k] w fun e w'=>e=.returned (.int .i64 (k+(Zcm Xl Xl.length:Int)))∧Zad lo hi w w'∧Za8 lo hi w' v (ZjM k Xl):=by
 rcases hv with ⟨a,cap,rfl,rfl⟩ | ⟨b,off,cap,c,X,rfl,hne,hm,hcap,hX,hR⟩
 · go_enter func62,ntmps62
   go_wp2
   go_loop [5,1] (fun i q=>i=.int .i64 0∧q=.int .i64 k) (fun _ _=>0)
   case atStart=>exact⟨rfl,rfl⟩
   case round=>
    obtain⟨rfl,rfl⟩:=hrel;go_wp2;go_ret;exact⟨by simp [Zcm],Zad.refl _ _ _,Or.inl ⟨_,_,rfl,rfl⟩⟩
 · have hlen:=hn.1
   have HN:=Zab hn;have HX:=Zab hX;have HR0:=Zab hR;have HM:=Zab hm;have HC:=Zab hcap;have HNE:=Zab hne;clear hn hX hR hm hcap hne;go_enter func62,ntmps62;go_wp2
   go_loopw [5,1] (fun i q wr=>∃ j:Nat,i=.int .i64 j∧q=.int .i64 (k+(Zcm Xl j:Int))∧j≤Xl.length∧Zad lo hi w wr∧Zff lo hi wr b off Xl.length c (fun i=>if i < j then Zsr (k+(Zcm Xl i:Int)) (X i) else X i)) (fun i _ _=>Xl.length - (intOf i).toNat)
   case atStart=>exact⟨0,rfl,by simp [Zcm],by omega,Zad.refl _ _ _,HR0.out.to (fun i _=>by simp)⟩
   case round=>
    obtain⟨j,rfl,rfl,hj,ht,hr⟩:=hrel;have HT:=Zab ht;have HR:=Zab hr;clear ht hr HR0
    by_cases hlt:j < Xl.length
    · have hpos:=Zi1 HN.out (i:=j) (by omega)
      have HP:=Zab (ZfQ hlt)
      have hone:ZfT b (off+j*7) (c j).1 (c j).2 wr (X j):=by
       have:=HR.out.row j hlt;simp only [Nat.lt_irrefl,if_false] at this;exact this
      have hxj:X j=Xl[j]:=HX.out j hlt;obtain⟨x,hx⟩:∃ x,x=X j:=⟨_,rfl⟩
      rw [← hx] at hone;obtain⟨hs,vv0,q0,hc,l0⟩:=hone;have hs0:x.vb.length≤1048576:=by have:=HN.out.2 j hlt;rw [hx,hxj];unfold ZdC at this;omega
      have HXJ:=Zab hxj;have HXX:=Zab hx;obtain⟨K,hK⟩:∃ K,K=k+(Zcm Xl j:Int):=⟨_,rfl⟩
      rw [← hK];have hK0:0≤K:=by omega
      have hK1:K≤2500000000000000000:=by omega
      have HK:=Zab hK;have HBC:Hid (b < (c j).1∨(c j).2≤b):=(HR.out.seg j hlt).2.2;have HS:Hid (ZeW wr b (off+j*7) (c j).1 (c j).2 vv0 wr x):=⟨ZbW.refl _ _ _ _ _ _,HBC.out,q0,hc,l0,HR.out.frz,HR.out.lt⟩;clear hpos hxj hx hs hc l0 q0 hK;obtain⟨d0,d1,d2,d3,d4,d5,d6⟩:=HS.out.cells;have fz:=HS.out.frz;go_wp2_with fail;clear d0 d1 d2 d3 d4 d5 d6 fz;obtain⟨v1,hv1,HS1⟩:∃ v',v'=(wr.setCell ⟨b,off+j*7,none⟩ (.int .i64 (K)))∧Hid (ZeW wr b (off+j*7) (c j).1 (c j).2 vv0 v' ⟨K,x.tw,x.gb,x.vb,x.kd,x.tm,x.pf⟩):=⟨_,rfl,(HS.out.s0 (K))⟩
      rw [← hv1];clear hv1 HS;refine (Zah _ _ (by omega)).mono ?_;rintro e v2 ⟨rfl,hb⟩;have HS2:=Zab (HS1.out.below hb);clear hb HS1;obtain⟨d0,d1,d2,d3,d4,d5,d6⟩:=HS2.out.cells;have fz:=HS2.out.frz;go_wp2_with fail;clear d0 d1 d2 d3 d4 d5 d6 fz;obtain⟨v3,hv3,HS3⟩:∃ v',v'=(v2.setCell ⟨b,off+j*7+1,none⟩ (.string (mtB (K+1))))∧Hid (ZeW wr b (off+j*7) (c j).1 (c j).2 vv0 v' ⟨K,mtB (K+1),x.gb,x.vb,x.kd,x.tm,x.pf⟩):=⟨_,rfl,(HS2.out.s1 (mtB (K+1)))⟩
      rw [← hv3];clear hv3 HS2;refine (Zah _ _ (by omega)).mono ?_;rintro e v4 ⟨rfl,hb⟩;have HS4:=Zab (HS3.out.below hb);clear hb HS3;obtain⟨d0,d1,d2,d3,d4,d5,d6⟩:=HS4.out.cells;have fz:=HS4.out.frz;go_wp2_with fail;clear d0 d1 d2 d3 d4 d5 d6 fz;obtain⟨v5,hv5,HS5⟩:∃ v',v'=(v4.setCell ⟨b,off+j*7+2,none⟩ (.string (mtB (K+1+1))))∧Hid (ZeW wr b (off+j*7) (c j).1 (c j).2 vv0 v' ⟨K,mtB (K+1),mtB (K+1+1),x.vb,x.kd,x.tm,x.pf⟩):=⟨_,rfl,(HS4.out.s2 (mtB (K+1+1)))⟩
      rw [← hv5];clear hv5 HS4;refine (ZjT _ _ _ x.vb _ _ HS5.out.l0 (by omega) (by omega)).mono ?_;rintro e v6 ⟨rfl,ht,hl⟩;have HS6:Hid (ZeW wr b (off+j*7) (c j).1 (c j).2 vv0 v6 ⟨K,mtB (K+1),mtB (K+1+1),ZdM (K+1+1+1) x.vb.length,x.kd,x.tm,x.pf⟩):=HS5.out.m0' ht hl;clear ht hl HS5;obtain⟨d0,d1,d2,d3,d4,d5,d6⟩:=HS6.out.cells;have fz:=HS6.out.frz;go_wp2_with fail;clear d0 d1 d2 d3 d4 d5 d6 fz;refine (Zah _ _ (by omega)).mono ?_;rintro e v7 ⟨rfl,hb⟩;have HS7:=Zab (HS6.out.below hb);clear hb HS6;obtain⟨d0,d1,d2,d3,d4,d5,d6⟩:=HS7.out.cells;have fz:=HS7.out.frz;go_wp2_with fail;clear d0 d1 d2 d3 d4 d5 d6 fz
      obtain⟨v8,hv8,HS8⟩:∃ v',v'=(v7.setCell ⟨b,off+j*7+4,none⟩ (.string (mtB (K+1+1+1+(x.vb.length:Int)))))∧Hid (ZeW wr b (off+j*7) (c j).1 (c j).2 vv0 v' ⟨K,mtB (K+1),mtB (K+1+1),ZdM (K+1+1+1) x.vb.length,mtB (K+1+1+1+(x.vb.length:Int)),x.tm,x.pf⟩):=⟨_,rfl,(HS7.out.s4 (mtB (K+1+1+1+(x.vb.length:Int))))⟩
      rw [← hv8];clear hv8 HS7;refine (Zah _ _ (by omega)).mono ?_;rintro e v9 ⟨rfl,hb⟩;have HS9:=Zab (HS8.out.below hb);clear hb HS8;obtain⟨d0,d1,d2,d3,d4,d5,d6⟩:=HS9.out.cells;have fz:=HS9.out.frz;go_wp2_with fail;clear d0 d1 d2 d3 d4 d5 d6 fz;obtain⟨v10,hv10,HS10⟩:∃ v',v'=(v9.setCell ⟨b,off+j*7+5,none⟩ (.string (mtB (K+1+1+1+(x.vb.length:Int)+1))))∧Hid (ZeW wr b (off+j*7) (c j).1 (c j).2 vv0 v' ⟨K,mtB (K+1),mtB (K+1+1),ZdM (K+1+1+1) x.vb.length,mtB (K+1+1+1+(x.vb.length:Int)),mtB (K+1+1+1+(x.vb.length:Int)+1),x.pf⟩):=⟨_,rfl,(HS9.out.s5 (mtB (K+1+1+1+(x.vb.length:Int)+1)))⟩
      rw [← hv10];clear hv10 HS9;refine (Zah _ _ (by omega)).mono ?_;rintro e v11 ⟨rfl,hb⟩;have HS11:=Zab (HS10.out.below hb);clear hb HS10;obtain⟨d0,d1,d2,d3,d4,d5,d6⟩:=HS11.out.cells;have fz:=HS11.out.frz;go_wp2;clear d0 d1 d2 d3 d4 d5 d6 fz;obtain⟨v12,hv12,HS12⟩:∃ v',v'=(v11.setCell ⟨b,off+j*7+6,none⟩ (.string (mtB (K+1+1+1+(x.vb.length:Int)+1+1))))∧Hid (ZeW wr b (off+j*7) (c j).1 (c j).2 vv0 v' ⟨K,mtB (K+1),mtB (K+1+1),ZdM (K+1+1+1) x.vb.length,mtB (K+1+1+1+(x.vb.length:Int)),mtB (K+1+1+1+(x.vb.length:Int)+1),mtB (K+1+1+1+(x.vb.length:Int)+1+1)⟩):=⟨_,rfl,(HS11.out.s6 (mtB (K+1+1+1+(x.vb.length:Int)+1+1)))⟩
      rw [← hv12];clear hv12 HS11;have HW:Hid (Zso Xl[j]=6+x.vb.length):=by unfold Hid;rw [← HXJ.out,← HXX.out];rfl
      have HQ:Hid ((K+1+1+1+(x.vb.length:Int)+1+1+1:Int)=k+(Zcm Xl (j+1):Int)):=by
       have h1:=HP.out;have h2:=HW.out;have h3:=HK.out;unfold Hid
       omega
      have HRN:=Zab (HR.out.near hlt HS12.out.near (show ZfT b (off+j*7) (c j).1 (c j).2 v12 (Zsr K x) from ⟨⟨Zb3 _ (by omega),Zb3 _ (by omega),Zb3 _ (by omega),Zb3 _ (by omega),Zb3 _ (by omega)⟩,_,HS12.out.q0,HS12.out.cells,HS12.out.l0⟩));have HTN:=Zab (HS12.out.near.wide HR.out.lt (lo':=lo) (hi':=hi) (HR.out.seg j hlt).1 (HR.out.seg j hlt).2.1 ⟨HR.out.low,HR.out.bh⟩);go_roundw
      case rel=>
       refine⟨j+1,by go_num,congrArg (Value.int .i64) HQ.out,by omega,HT.out.trans HTN.out,HRN.out.to (fun i hi'=>?_)⟩
       by_cases e:i=j
       · subst e
         rw [if_pos rfl,if_pos (by omega),← HK.out,HXX.out]
       · rw [if_neg e]
         by_cases e2:i < j
         · rw [if_pos e2,if_pos (by omega)]
         · rw [if_neg e2,if_neg (by omega)]
      case measure=>simp [intOf];omega
    · have e:j=Xl.length:=by omega
      subst e;go_wp2;go_ret;refine⟨rfl,HT.out,Or.inr ⟨b,off,cap,c,fun i=>Zsr (k+(Zcm Xl i:Int)) (X i),by rw [ZbH],?_,by rw [ZbH];exact HM.out,by rw [ZbH];exact HC.out,fun i h=>?_,?_⟩⟩
      · intro e
        have:=congrArg List.length e;rw [ZbH] at this;exact HNE.out (List.length_eq_zero_iff.1 (by simpa using this))
      · have h':i < Xl.length:=by rw [ZbH] at h;exact h
        rw [Zjw _ _ _ _ h',← HX.out i h']
      · rw [ZbH]
        exact HR.out.to (fun i hi'=>by rw [if_pos hi'])
theorem ZkU (lo hi:Nat) (v:Value) (Xl:List Ob) (k:Int) (w:World) (hv:Za2 lo hi w v Xl) (hn:ZbD Xl) (h0:0≤k) (hk:k≤2000000000000000000) :
 Calls prog 61 #[v,.int .i64 k] w fun e w'=>e=.returned (.int .i64 (k+(Zb6 Xl Xl.length:Int)))∧Zad lo hi w w'∧Za2 lo hi w' v (Zjq k Xl):=by
 rcases hv with ⟨a,cap,rfl,rfl⟩ | ⟨b,off,cap,c,X,rfl,hne,hm,hcap,hX,hR⟩
 · go_enter func61,ntmps61
   go_wp2
   go_loop [5,1] (fun i q=>i=.int .i64 0∧q=.int .i64 k) (fun _ _=>0)
   case atStart=>exact⟨rfl,rfl⟩
   case round=>
    obtain⟨rfl,rfl⟩:=hrel;go_wp2;go_ret;exact⟨by simp [Zb6],Zad.refl _ _ _,Or.inl ⟨_,_,rfl,rfl⟩⟩
 · have hlen:=hn.1
   have HN:=Zab hn;have HX:=Zab hX;have HR0:=Zab hR;have HM:=Zab hm;have HC:=Zab hcap;have HNE:=Zab hne;clear hn hX hR hm hcap hne;go_enter func61,ntmps61;go_wp2
   go_loopw [5,1] (fun i q wr=>∃ j:Nat,i=.int .i64 j∧q=.int .i64 (k+(Zb6 Xl j:Int))∧j≤Xl.length∧Zad lo hi w wr∧Zfs lo hi wr b off Xl.length c (fun i=>if i < j then Zsk (k+(Zb6 Xl i:Int)) (X i) else X i)) (fun i _ _=>Xl.length - (intOf i).toNat)
   case atStart=>exact⟨0,rfl,by simp [Zb6],by omega,Zad.refl _ _ _,HR0.out.to (fun i _=>by simp)⟩
   case round=>
    obtain⟨j,rfl,rfl,hj,ht,hr⟩:=hrel;have HT:=Zab ht;have HR:=Zab hr;clear ht hr HR0
    by_cases hlt:j < Xl.length
    · have hpos:=Zis HN.out (i:=j) (by omega)
      have HP:=Zab (Zf3 hlt)
      have hone:Zf5 b (off+j*7) (c j).1 (c j).2 wr (X j):=by
       have:=HR.out.row j hlt;simp only [Nat.lt_irrefl,if_false] at this;exact this
      have hxj:X j=Xl[j]:=HX.out j hlt;obtain⟨x,hx⟩:∃ x,x=X j:=⟨_,rfl⟩
      rw [← hx] at hone;obtain⟨hs,vv0,vv1,m1,q0,q1,hc,l0,l1⟩:=hone;have hs0:x.vs.length≤1048576:=by have:=HN.out.2 j hlt;rw [hx,hxj];unfold ZdB at this;omega
      have hs1:x.hs.length≤1048576:=by have:=HN.out.2 j hlt;rw [hx,hxj];unfold ZdB at this;omega
      have HXJ:=Zab hxj;have HXX:=Zab hx;obtain⟨K,hK⟩:∃ K,K=k+(Zb6 Xl j:Int):=⟨_,rfl⟩
      rw [← hK];have hK0:0≤K:=by omega
      have hK1:K≤2500000000000000000:=by omega
      have HK:=Zab hK;have HBC:Hid (b < (c j).1∨(c j).2≤b):=(HR.out.seg j hlt).2.2;have HS:Hid (ZeU wr b (off+j*7) (c j).1 (c j).2 m1 vv0 vv1 wr x):=⟨ZbW.refl _ _ _ _ _ _,HBC.out,q0,q1,hc,l0,l1,HR.out.frz,HR.out.lt⟩;clear hpos hxj hx hs hc l0 l1 q0 q1 hK;obtain⟨d0,d1,d2,d3,d4,d5,d6⟩:=HS.out.cells;have fz:=HS.out.frz;go_wp2_with fail;clear d0 d1 d2 d3 d4 d5 d6 fz;refine (Zah _ _ (by omega)).mono ?_;rintro e v1 ⟨rfl,hb⟩;have HS1:=Zab (HS.out.below hb);clear hb HS;obtain⟨d0,d1,d2,d3,d4,d5,d6⟩:=HS1.out.cells;have fz:=HS1.out.frz;go_wp2_with fail;clear d0 d1 d2 d3 d4 d5 d6 fz;obtain⟨v2,hv2,HS2⟩:∃ v',v'=(v1.setCell ⟨b,off+j*7,none⟩ (.string (mtB (K))))∧Hid (ZeU wr b (off+j*7) (c j).1 (c j).2 m1 vv0 vv1 v' ⟨mtB (K),x.nm,x.tm,x.vs,x.en,x.hs,x.ver⟩):=⟨_,rfl,(HS1.out.s0 (mtB (K)))⟩
      rw [← hv2];clear hv2 HS1;refine (Zah _ _ (by omega)).mono ?_;rintro e v3 ⟨rfl,hb⟩;have HS3:=Zab (HS2.out.below hb);clear hb HS2;obtain⟨d0,d1,d2,d3,d4,d5,d6⟩:=HS3.out.cells;have fz:=HS3.out.frz;go_wp2_with fail;clear d0 d1 d2 d3 d4 d5 d6 fz;obtain⟨v4,hv4,HS4⟩:∃ v',v'=(v3.setCell ⟨b,off+j*7+1,none⟩ (.string (mtB (K+1))))∧Hid (ZeU wr b (off+j*7) (c j).1 (c j).2 m1 vv0 vv1 v' ⟨mtB (K),mtB (K+1),x.tm,x.vs,x.en,x.hs,x.ver⟩):=⟨_,rfl,(HS3.out.s1 (mtB (K+1)))⟩
      rw [← hv4];clear hv4 HS3;refine (Zah _ _ (by omega)).mono ?_;rintro e v5 ⟨rfl,hb⟩;have HS5:=Zab (HS4.out.below hb);clear hb HS4;obtain⟨d0,d1,d2,d3,d4,d5,d6⟩:=HS5.out.cells;have fz:=HS5.out.frz;go_wp2_with fail;clear d0 d1 d2 d3 d4 d5 d6 fz;obtain⟨v6,hv6,HS6⟩:∃ v',v'=(v5.setCell ⟨b,off+j*7+2,none⟩ (.string (mtB (K+1+1))))∧Hid (ZeU wr b (off+j*7) (c j).1 (c j).2 m1 vv0 vv1 v' ⟨mtB (K),mtB (K+1),mtB (K+1+1),x.vs,x.en,x.hs,x.ver⟩):=⟨_,rfl,(HS5.out.s2 (mtB (K+1+1)))⟩
      rw [← hv6];clear hv6 HS5;refine (Zgp _ _ _ x.vs _ _ HS6.out.l0 (by omega) (by omega)).mono ?_;rintro e v7 ⟨rfl,ht,hl⟩;have HS7:Hid (ZeU wr b (off+j*7) (c j).1 (c j).2 m1 vv0 vv1 v7 ⟨mtB (K),mtB (K+1),mtB (K+1+1),Zec (K+1+1+1) x.vs.length,x.en,x.hs,x.ver⟩):=HS6.out.m0' ht hl;clear ht hl HS6;obtain⟨d0,d1,d2,d3,d4,d5,d6⟩:=HS7.out.cells;have fz:=HS7.out.frz;go_wp2_with fail;clear d0 d1 d2 d3 d4 d5 d6 fz;obtain⟨v8,hv8,HS8⟩:∃ v',v'=(v7.setCell ⟨b,off+j*7+4,none⟩ (.bool (((K+1+1+1+(x.vs.length:Int)) % 3 == 0))))∧Hid (ZeU wr b (off+j*7) (c j).1 (c j).2 m1 vv0 vv1 v' ⟨mtB (K),mtB (K+1),mtB (K+1+1),Zec (K+1+1+1) x.vs.length,((K+1+1+1+(x.vs.length:Int)) % 3 == 0),x.hs,x.ver⟩):=⟨_,rfl,(HS7.out.s4 (((K+1+1+1+(x.vs.length:Int)) % 3 == 0)))⟩
      rw [← hv8];clear hv8 HS7;refine (Zgp _ _ _ x.hs _ _ HS8.out.l1 (by omega) (by omega)).mono ?_;rintro e v9 ⟨rfl,ht,hl⟩;have HS9:Hid (ZeU wr b (off+j*7) (c j).1 (c j).2 m1 vv0 vv1 v9 ⟨mtB (K),mtB (K+1),mtB (K+1+1),Zec (K+1+1+1) x.vs.length,((K+1+1+1+(x.vs.length:Int)) % 3 == 0),Zec (K+1+1+1+(x.vs.length:Int)+1) x.hs.length,x.ver⟩):=HS8.out.m1' ht hl;clear ht hl HS8;obtain⟨d0,d1,d2,d3,d4,d5,d6⟩:=HS9.out.cells;have fz:=HS9.out.frz;go_wp2;clear d0 d1 d2 d3 d4 d5 d6 fz
      obtain⟨v10,hv10,HS10⟩:∃ v',v'=(v9.setCell ⟨b,off+j*7+6,none⟩ (.int .i64 (K+1+1+1+(x.vs.length:Int)+1+(x.hs.length:Int))))∧Hid (ZeU wr b (off+j*7) (c j).1 (c j).2 m1 vv0 vv1 v' ⟨mtB (K),mtB (K+1),mtB (K+1+1),Zec (K+1+1+1) x.vs.length,((K+1+1+1+(x.vs.length:Int)) % 3 == 0),Zec (K+1+1+1+(x.vs.length:Int)+1) x.hs.length,K+1+1+1+(x.vs.length:Int)+1+(x.hs.length:Int)⟩):=⟨_,rfl,(HS9.out.s6 (K+1+1+1+(x.vs.length:Int)+1+(x.hs.length:Int)))⟩
      rw [← hv10];clear hv10 HS9;have HW:Hid (Zsf Xl[j]=5+x.vs.length+x.hs.length):=by unfold Hid;rw [← HXJ.out,← HXX.out];rfl
      have HQ:Hid ((K+1+1+1+(x.vs.length:Int)+1+(x.hs.length:Int)+1:Int)=k+(Zb6 Xl (j+1):Int)):=by
       have h1:=HP.out;have h2:=HW.out;have h3:=HK.out;unfold Hid
       omega
      have HRN:=Zab (HR.out.near hlt HS10.out.near (show Zf5 b (off+j*7) (c j).1 (c j).2 v10 (Zsk K x) from ⟨⟨Zb3 _ (by omega),Zb3 _ (by omega),Zb3 _ (by omega)⟩,_,_,_,HS10.out.q0,HS10.out.q1,HS10.out.cells,HS10.out.l0,HS10.out.l1⟩));have HTN:=Zab (HS10.out.near.wide HR.out.lt (lo':=lo) (hi':=hi) (HR.out.seg j hlt).1 (HR.out.seg j hlt).2.1 ⟨HR.out.low,HR.out.bh⟩);go_roundw
      case rel=>
       refine⟨j+1,by go_num,congrArg (Value.int .i64) HQ.out,by omega,HT.out.trans HTN.out,HRN.out.to (fun i hi'=>?_)⟩
       by_cases e:i=j
       · subst e
         rw [if_pos rfl,if_pos (by omega),← HK.out,HXX.out]
       · rw [if_neg e]
         by_cases e2:i < j
         · rw [if_pos e2,if_pos (by omega)]
         · rw [if_neg e2,if_neg (by omega)]
      case measure=>simp [intOf];omega
    · have e:j=Xl.length:=by omega
      subst e;go_wp2;go_ret;refine⟨rfl,HT.out,Or.inr ⟨b,off,cap,c,fun i=>Zsk (k+(Zb6 Xl i:Int)) (X i),by rw [ZbJ],?_,by rw [ZbJ];exact HM.out,by rw [ZbJ];exact HC.out,fun i h=>?_,?_⟩⟩
      · intro e
        have:=congrArg List.length e;rw [ZbJ] at this;exact HNE.out (List.length_eq_zero_iff.1 (by simpa using this))
      · have h':i < Xl.length:=by rw [ZbJ] at h;exact h
        rw [Zj6 _ _ _ _ h',← HX.out i h']
      · rw [ZbJ]
        exact HR.out.to (fun i hi'=>by rw [if_pos hi'])
theorem Zlw (lo hi:Nat) (v:Value) (Xl:List Tm) (k:Int) (w:World) (hv:Zck lo hi w v Xl) (hn:Zdo Xl) (h0:0≤k) (hk:k≤2000000000000000000) :
 Calls prog 60 #[v,.int .i64 k] w fun e w'=>e=.returned (.int .i64 (k+(ZeM Xl Xl.length:Int)))∧Zad lo hi w w'∧Zck lo hi w' v (Zo8 k Xl):=by
 rcases hv with ⟨a,cap,rfl,rfl⟩ | ⟨b,off,cap,c,X,rfl,hne,hm,hcap,hX,hR⟩
 · go_enter func60,ntmps60
   go_wp2
   go_loop [5,1] (fun i q=>i=.int .i64 0∧q=.int .i64 k) (fun _ _=>0)
   case atStart=>exact⟨rfl,rfl⟩
   case round=>
    obtain⟨rfl,rfl⟩:=hrel;go_wp2;go_ret;exact⟨by simp [ZeM],Zad.refl _ _ _,Or.inl ⟨_,_,rfl,rfl⟩⟩
 · have hlen:=hn.1
   have HN:=Zab hn;have HX:=Zab hX;have HR0:=Zab hR;have HM:=Zab hm;have HC:=Zab hcap;have HNE:=Zab hne;clear hn hX hR hm hcap hne;go_enter func60,ntmps60;go_wp2
   go_loopw [5,1] (fun i q wr=>∃ j:Nat,i=.int .i64 j∧q=.int .i64 (k+(ZeM Xl j:Int))∧j≤Xl.length∧Zad lo hi w wr∧ZeO lo hi wr b off Xl.length c (fun i=>if i < j then Zsg (k+(ZeM Xl i:Int)) (X i) else X i)) (fun i _ _=>Xl.length - (intOf i).toNat)
   case atStart=>exact⟨0,rfl,by simp [ZeM],by omega,Zad.refl _ _ _,HR0.out.to (fun i _=>by simp)⟩
   case round=>
    obtain⟨j,rfl,rfl,hj,ht,hr⟩:=hrel;have HT:=Zab ht;have HR:=Zab hr;clear ht hr HR0
    by_cases hlt:j < Xl.length
    · have hpos:=Zmj HN.out (i:=j) (by omega)
      have HP:=Zab (ZhZ hlt)
      have hone:Zf1 b (off+j*2) (c j) (c (j+1)) wr (X j):=by
       have:=HR.out.row j hlt;simp only [Nat.lt_irrefl,if_false] at this;exact this
      have hxj:X j=Xl[j]:=HX.out j hlt;obtain⟨x,hx⟩:∃ x,x=X j:=⟨_,rfl⟩
      rw [← hx] at hone;obtain⟨hs,hc⟩:=hone;have HXJ:=Zab hxj;have HXX:=Zab hx;obtain⟨K,hK⟩:∃ K,K=k+(ZeM Xl j:Int):=⟨_,rfl⟩
      rw [← hK];have hK0:0≤K:=by omega
      have hK1:K≤2500000000000000000:=by omega
      have HK:=Zab hK;have HBC:Hid (b < c j):=Zk_ HR.out.bc (HR.out.le Zz_ (by omega));have HS:Hid (ZnV wr b (off+j*2) (c j) (c (j+1)) wr x):=⟨ZbW.refl _ _ _ _ _ _,HBC.out,hc,HR.out.frz,HR.out.lt⟩;clear hpos hxj hx hs hc hK;obtain⟨d0,d1⟩:=HS.out.cells;have fz:=HS.out.frz;go_wp2_with fail;clear d0 d1 fz;refine (Zah _ _ (by omega)).mono ?_;rintro e v1 ⟨rfl,hb⟩;have HS1:=Zab (HS.out.below hb);clear hb HS;obtain⟨d0,d1⟩:=HS1.out.cells;have fz:=HS1.out.frz;go_wp2_with fail;clear d0 d1 fz;obtain⟨v2,hv2,HS2⟩:∃ v',v'=(v1.setCell ⟨b,off+j*2,none⟩ (.string (mtB (K))))∧Hid (ZnV wr b (off+j*2) (c j) (c (j+1)) v' ⟨mtB (K),x.ov⟩):=⟨_,rfl,(HS1.out.s0 (mtB (K)))⟩
      rw [← hv2];clear hv2 HS1;refine (Zah _ _ (by omega)).mono ?_;rintro e v3 ⟨rfl,hb⟩;have HS3:=Zab (HS2.out.below hb);clear hb HS2;obtain⟨d0,d1⟩:=HS3.out.cells;have fz:=HS3.out.frz;go_wp2;clear d0 d1 fz;obtain⟨v4,hv4,HS4⟩:∃ v',v'=(v3.setCell ⟨b,off+j*2+1,none⟩ (.string (mtB (K+1))))∧Hid (ZnV wr b (off+j*2) (c j) (c (j+1)) v' ⟨mtB (K),mtB (K+1)⟩):=⟨_,rfl,(HS3.out.s1 (mtB (K+1)))⟩
      rw [← hv4];clear hv4 HS3;have HW:Hid (ZsI Xl[j]=2):=by unfold Hid;rw [← HXJ.out,← HXX.out];rfl
      have HQ:Hid ((K+1+1:Int)=k+(ZeM Xl (j+1):Int)):=by
       have h1:=HP.out;have h2:=HW.out;have h3:=HK.out;unfold Hid
       omega
      have HRN:=Zab (HR.out.near hlt HS4.out.near (show Zf1 b (off+j*2) (c j) (c (j+1)) v4 (Zsg K x) from ⟨⟨Zb3 _ (by omega),Zb3 _ (by omega)⟩,HS4.out.cells⟩));have HTN:=Zab (HS4.out.near.wide HR.out.lt (lo':=lo) (hi':=hi) (by have:=HBC.out;have:=HR.out.low;omega) (Nat.le_trans (HR.out.le (by omega) Zl_) HR.out.top) ⟨HR.out.low,HR.out.bh⟩);go_roundw
      case rel=>
       refine⟨j+1,by go_num,congrArg (Value.int .i64) HQ.out,by omega,HT.out.trans HTN.out,HRN.out.to (fun i hi'=>?_)⟩
       by_cases e:i=j
       · subst e
         rw [if_pos rfl,if_pos (by omega),← HK.out,HXX.out]
       · rw [if_neg e]
         by_cases e2:i < j
         · rw [if_pos e2,if_pos (by omega)]
         · rw [if_neg e2,if_neg (by omega)]
      case measure=>simp [intOf];omega
    · have e:j=Xl.length:=by omega
      subst e;go_wp2;go_ret;refine⟨rfl,HT.out,Or.inr ⟨b,off,cap,c,fun i=>Zsg (k+(ZeM Xl i:Int)) (X i),by rw [ZdI],?_,by rw [ZdI];exact HM.out,by rw [ZdI];exact HC.out,fun i h=>?_,?_⟩⟩
      · intro e
        have:=congrArg List.length e;rw [ZdI] at this;exact HNE.out (List.length_eq_zero_iff.1 (by simpa using this))
      · have h':i < Xl.length:=by rw [ZdI] at h;exact h
        rw [Zps _ _ _ _ h',← HX.out i h']
      · rw [ZdI]
        exact HR.out.to (fun i hi'=>by rw [if_pos hi'])
end Go.Proofs.YtfohnageehneoaaGreat
