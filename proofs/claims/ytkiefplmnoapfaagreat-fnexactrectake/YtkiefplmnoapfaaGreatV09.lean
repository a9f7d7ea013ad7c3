import Derived.Test.YtkiefplmnoapfaaGreatV08
import Derived.Sort.Walk0
set_option maxHeartbeats 16000000
set_option maxRecDepth 100000
open Go.Proofs.Tryz
namespace Go.Proofs.YtkiefplmnoapfaaGreat
open Go.RowKit Go.Deep
theorem ZbW.own {wr:World}{B:Nat}{Xl:List Int}{k:Nat} (h:ZbW wr B Xl k) (hk:Xl.length<=k) (hne:Xl≠[]) (hm:Xl.length<=maxLen):ZaF B wr.heap.size wr (.slice (some ⟨B,0,none⟩) Xl.length Xl.length) Xl:=by
 obtain⟨f,hr,hall⟩:=h
 refine Or.inr ⟨B,0,Xl.length,rfl,hne,hm,Nat.le_refl _,hr.lt,fun i hi=>by
  obtain⟨hz,h0⟩:=hall i hi (by omega);rw [Nat.zero_add,hr.cell hi,h0],Nat.le_refl _,hr.lt,fun i=>hr.frozen _⟩
theorem ZeO (lo:Nat) (v:Value) (Xl:List Int) (w:World) (hv:ZaJ lo w v Xl) (hn:ZaN Xl) :
 Calls prog 35 #[v] w fun e w'=>∃ v',e=.returned v'/\Zw_ w w'/\ZaF w.heap.size w'.heap.size w' v' Xl:=by
 unfold ZaN at hn
 by_cases hL:Xl=[]
 . subst hL
   obtain⟨a,cap,rfl⟩:=hv.form;clear hv
   have hmk:∀ u:World,(Instr.makeSlice 27 (.int .i64 0) (.int .i64 0)).run prog u=.ok (.slice (some ⟨u.heap.size,0,none⟩) 0 0) (u.alloc (.cells (madeCells #[.int .i64 0] 0) 3)):=
    fun u=>run_make_row' 27 3 (.int .i64 0) 8 underlying27 Tryz.infoRis rfl .i64 .i64 0 (by omega) (by omega) u
   go_enter func35,ntmps35;go_wp2
   go_loop [4] (fun i=>i=.int .i64 0) (fun _=>0)
   case atStart=>rfl
   case round=>
    subst hrel;go_wp2;go_ret;exact⟨_,rfl,Zb_.alloc Zl_ _,Or.inl ⟨_,_,rfl,rfl⟩⟩
 . obtain⟨b,off,cap,rfl,hm,hbw,_,hc⟩:=hv.full hL
   clear hv;have HM:Hd (Xl.length<=maxLen):=hm;unfold maxLen at hm
   have hmk:∀ u:World,(Instr.makeSlice 27 (.int .i64 (Xl.length:Int)) (.int .i64 (Xl.length:Int))).run prog u=.ok (.slice (some ⟨u.heap.size,0,none⟩) Xl.length Xl.length) (u.alloc (.cells (madeCells #[.int .i64 0] Xl.length) 3)):=
    fun u=>run_make_row' 27 3 (.int .i64 0) 8 underlying27 Tryz.infoRis rfl .i64 .i64 Xl.length (by omega) (by omega) u
   go_enter func35,ntmps35;go_wp2;clear hmk
   go_loopw [4] (fun i wr=>∃ k:Nat,i=.int .i64 k/\k<=Xl.length/\Zw_ w wr/\ZbW wr w.heap.size Xl k) (fun i _=>Xl.length - (intOf i).toNat)
   case atStart=>exact⟨0,rfl,by omega,Zb_.alloc Zl_ _,⟨_,World.rowIs_made w (.int .i64 0) Xl.length 3,fun i _ h=>by omega⟩⟩
   case round=>
    obtain⟨k,rfl,hk,hb,hf⟩:=hrel
    by_cases hlt:k < Xl.length
    . obtain⟨hz,hck⟩:=hc k hlt
      rw [<- hb.cell (p:=⟨b,off+k,none⟩) hbw] at hck;obtain⟨v0,hold⟩:=hf.there k hlt;have hfz:=hf.free k;have HZ:=Zaa hz;have HF:=Zaa hf;have HB:=Zaa hb;clear hz hf hb;go_wp2;go_roundw
      . exact⟨k+1,by go_num,by omega,HB.o.setCell Zl_ _,HF.o.step hlt HZ.o⟩
      . simp [intOf];omega
    . go_wp2
      go_ret;exact⟨_,rfl,hb,hf.own (by omega) hL HM.o⟩
theorem ZbY.own {wr:World}{B:Nat}{Xl:List Zy_}{k:Nat} (h:ZbY wr B Xl k) (hk:Xl.length<=k) (hne:Xl≠[]) (hm:Xl.length<=maxLen):Za5 B wr.heap.size wr (.slice (some ⟨B,0,none⟩) Xl.length Xl.length) Xl:=by
 obtain⟨f,hr,hall⟩:=h
 refine Or.inr ⟨B,0,Xl.length,rfl,hne,hm,Nat.le_refl _,hr.lt,fun i hi=>by
  obtain⟨hz,h0⟩:=hall i hi (by omega);exact⟨hz,by rw [Nat.zero_add,hr.cell hi,h0]⟩,Nat.le_refl _,hr.lt,fun i=>hr.frozen _⟩
theorem Zhw (lo:Nat) (v:Value) (Xl:List Zy_) (w:World) (hv:Za2 lo w v Xl) (hn:Zbf Xl) :
 Calls prog 34 #[v] w fun e w'=>∃ v',e=.returned v'/\Zw_ w w'/\Za5 w.heap.size w'.heap.size w' v' Xl:=by
 unfold Zbf at hn
 by_cases hL:Xl=[]
 . subst hL
   obtain⟨a,cap,rfl⟩:=hv.form;clear hv
   have hmk:∀ u:World,(Instr.makeSlice 26 (.int .i64 0) (.int .i64 0)).run prog u=.ok (.slice (some ⟨u.heap.size,0,none⟩) 0 0) (u.alloc (.cells (madeCells #[.string ⟨#[]⟩] 0) 9)):=
    fun u=>run_make_row' 26 9 (.string ⟨#[]⟩) 16 underlying26 Tryz.infoRts rfl .i64 .i64 0 (by omega) (by omega) u
   go_enter func34,ntmps34;go_wp2
   go_loop [4] (fun i=>i=.int .i64 0) (fun _=>0)
   case atStart=>rfl
   case round=>
    subst hrel;go_wp2;go_ret;exact⟨_,rfl,Zb_.alloc Zl_ _,Or.inl ⟨_,_,rfl,rfl⟩⟩
 . obtain⟨b,off,cap,rfl,hm,hbw,_,hc⟩:=hv.full hL
   clear hv;have HM:Hd (Xl.length<=maxLen):=hm;unfold maxLen at hm
   have hmk:∀ u:World,(Instr.makeSlice 26 (.int .i64 (Xl.length:Int)) (.int .i64 (Xl.length:Int))).run prog u=.ok (.slice (some ⟨u.heap.size,0,none⟩) Xl.length Xl.length) (u.alloc (.cells (madeCells #[.string ⟨#[]⟩] Xl.length) 9)):=
    fun u=>run_make_row' 26 9 (.string ⟨#[]⟩) 16 underlying26 Tryz.infoRts rfl .i64 .i64 Xl.length (by omega) (by omega) u
   go_enter func34,ntmps34;go_wp2;clear hmk
   go_loopw [4] (fun i wr=>∃ k:Nat,i=.int .i64 k/\k<=Xl.length/\Zw_ w wr/\ZbY wr w.heap.size Xl k) (fun i _=>Xl.length - (intOf i).toNat)
   case atStart=>exact⟨0,rfl,by omega,Zb_.alloc Zl_ _,⟨_,World.rowIs_made w (.string ⟨#[]⟩) Xl.length 9,fun i _ h=>by omega⟩⟩
   case round=>
    obtain⟨k,rfl,hk,hb,hf⟩:=hrel
    by_cases hlt:k < Xl.length
    . obtain⟨hz,hck⟩:=hc k hlt
      rw [<- hb.cell (p:=⟨b,off+k,none⟩) hbw] at hck;obtain⟨v0,hold⟩:=hf.there k hlt;have hfz:=hf.free k;have HZ:=Zaa hz;have HF:=Zaa hf;have HB:=Zaa hb;clear hz hf hb;go_wp2;go_roundw
      . exact⟨k+1,by go_num,by omega,HB.o.setCell Zl_ _,HF.o.step hlt HZ.o⟩
      . simp [intOf];omega
    . go_wp2
      go_ret;exact⟨_,rfl,hb,hf.own (by omega) hL HM.o⟩
section
variable {w w':World} {b off n:Nat} {v:Value} {Xl:List Ra}
structure ZcM (S:Nat->Prop) (w:World) (b off n:Nat) (c:Nat->Nat×Nat) (X:Nat->Ra):Prop where
 lt:b < w.heap.size
 sb:S b
 seg:∀ i,i < n->(∀ k,(c i).1<=k->k < (c i).2->S k)/\(b < (c i).1\/(c i).2<=b)
 ap:∀ i j,i < n->j < n->i≠j->(c i).2<=(c j).1\/(c j).2<=(c i).1
 frz:∀ i,w.frozen? ⟨b,i,none⟩=false
 row:∀ i,i < n->ZcL b (off+i*2) (c i).1 (c i).2 w (X i)
theorem ZcM.near {S:Nat->Prop}{c:Nat->Nat×Nat}{X:Nat->Ra} (h:ZcM S w b off n c X) {j:Nat} (hj:j < n) (hn:Zcc b (off+j*2) 2 (c j).1 (c j).2 w w') {x:Ra} (hx:ZcL b (off+j*2) (c j).1 (c j).2 w' x):ZcM S w' b off n c (fun i=>if i=j then x else X i):=by
 refine⟨Zk_ h.lt hn.size,h.sb,h.seg,h.ap,fun i=>(hn.frz i).trans (h.frz i),fun i hi'=>?_⟩
 by_cases e:i=j
 . subst e;rw [if_pos rfl];exact hx
 . rw [if_neg e]
   refine (h.row i hi').near hn (by omega) ?_ (h.seg i hi').2;exact h.ap i j hi' hj e
theorem ZcM.to {S:Nat->Prop}{c:Nat->Nat×Nat}{X Y:Nat->Ra} (h:ZcM S w b off n c X) (e:∀ i,i < n->X i=Y i):ZcM S w b off n c Y:=
 ⟨h.lt,h.sb,h.seg,h.ap,h.frz,fun i hi'=>e i hi' ▸ h.row i hi'⟩
theorem ZcM.kept {K S:Nat->Prop}{c:Nat->Nat×Nat}{X:Nat->Ra} (h:ZcM S w b off n c X) (hk:Zag K w w') (ho:∀ k,S k->K k):ZcM S w' b off n c X:=by
 have hb:K b:=ho b h.sb;refine⟨Zk_ h.lt hk.size,h.sb,h.seg,h.ap,fun i=>(hk.frozen (p:=⟨b,i,none⟩) hb).trans (h.frz i),fun i hi'=>?_⟩;obtain⟨hs,vv0,q0,hc,l0⟩:=h.row i hi';refine⟨hs,vv0,q0,?_,l0.kept hk (fun k h1 h2=>ho k ((h.seg i hi').1 k h1 h2))⟩;obtain⟨h0,h1⟩:=hc;exact⟨(hk.cell (p:=⟨b,_,none⟩) hb).trans h0,(hk.cell (p:=⟨b,_,none⟩) hb).trans h1⟩
def ZbG (S:Nat->Prop) (w:World) (v:Value) (Xl:List Ra):Prop:=
 (∃ (a:Option Addr) (cap:Nat),v=.slice a 0 cap/\Xl=[])\/
 ∃ (b off cap:Nat) (c:Nat->Nat×Nat) (X:Nat->Ra),v=.slice (some ⟨b,off,none⟩) Xl.length cap/\Xl≠[]/\Xl.length<=maxLen/\Xl.length<=cap/\(∀ i (h:i < Xl.length),X i=Xl[i])/\ZcM S w b off Xl.length c X
theorem ZbG.kept {K S:Nat->Prop} (h:ZbG S w v Xl) (hk:Zag K w w') (ho:∀ k,S k->K k):ZbG S w' v Xl:=by
 rcases h with h | ⟨b,off,cap,c,X,h1,h2,h3,h4,h5,h6⟩
 . exact Or.inl h
 . exact Or.inr ⟨b,off,cap,c,X,h1,h2,h3,h4,h5,h6.kept hk ho⟩
theorem ZbG.form {S:Nat->Prop} (h:ZbG S w v Xl):∃ a cap,v=.slice a Xl.length cap:=by
 rcases h with ⟨a,cap,h,rfl⟩ | ⟨b,off,cap,c,X,h1,_⟩
 . exact⟨a,cap,h⟩
 . exact⟨_,cap,h1⟩
theorem ZbG.at {S:Nat->Prop}{lo:Nat} (h:ZbG S w v Xl) (hS:∀ k,S k->lo<=k):Zbm lo w v Xl:=by
 rcases h with h | ⟨b,off,cap,c,X,h1,h2,h3,h4,h5,h6⟩
 . exact Or.inl h
 . refine Or.inr ⟨b,off,cap,h1,h2,h3,h6.lt,hS b h6.sb,h4,fun i hi'=>?_⟩
   have hr:=h6.row i hi';rw [h5 i hi'] at hr;obtain⟨hs,vv0,q0,hc,l0⟩:=hr;obtain⟨a0,k0,rfl⟩:=l0.form;exact⟨_,hc.rng,a0,k0,rfl,⟨l0.at_ge (fun k h1 h2=>hS k ((h6.seg i hi').1 k h1 h2))⟩⟩
theorem ZfE (S:Nat->Prop) (v:Value) (Xl:List Ra) (k:Int) (w:World) (hv:ZbG S w v Xl) (hn:Zb3 Xl) (h0:0<=k) (hk:k<=2000000000000000000) :
 Calls prog 51 #[v,.int .i64 k] w fun e w'=>e=.returned (.int .i64 (k+(ZbB Xl Xl.length:Int)))/\Zal S w w'/\ZbG S w' v (Ze4 k Xl):=by
 rcases hv with ⟨a,cap,rfl,rfl⟩ | ⟨b,off,cap,c,X,rfl,hne,hm,hcap,hX,hR⟩
 . go_enter func51,ntmps51
   go_wp2
   go_loop [5,1] (fun i q=>i=.int .i64 0/\q=.int .i64 k) (fun _ _=>0)
   case atStart=>exact⟨rfl,rfl⟩
   case round=>
    obtain⟨rfl,rfl⟩:=hrel;go_wp2;go_ret;exact⟨by simp [ZbB],Zal.refl _ _,Or.inl ⟨_,_,rfl,rfl⟩⟩
 . have hlen:=hn.1
   have HN:=Zaa hn;have HX:=Zaa hX;have HR0:=Zaa hR;have HM:=Zaa hm;have HC:=Zaa hcap;have HNE:=Zaa hne;clear hn hX hR hm hcap hne;go_enter func51,ntmps51;go_wp2
   go_loopw [5,1] (fun i q wr=>∃ j:Nat,i=.int .i64 j/\q=.int .i64 (k+(ZbB Xl j:Int))/\j<=Xl.length/\Zal S w wr/\ZcM S wr b off Xl.length c (fun i=>if i < j then Zjs (k+(ZbB Xl i:Int)) (X i) else X i)) (fun i _ _=>Xl.length - (intOf i).toNat)
   case atStart=>exact⟨0,rfl,by simp [ZbB],by omega,Zal.refl _ _,HR0.o.to (fun i _=>by simp)⟩
   case round=>
    obtain⟨j,rfl,rfl,hj,ht,hr⟩:=hrel;have HT:=Zaa ht;have HR:=Zaa hr;clear ht hr HR0
    by_cases hlt:j < Xl.length
    . have hpos:=ZdY HN.o (i:=j) (by omega)
      have HP:=Zaa (ZcZ hlt)
      have hone:ZcL b (off+j*2) (c j).1 (c j).2 wr (X j):=by
       have:=HR.o.row j hlt;simp only [Nat.lt_irrefl,if_false] at this;exact this
      have hxj:X j=Xl[j]:=HX.o j hlt;obtain⟨x,hx⟩:∃ x,x=X j:=⟨_,rfl⟩
      rw [<- hx] at hone;obtain⟨hs,vv0,q0,hc,l0⟩:=hone;have hs0:x.fr.length<=1048576:=by have:=HN.o.2 j hlt;rw [hx,hxj];unfold Zci ZaN at this;omega
      have HXJ:=Zaa hxj;have HXX:=Zaa hx;obtain⟨K,hK⟩:∃ K,K=k+(ZbB Xl j:Int):=⟨_,rfl⟩
      rw [<- hK];have hK0:0<=K:=by omega
      have hK1:K<=2500000000000000000:=by omega
      have HK:=Zaa hK;have HBC:Hd (b < (c j).1\/(c j).2<=b):=(HR.o.seg j hlt).2;have HS:Hd (ZhB wr b (off+j*2) (c j).1 (c j).2 vv0 wr x):=⟨Zcc.refl _ _ _ _ _ _,HBC.o,q0,hc,l0,HR.o.frz,HR.o.lt⟩;clear hpos hxj hx hs hc l0 q0 hK;obtain⟨d0,d1⟩:=HS.o.cells;have fz:=HS.o.frz;go_wp2_with fail;clear d0 d1 fz;obtain⟨v1,hv1,HS1⟩:∃ v',v'=(wr.setCell ⟨b,off+j*2,none⟩ (.int .i64 (K)))/\Hd (ZhB wr b (off+j*2) (c j).1 (c j).2 vv0 v' ⟨K,x.fr⟩):=⟨_,rfl,(HS.o.s0 (K))⟩
      rw [<- hv1];clear hv1 HS;refine (ZcC _ _ _ x.fr _ _ HS1.o.l0 (by omega) (by omega)).mono ?_;rintro e v2 ⟨rfl,ht,hl⟩;have HS2:Hd (ZhB wr b (off+j*2) (c j).1 (c j).2 vv0 v2 ⟨K,Zcs (K+1) x.fr.length⟩):=HS1.o.m0' ht hl;clear ht hl HS1;obtain⟨d0,d1⟩:=HS2.o.cells;have fz:=HS2.o.frz;go_wp2;clear d0 d1 fz;have HW:Hd (Zks Xl[j]=1+x.fr.length):=by unfold Hd;rw [<- HXJ.o,<- HXX.o];rfl
      have HQ:Hd ((K+1+(x.fr.length:Int):Int)=k+(ZbB Xl (j+1):Int)):=by
       have h1:=HP.o;have h2:=HW.o;have h3:=HK.o;unfold Hd
       omega
      have HRN:=Zaa (HR.o.near hlt HS2.o.near (show ZcL b (off+j*2) (c j).1 (c j).2 v2 (Zjs K x) from ⟨rfl,_,HS2.o.q0,HS2.o.cells,HS2.o.l0⟩));have HTN:=Zaa (HS2.o.near.toS HR.o.lt HR.o.sb (HR.o.seg j hlt).1);go_roundw
      . 
       refine⟨j+1,by go_num,congrArg (Value.int .i64) HQ.o,by omega,HT.o.trans HTN.o,HRN.o.to (fun i hi'=>?_)⟩
       by_cases e:i=j
       . subst e
         rw [if_pos rfl,if_pos (by omega),<- HK.o,HXX.o]
       . rw [if_neg e]
         by_cases e2:i < j
         . rw [if_pos e2,if_pos (by omega)]
         . rw [if_neg e2,if_neg (by omega)]
      . simp [intOf];omega
    . have e:j=Xl.length:=by omega
      subst e;go_wp2;go_ret;refine⟨rfl,HT.o,Or.inr ⟨b,off,cap,c,fun i=>Zjs (k+(ZbB Xl i:Int)) (X i),by rw [ZaP],?_,by rw [ZaP];exact HM.o,by rw [ZaP];exact HC.o,fun i h=>?_,?_⟩⟩
      . intro e
        have:=congrArg List.length e;rw [ZaP] at this;exact HNE.o (List.length_eq_zero_iff.1 (by simpa using this))
      . have h':i < Xl.length:=by rw [ZaP] at h;exact h
        rw [Zej _ _ _ _ h',<- HX.o i h']
      . rw [ZaP]
        exact HR.o.to (fun i hi'=>by rw [if_pos hi'])
theorem ZbG.fullO {S:Nat->Prop}{a:Option Addr}{cap:Nat} (h:ZbG S w (.slice a n cap) Xl) (hL:0 < Xl.length) :
 ∃ b off,a=some ⟨b,off,none⟩/\b < w.heap.size/\∀ i (h:i < Xl.length),∃ vv0,Zcw w b (off+i*2) Xl[i] vv0/\ZaJ 0 w vv0 Xl[i].fr:=by
 rcases h with ⟨a',cap',h,rfl⟩ | ⟨b,off,cap',c,X,h1,h2,h3,h4,h5,h6⟩
 . simp at hL
 . injection h1 with e1 e2 e3
   refine⟨b,off,e1,h6.lt,fun i hi'=>?_⟩;have hr:=h6.row i hi';rw [h5 i hi'] at hr;obtain⟨hs,vv0,q0,hc,l0⟩:=hr;exact⟨vv0,hc,l0.at_ge (fun k _ _=>Nat.zero_le k)⟩
theorem Zfy (S:Nat->Prop) (v:Value) (Xl:List Ra) (k:Int) (w:World) (hv:ZbG S w v (Ze4 k Xl)) (hn:Zb3 Xl) (h0:0<=k) (hk:k<=2000000000000000000) :
 Calls prog 56 #[v,.int .i64 k] w fun e w'=>e=.returned (.int .i64 (k+(ZbB Xl Xl.length:Int)))/\Zw_ w w':=by
 have HA:=Zaa hv;have HN:=Zaa hn;have hlen:=hn.1;obtain⟨a,cap,hv'⟩:=hv.form;rw [ZaP] at hv';subst hv';clear hv hn;go_enter func56,ntmps56;go_wp2
 go_loopw [5,1] (fun i q wr=>∃ j:Nat,i=.int .i64 j/\q=.int .i64 (k+(ZbB Xl j:Int))/\j<=Xl.length/\Zw_ w wr) (fun i _ _=>Xl.length - (intOf i).toNat)
 case atStart=>exact⟨0,rfl,by simp [ZbB],by omega,Below.refl _ _⟩
 case round=>
  obtain⟨j,rfl,rfl,hj,hb⟩:=hrel;have HB0:=Zaa hb;clear hb
  by_cases hlt:j < Xl.length
  . obtain⟨b,off,rfl,hbw,hc⟩:=HA.o.fullO (by rw [ZaP];omega)
    have hcj:=hc j (by rw [ZaP];omega);rw [Zej _ _ _ _ hlt] at hcj;have hpos:=ZdY HN.o (i:=j) (by omega);have HP:=Zaa (ZcZ hlt);obtain⟨x,hx⟩:∃ x,x=Xl[j]:=⟨_,rfl⟩
    rw [<- hx] at hcj;have hs0:x.fr.length<=1048576:=by have:=HN.o.2 j hlt;rw [hx];unfold Zci ZaN at this;omega
    have HXX:=Zaa hx;obtain⟨K,hK⟩:∃ K,K=k+(ZbB Xl j:Int):=⟨_,rfl⟩
    rw [<- hK] at hcj;rw [<- hK];have hK0:0<=K:=by omega
    have hK1:K<=2500000000000000000:=by omega
    have HK:=Zaa hK;obtain⟨vv0,hcl,g0⟩:=hcj;have HC:=Zaa hcl;have HL0:Hd (ZaJ 0 w vv0 (Zcs (K+1) x.fr.length)):=g0;obtain⟨va0,vc0,rfl⟩:=HL0.o.form;rw [Za0] at HC HL0;clear hc hcl hx hK hpos;have d0:wr.cell? ⟨b,off+j*2,none⟩=some (.int .i64 (K)):=(HC.o.below HB0.o hbw).c0;have d1:wr.cell? ⟨b,off+j*2+1,none⟩=some (.slice va0 x.fr.length vc0):=(HC.o.below HB0.o hbw).c1;go_wp2_with fail;clear d0 d1;refine (Zeb 0 _ x.fr.length _ _ (HL0.o.below HB0.o) (by omega) (by omega)).mono ?_;rintro e w1 ⟨rfl,hb⟩;have HB1:Hd (Zw_ w w1):=HB0.o.trans (hb.mono HB0.o.size);clear hb HB0;have hg1:decide (K+1+(x.fr.length:Int) < 0)=false:=by simp;omega
    have d0:w1.cell? ⟨b,off+j*2,none⟩=some (.int .i64 (K)):=(HC.o.below HB1.o hbw).c0;have d1:w1.cell? ⟨b,off+j*2+1,none⟩=some (.slice va0 x.fr.length vc0):=(HC.o.below HB1.o hbw).c1;go_wp2;clear d0 d1;have HW:Hd (Zks Xl[j]=1+x.fr.length):=by unfold Hd;rw [<- HXX.o];rfl
    have HQ:Hd ((K+1+(x.fr.length:Int):Int)=k+(ZbB Xl (j+1):Int)):=by
     have h1:=HP.o;have h2:=HW.o;have h3:=HK.o;unfold Hd
     omega
    go_roundw
    . exact⟨j+1,by go_num,congrArg (Value.int .i64) HQ.o,by omega,HB1.o⟩
    . simp [intOf];omega
  . have e:j=Xl.length:=by omega
    subst e;go_wp2;go_ret;exact⟨rfl,HB0.o⟩
end
section
variable {n lo hi g cap lo' hi' bytes:Nat} {w w':World} {v:Value}
structure FR {X:Type} (f:X->List Value) (n:Nat) (w:World) (lo hi g cap:Nat) (L:List X):Prop where
 bs:lo<=g
 up:g < hi
 lt:g < w.heap.size
 le:L.length<=cap
 mx:cap<=maxLen
 th:∀ j,j < cap*n->(w.cell? ⟨g,j,none⟩).isSome=true
 fz:∀ j,w.frozen? ⟨g,j,none⟩=false
 rg:w.rangeAt g 0 (Zai f L)
theorem FR.below {X:Type}{f:X->List Value}{L:List X} (h:FR f n w lo hi g cap L) (hb:Zw_ w w'):FR f n w' lo hi g cap L:=
 ⟨h.bs,h.up,Zk_ h.lt hb.size,h.le,h.mx,fun j hj=>by rw [hb.cell (p:=⟨g,j,none⟩) h.lt];exact h.th j hj,fun j=>by rw [hb.frozen (p:=⟨g,j,none⟩) h.lt];exact h.fz j,Zas h.rg hb h.lt⟩
theorem FR.touch {X:Type}{f:X->List Value}{L:List X} (h:FR f n w lo hi g cap L) (ht:Zad lo' hi' w w') (ho:g < lo'\/hi'<=g):FR f n w' lo hi g cap L:=
 ⟨h.bs,h.up,Zk_ h.lt ht.size,h.le,h.mx,fun j hj=>by rw [ht.cell (p:=⟨g,j,none⟩) h.lt ho];exact h.th j hj,fun j=>by rw [ht.frozen (p:=⟨g,j,none⟩) h.lt ho];exact h.fz j,fun j v hv=>by rw [ht.cell (p:=⟨g,0+j,none⟩) h.lt ho];exact h.rg j v hv⟩
theorem FR.wide {X:Type}{f:X->List Value}{L:List X} (h:FR f n w lo hi g cap L) (h1:lo'<=lo) (h2:hi<=hi'):FR f n w lo' hi' g cap L:=
 ⟨Nat.le_trans h1 h.bs,Zk_ h.up h2,h.lt,h.le,h.mx,h.th,h.fz,h.rg⟩
def ZaK {X:Type} (f:X->List Value) (n:Nat) (w:World) (lo hi:Nat) (v:Value) (L:List X):Prop:=∃ g cap,v=.slice (some ⟨g,0,none⟩) L.length cap/\FR f n w lo hi g cap L
theorem ZaK.below {X:Type}{f:X->List Value}{L:List X} (h:ZaK f n w lo hi v L) (hb:Zw_ w w'):ZaK f n w' lo hi v L:=by
 obtain⟨g,cap,h1,h2⟩:=h;exact⟨g,cap,h1,h2.below hb⟩
theorem ZaK.touch {X:Type}{f:X->List Value}{L:List X} (h:ZaK f n w lo hi v L) (ht:Zad lo' hi' w w') (ho:hi<=lo'\/hi'<=lo):ZaK f n w' lo hi v L:=by
 obtain⟨g,cap,h1,h2⟩:=h;exact⟨g,cap,h1,h2.touch ht (by have:=h2.bs;have:=h2.up;omega)⟩
theorem ZaK.wide {X:Type}{f:X->List Value}{L:List X} (h:ZaK f n w lo hi v L) (h1:lo'<=lo) (h2:hi<=hi'):ZaK f n w lo' hi' v L:=by
 obtain⟨g,cap,e1,e2⟩:=h;exact⟨g,cap,e1,e2.wide h1 h2⟩
theorem FR.get {X:Type}{f:X->List Value} (hf:∀ x,(f x).length=n) {w:World} {lo hi g cap:Nat} {L:List X} (h:FR f n w lo hi g cap L) {i t:Nat} (hi':i < L.length) (ht:t < n) {v:Value} (hv:(f L[i])[t]?=some v):w.cell? ⟨g,i*n+t,none⟩=some v:=by
 have:=h.rg (i*n+t) v (by rw [Zbw hf L i t hi' ht];exact hv)
 rwa [Nat.zero_add] at this
theorem Zbx {X:Type} (f:X->List Value) (n:Nat) (Y:World) (cs:Array Value) (t:TypeId) (cap:Nat) (hs:cs.size=cap*n) (hm:cap<=maxLen):FR f n (Y.alloc (.cells cs t)) Y.heap.size (Y.heap.size+1) Y.heap.size cap []:=
 ⟨Nat.le_refl _,Nat.lt_succ_self _,by simp,Nat.zero_le _,hm,fun j hj=>by rw [(Box.new Y cs t _ rfl).cell j,Array.getElem?_eq_getElem (by omega)];rfl,fun j=>(Box.new Y cs t _ rfl).free j,fun j u hu=>by simp [Zai] at hu⟩
theorem Zh9 {X:Type}{f:X->List Value} (hf:∀ x,(f x).length=n) {w:World} {base:Nat} {e:TypeId} {v:Value} {m:Nat} {L:List X} (h:w.ownsRow base e n v m (Zai f L)) (hm:m=L.length) (h0:0 < m):ZaK f n w base w.heap.size v L:=by
 subst hm
 rcases h.2 with ⟨_,h'⟩ | ⟨g,cap,cur,hv,hb,hg,hnc,hcm,hcs,htk⟩
 . omega
 . have hlt:=(Array.getElem?_eq_some_iff.1 hg).1
   refine⟨g,cap,hv,hb,hlt,hlt,hnc,hcm,fun j hj=>by rw [Zdq hg,Array.getElem?_eq_getElem (by omega)];rfl,fun j=>Zd9 hg j,fun j u hu=>?_⟩;rw [Nat.zero_add,Zdq hg]
   have hj:j < L.length*n:=by
    have:=(List.getElem?_eq_some_iff.1 hu).1
    rwa [Zaw hf] at this
   rw [<- htk,List.getElem?_take_of_lt hj] at hu
   simpa using hu
theorem FR.put {X:Type}{f:X->List Value} (hf:∀ x,(f x).length=n) {w:World} {lo hi g cap:Nat} {L M:List X} (h:FR f n w lo hi g cap L) (hc:L.length+M.length<=cap) :
 FR f n (w.setCells g (0+L.length*n) (Zai f M)) lo hi g cap (L ++ M):=by
 have hlm:(Zai f M).length=M.length*n:=Zaw hf M;have hll:(Zai f L).length=L.length*n:=Zaw hf L;have hcn:L.length*n+M.length*n<=cap*n:=by rw [<- Nat.add_mul];exact Nat.mul_le_mul_right _ hc
 refine⟨h.bs,h.up,by rw [Za8];exact h.lt,by rw [List.length_append];exact hc,h.mx,fun j hj=>World.isSome_setCells _ _ _ _ _ (h.th j hj),fun j=>by rw [World.frozen?_setCells];exact h.fz j,?_⟩;rw [Zbv];intro j u hu
 by_cases hj:j < L.length*n
 . rw [List.getElem?_append_left (by omega)] at hu
   exact World.rangeAt_setCells_apart h.rg g (0+L.length*n) (Zai f M) (Or.inr (Or.inl (by omega))) j u hu
 . rw [List.getElem?_append_right (by omega),hll] at hu
   have:=World.rangeAt_setCells_same w g (0+L.length*n) (Zai f M) (fun j hj'=>⟨h.th _ (by omega),h.fz _⟩) (j - L.length*n) u hu
   rwa [show 0+L.length*n+(j - L.length*n)=0+j by omega] at this
theorem Zad.sets {b:Nat} (hb:lo<=b/\b < hi):∀ (vs:List Value) (o:Nat) (w:World),Zad lo hi w (w.setCells b o vs)
 | [],_,_=>Zad.refl _ _ _
 | v :: vs,o,w=>(Zad.setCell lo hi w ⟨b,o,none⟩ v hb).trans (Zad.sets hb vs (o+1) _)
theorem ZeM {X:Type}{f:X->List Value} (hf:∀ x,(f x).length=n) (hn:0 < n) {t e:TypeId} {z:Value} (ht:prog.underlying t=some (.slice e)) (hi:(prog.info? e).map (fun i=>(i.zero,i.size,i.bytes))=some (some z,n,bytes)) (hzs:z.cells.size=n)
 {w:World} {lo hi':Nat} {v:Value} {L M:List X} (ty:TypeId) (h:ZaK f n w lo hi' v L) (ao:Option Addr) (m c:Nat) (hM:m=M.length) (hm:ao=none->m=0)
 (hsrc:∀ ad,ao=some ad->∀ j u,(Zai f M)[j]?=some u->w.cell? (ad.add j)=some u) (h1:∀ u ∈ Zai f M,u.oneCell'=true) (hb:L.length+M.length<=10000000) (hby:bytes<=1000000) :
 ∃ v' w',(Builtin.append_ #[t,t] ty #[v,.slice ao m c]).run prog w=.ok v' w'/\Zad lo hi' w w'/\(ZaK f n w' lo hi' v' (L ++ M)\/ZaK f n w' w.heap.size w'.heap.size v' (L ++ M)):=by
 have hex:∃ i,prog.info? e=some i/\i.zero=some z/\i.size=n/\i.bytes=bytes:=by
  cases hh:prog.info? e with
  | none=>rw [hh] at hi;simp at hi
  | some i=>
   rw [hh] at hi;simp only [Option.map_some,Option.some.injEq,Prod.mk.injEq] at hi;exact⟨i,rfl,hi.1,hi.2.1,hi.2.2⟩
 obtain⟨i0,hi0,hz0,hz1,hz2⟩:=hex;obtain⟨g,cap,rfl,hr⟩:=h;subst hM;have hlm:(Zai f M).length=M.length*n:=Zaw hf M
 cases ao with
 | none=>
  have h0:=hm rfl;obtain rfl:M=[]:=List.eq_nil_of_length_eq_zero h0;refine⟨.slice (some ⟨g,0,none⟩) L.length cap,w,?_,Zad.refl _ _ _,Or.inl ⟨g,cap,by simp,by simpa using hr⟩⟩;simp [Builtin.append_,run_underlying ht,sizeOf,typeInfo,hi0,Builtin.lenOf,Builtin.firstCells,storeCells,hr.le]
 | some ad=>
  by_cases hc:L.length+M.length<=cap
  . have hcn:L.length*n+M.length*n<=cap*n:=by rw [<- Nat.add_mul];exact Nat.mul_le_mul_right _ hc
    refine⟨.slice (some ⟨g,0,none⟩) (L.length+M.length) cap,w.setCells g (0+L.length*n) (Zai f M),?_,Zad.sets ⟨hr.bs,hr.up⟩ _ _ _,Or.inl ⟨g,cap,?_,hr.put hf hc⟩⟩
    . have:=run_append_room_cells (P:=prog) w t ty e i0 ht hi0 g 0 L.length cap ad M.length c (Zai f M) (by rw [hz1];exact hlm) (hsrc ad rfl) h1 hc
       (fun j hj=>hr.th _ (by rw [hz1];omega)) (fun j hj=>hr.fz _)
      rw [hz1] at this;exact this
    . rw [List.length_append]
  . obtain⟨v',w',h2,h3,h4⟩:=run_append_arg_grows (P:=prog) w t ty e i0 z n bytes ht hi0 hz0 hz1 hz2 hzs hn ⟨g,0,none⟩ L.length cap (Zai f L) (Zaw hf L)
     (fun j u hj=>by rw [Addr.add_lit];exact hr.rg j u hj) ad M.length c (Zai f M) hlm (hsrc ad rfl) (by omega) (by unfold maxLen;omega) (by
       have:=Nat.mul_le_mul hb hby
       omega)
    exact⟨v',w',h2,Zad.below ⟨h4.os,h4.tape,h4.output,h4.size,fun k hk=>h4.block k hk (by simp)⟩,Or.inr (Zh9 hf (by rw [Zbv];exact h3) (by rw [List.length_append]) (by omega))⟩
theorem ZdA {X:Type}{f:X->List Value} (hf:∀ x,(f x).length=n) (hn:0 < n) {t e:TypeId} {z:Value} (ht:prog.underlying t=some (.slice e)) (hi:(prog.info? e).map (fun i=>(i.zero,i.size,i.bytes))=some (some z,n,bytes)) (hzs:z.cells.size=n)
 {w:World} {lo hi':Nat} {v:Value} {L:List X} (M:List X) {ops:Array Oper} {rest:List Oper} {o:Oper} {a:Act} {Q:Exit->Act->World->Prop} (hgd:o.guard=none) (s x:Operand)
 (ho:o.op=.call { callee:=.builtin .append,args:=#[s,x],argTypes:=#[t,t] }) (hs:a.eval s=v) (h:ZaK f n w lo hi' v L) (ao:Option Addr) (m c:Nat) (hx:a.eval x=.slice ao m c) (hM:m=M.length) (hm:ao=none->m=0)
 (hsrc:∀ ad,ao=some ad->∀ j u,(Zai f M)[j]?=some u->w.cell? (ad.add j)=some u) (h1:∀ u ∈ Zai f M,u.oneCell'=true) (hb:L.length+M.length<=10000000) (hby:bytes<=1000000)
 (K:∀ v' w',Zad lo hi' w w'->(ZaK f n w' lo hi' v' (L ++ M)\/ZaK f n w' w.heap.size w'.heap.size v' (L ++ M))->wpList prog ops Q rest (a.put o.dst v') w'):wpList prog ops Q (o :: rest) a w:=by
 obtain⟨v',w',h2,h3,h4⟩:=ZeM hf hn ht hi hzs o.type h ao m c hM hm hsrc h1 hb hby
 exact wpList_append_run hgd s x _ ho hs hx h2 (K v' w' h3 h4)
end
section
variable {w w':World} {base g cap n lo:Nat} {L M:List Rs} {v:Value} {ao:Option Addr}
def rsL (x:Rs):List Value:=[.int .i64 x.ba,.string x.tx]
theorem ZaI (x:Rs):(rsL x).length=2:=rfl
theorem Zel (L:List Rs):∀ u ∈ Zai rsL L,u.oneCell'=true:=fun u hu=>by
 obtain⟨x,-,hx⟩:=ZcR hu;simp only [rsL,List.mem_cons,List.not_mem_nil,or_false] at hx
 rcases hx with rfl | rfl <;> rfl
structure LR (w:World) (base g cap:Nat) (L:List Rs):Prop where
 bs:base<=g
 lt:g < w.heap.size
 le:L.length<=cap
 mx:cap<=maxLen
 th:∀ j,j < cap*2->(w.cell? ⟨g,j,none⟩).isSome=true
 fz:∀ j,w.frozen? ⟨g,j,none⟩=false
 rg:w.rangeAt g 0 (Zai rsL L)
 sz:∀ i (h:i < L.length),ZaV L[i]
theorem LR.below (h:LR w base g cap L) (hb:Zw_ w w'):LR w' base g cap L:=
 ⟨h.bs,Zk_ h.lt hb.size,h.le,h.mx,fun j hj=>by rw [hb.cell (p:=⟨g,j,none⟩) h.lt];exact h.th j hj,fun j=>by rw [hb.frozen (p:=⟨g,j,none⟩) h.lt];exact h.fz j,Zas h.rg hb h.lt,h.sz⟩
def ZeR (w:World) (base:Nat) (v:Value) (L:List Rs):Prop:=∃ g cap,v=.slice (some ⟨g,0,none⟩) L.length cap/\LR w base g cap L
theorem ZeR.below (h:ZeR w base v L) (hb:Zw_ w w'):ZeR w' base v L:=by
 obtain⟨g,cap,h1,h2⟩:=h;exact⟨g,cap,h1,h2.below hb⟩
theorem LR.cells (h:LR w base g cap L) {i:Nat} (hi:i < L.length):ZbX w g (0+i*2) L[i]:=by
 have e0:=Zbw ZaI L i 0 hi (by omega);have e1:=Zbw ZaI L i 1 hi (by omega);have r0:=h.rg (i*2) (.int .i64 L[i].ba) (by simpa [rsL] using e0);have r1:=h.rg (i*2+1) (.string L[i].tx) (by simpa [rsL] using e1);exact⟨r0,r1⟩
theorem ZeR.at (h:ZeR w base v L):Zaq base w v L:=by
 obtain⟨g,cap,h1,h2⟩:=h
 by_cases hL:L=[]
 . subst hL
   exact Or.inl ⟨_,_,h1,rfl⟩
 . exact Or.inr ⟨g,0,cap,h1,hL,Nat.le_trans h2.le h2.mx,h2.lt,h2.bs,h2.le,fun i hi=>⟨h2.sz i hi,h2.cells hi⟩⟩
theorem Zkl {e:TypeId} (h:w.ownsRow base e 2 v n (Zai rsL L)) (hn:n=L.length) (h0:0 < n) (hz:∀ i (h:i < L.length),ZaV L[i]):ZeR w base v L:=by
 subst hn
 rcases h.2 with ⟨_,h'⟩ | ⟨g,cap,cur,hv,hb,hg,hnc,hcm,hcs,htk⟩
 . omega
 . refine⟨g,cap,hv,hb,(Array.getElem?_eq_some_iff.1 hg).1,hnc,hcm,fun j hj=>by rw [Zdq hg,Array.getElem?_eq_getElem (by omega)];rfl,fun j=>Zd9 hg j,fun j u hu=>?_,hz⟩
   rw [Nat.zero_add,Zdq hg]
   have hj:j < L.length*2:=by
    have:=(List.getElem?_eq_some_iff.1 hu).1
    rwa [Zaw ZaI] at this
   rw [<- htk,List.getElem?_take_of_lt hj] at hu
   simpa using hu
theorem LR.put (h:LR w base g cap L) (hc:L.length+M.length<=cap) (hz:∀ i (h:i < M.length),ZaV M[i]) :
 LR (w.setCells g (0+L.length*2) (Zai rsL M)) base g cap (L ++ M):=by
 have hlm:(Zai rsL M).length=M.length*2:=Zaw ZaI M;have hll:(Zai rsL L).length=L.length*2:=Zaw ZaI L;refine⟨h.bs,by rw [Za8];exact h.lt,by rw [List.length_append];exact hc,h.mx,fun j hj=>World.isSome_setCells _ _ _ _ _ (h.th j hj),fun j=>by rw [World.frozen?_setCells];exact h.fz j,?_,?_⟩
 . rw [Zbv]
   intro j u hu
   by_cases hj:j < L.length*2
   . rw [List.getElem?_append_left (by omega)] at hu
     exact World.rangeAt_setCells_apart h.rg g (0+L.length*2) (Zai rsL M) (Or.inr (Or.inl (by omega))) j u hu
   . rw [List.getElem?_append_right (by omega),hll] at hu
     have:=World.rangeAt_setCells_same w g (0+L.length*2) (Zai rsL M) (fun j hj'=>⟨h.th _ (by omega),h.fz _⟩) (j - L.length*2) u hu
     rwa [show 0+L.length*2+(j - L.length*2)=0+j by omega] at this
 . intro i hi
   rw [List.getElem_append]
   split
   . exact h.sz i (by assumption)
   . exact hz _ _
theorem ZeH:(prog.info? 108).map (fun i=>(i.zero,i.size,i.bytes))=some (some (.agg #[.int .i64 0,.string ⟨#[]⟩]),2,24):=by kernel_rfl
theorem ZjO (ty:TypeId) (h:ZeR w base v L) (ao:Option Addr) (m c:Nat) (hM:m=M.length) (hm:ao=none->m=0)
 (hsrc:∀ ad,ao=some ad->∀ j u,(Zai rsL M)[j]?=some u->w.cell? (ad.add j)=some u) (hz:∀ i (h:i < M.length),ZaV M[i]) (hb:L.length+M.length<=10000000) (hbase:base<=w.heap.size) :
 ∃ v' w',(Builtin.append_ #[35,35] ty #[v,.slice ao m c]).run prog w=.ok v' w'/\ZeR w' base v' (L ++ M)/\Below base w w':=by
 obtain⟨i0,hi,hz0,hz1,hz2⟩:=info_parts ZeH;obtain⟨g,cap,rfl,hr⟩:=h;subst hM;have hlm:(Zai rsL M).length=M.length*2:=Zaw ZaI M
 cases ao with
 | none=>
  have h0:=hm rfl;obtain rfl:M=[]:=List.eq_nil_of_length_eq_zero h0;refine⟨.slice (some ⟨g,0,none⟩) L.length cap,w,?_,⟨g,cap,by simp,by simpa using hr⟩,Below.refl _ _⟩;simp [Builtin.append_,run_underlying underlying35,sizeOf,typeInfo,hi,Builtin.lenOf,Builtin.firstCells,storeCells,hr.le]
 | some ad=>
  by_cases hc:L.length+M.length<=cap
  . refine⟨.slice (some ⟨g,0,none⟩) (L.length+M.length) cap,w.setCells g (0+L.length*2) (Zai rsL M),?_,⟨g,cap,?_,hr.put hc hz⟩,Below.sets hr.bs _ _ Zb_⟩
    . have:=run_append_room_cells (P:=prog) w 35 ty 108 i0 underlying35 hi g 0 L.length cap ad M.length c (Zai rsL M) (by rw [hz1];exact hlm) (hsrc ad rfl) (Zel M) hc
       (fun j hj=>hr.th _ (by rw [hz1];omega)) (fun j hj=>hr.fz _)
      rw [hz1] at this;exact this
    . rw [List.length_append]
  . obtain⟨v',w',h1,h2,h3⟩:=run_append_arg_grows (P:=prog) w 35 ty 108 i0 (.agg #[.int .i64 0,.string ⟨#[]⟩]) 2 24 underlying35 hi hz0 hz1 hz2 rfl (by omega) ⟨g,0,none⟩ L.length cap (Zai rsL L) (Zaw ZaI L)
     (fun j u hj=>by rw [Addr.add_lit];exact hr.rg j u hj) ad M.length c (Zai rsL M) hlm (hsrc ad rfl) (by omega) (by unfold maxLen;omega) (by omega)
    have hzz:∀ i (h:i < (L ++ M).length),ZaV (L ++ M)[i]:=by
     intro i hi;rw [List.getElem_append]
     split
     . exact hr.sz i (by assumption)
     . exact hz _ _
    have hp:0 < L.length+M.length:=by omega
    have h4:ZeR w' w.heap.size v' (L ++ M):=Zkl (by rw [Zbv];exact h2) (by rw [List.length_append]) hp hzz;obtain⟨g',cap',e1,e2⟩:=h4;exact⟨v',w',h1,⟨g',cap',e1,⟨Nat.le_trans hbase e2.bs,e2.lt,e2.le,e2.mx,e2.th,e2.fz,e2.rg,e2.sz⟩⟩,⟨h3.os,h3.tape,h3.output,h3.size,fun k hk=>h3.block k (by omega) (by simp)⟩⟩
theorem Zaq.src (h:Zaq lo w (.slice ao n cap) L):∀ ad,ao=some ad->∀ j u,(Zai rsL L)[j]?=some u->w.cell? (ad.add j)=some u:=by
 rintro ad rfl j u hu;have hj:=(List.getElem?_eq_some_iff.1 hu).1;rw [Zaw ZaI] at hj;obtain⟨b,off,e,-,-,hc⟩:=h.full' (by omega);injection e with e
 subst e;have hi:j / 2 < L.length:=by omega
 obtain⟨-,hcc⟩:=hc (j / 2) hi;rw [Addr.add_lit]
 by_cases hm:j % 2=0
 . have ej:j=j / 2*2+0:=by omega
   have:=Zbw ZaI L (j / 2) 0 hi (by omega);rw [<- ej,hu] at this;have hu':u=.int .i64 L[j / 2].ba:=by simpa [rsL] using this
   rw [hu',<- hcc.c0]
   congr 2
   omega
 . have ej:j=j / 2*2+1:=by omega
   have:=Zbw ZaI L (j / 2) 1 hi (by omega);rw [<- ej,hu] at this;have hu':u=.string L[j / 2].tx:=by simpa [rsL] using this
   rw [hu',<- hcc.c1]
   congr 2
   omega
theorem Zaq.sizes (h:Zaq lo w v L):∀ i (hi:i < L.length),ZaV L[i]:=by
 intro i hi;obtain⟨_,_,_,_,_,_,_,hc⟩:=h.full (fun e=>by rw [e] at hi;simp at hi);exact (hc i hi).1
theorem Zaq.nilN (h:Zaq lo w (.slice ao n cap) L):ao=none->L.length=0:=by
 rintro rfl
 rcases h with ⟨_,_,_,rfl⟩ | ⟨_,_,_,h1,_⟩
 . rfl
 . injection h1 with e;cases e
end
section
variable {n lo hi lo' hi' bytes:Nat} {w w':World} {v:Value}
def ZaE {X:Type} (f:X->List Value) (n:Nat) (w:World) (lo hi:Nat) (v:Value) (L:List X):Prop:=(v=.slice none 0 0/\L=[])\/ZaK f n w lo hi v L
theorem ZaE.below {X:Type}{f:X->List Value}{L:List X} (h:ZaE f n w lo hi v L) (hb:Zw_ w w'):ZaE f n w' lo hi v L:=h.imp id fun h=>h.below hb
theorem ZaE.touch {X:Type}{f:X->List Value}{L:List X} (h:ZaE f n w lo hi v L) (ht:Zad lo' hi' w w') (ho:hi<=lo'\/hi'<=lo):ZaE f n w' lo hi v L:=h.imp id fun h=>h.touch ht ho
theorem ZaE.wide {X:Type}{f:X->List Value}{L:List X} (h:ZaE f n w lo hi v L) (h1:lo'<=lo) (h2:hi<=hi'):ZaE f n w lo' hi' v L:=h.imp id fun h=>h.wide h1 h2
theorem ZaE.set {X:Type}{f:X->List Value}{L:List X} (h:ZaE f n w lo hi v L) {p:Addr} (hp:p.block < lo) (u:Value):ZaE f n (w.setCell p u) lo hi v L:=
 h.touch (Zad.setCell p.block (p.block+1) w p u ⟨Nat.le_refl _,Nat.lt_succ_self _⟩) (Or.inr hp)
theorem ZaE.form {X:Type}{f:X->List Value}{L:List X} (h:ZaE f n w lo hi v L):∃ a c,v=.slice a L.length c:=by
 rcases h with ⟨h,rfl⟩ | ⟨g,cap,h,_⟩
 . exact⟨none,0,h⟩
 . exact⟨_,_,h⟩
theorem ZaE.nil {X:Type} (f:X->List Value) (n:Nat) (w:World) (lo hi:Nat):ZaE f n w lo hi (.slice none 0 0) []:=Or.inl ⟨rfl,rfl⟩
theorem Zhk {P:Program} (w:World) (t ty e:TypeId) (i:TypeInfo) (z:Value) (size bytes:Nat) (ht:P.underlying t=some (.slice e)) (hi:P.info? e=some i) (hz:i.zero=some z)
 (hsize:i.size=size) (hby:i.bytes=bytes) (hzs:z.cells.size=size) (a:Addr) (m c:Nat) (news:List Value) (hl:news.length=m*size) (hnews:∀ j u,news[j]?=some u->w.cell? (a.add j)=some u)
 (h0:0 < m) (h63:m<=maxLen) (hbytes:m*bytes<=140737488355328) :
 ∃ v' w',(Builtin.append_ #[t,t] ty #[.slice none 0 0,.slice (some a) m c]).run P w=.ok v' w'/\w'.ownsRow w.heap.size e size v' m news/\Zw_ w w':=by
 subst hsize;subst hby
 have hsmall:m<=9223372036854775807:=by simp only [maxLen] at h63;omega
 have hge:=grownCap_ge w m 0 e;have hcm:grownCap w m 0 e<=maxLen:=grownCap_le_maxLen w m 0 e h63;have hr:=run_append_nil (P:=P) w t ty e i z ht hi hz a m c news hl hnews h0 (by omega) (by omega);refine⟨_,_,hr,⟨hl,.inr ⟨w.heap.size,_,_,rfl,Nat.le_refl _,heap_alloc_new w.drew _,hge,hcm,?_,?_⟩⟩,⟨rfl,rfl,rfl,by simp,fun k hk=>heap_alloc_old w.drew _ hk⟩⟩
 . simp only [Array.size_append,List.size_toArray,size_zeroCells,hzs,hl,<- Nat.add_mul]
   congr 1
   omega
 . simp only [Array.toList_append]
   rw [<- hl];exact List.take_left
theorem Zem {X:Type}{f:X->List Value} (hf:∀ x,(f x).length=n) (hn:0 < n) {t e:TypeId} {z:Value} (ht:prog.underlying t=some (.slice e)) (hi:(prog.info? e).map (fun i=>(i.zero,i.size,i.bytes))=some (some z,n,bytes)) (hzs:z.cells.size=n)
 {w:World} {lo hi':Nat} {v:Value} {L M:List X} (ty:TypeId) (h:ZaE f n w lo hi' v L) (ao:Option Addr) (m c:Nat) (hM:m=M.length) (hm:ao=none->m=0)
 (hsrc:∀ ad,ao=some ad->∀ j u,(Zai f M)[j]?=some u->w.cell? (ad.add j)=some u) (h1:∀ u ∈ Zai f M,u.oneCell'=true) (hb:L.length+M.length<=10000000) (hby:bytes<=1000000) :
 ∃ v' w',(Builtin.append_ #[t,t] ty #[v,.slice ao m c]).run prog w=.ok v' w'/\Zad lo hi' w w'/\(ZaE f n w' lo hi' v' (L ++ M)\/ZaE f n w' w.heap.size w'.heap.size v' (L ++ M)):=by
 rcases h with ⟨rfl,rfl⟩ | h
 . have hex:∃ i,prog.info? e=some i/\i.zero=some z/\i.size=n/\i.bytes=bytes:=by
    cases hh:prog.info? e with
    | none=>rw [hh] at hi;simp at hi
    | some i=>
     rw [hh] at hi;simp only [Option.map_some,Option.some.injEq,Prod.mk.injEq] at hi;exact⟨i,rfl,hi.1,hi.2.1,hi.2.2⟩
   obtain⟨i0,hi0,hz0,hz1,hz2⟩:=hex;have hlm:(Zai f M).length=M.length*n:=Zaw hf M;subst hM;simp only [List.length_nil,Nat.zero_add] at hb
   by_cases h0:M.length=0
   . obtain rfl:M=[]:=List.eq_nil_of_length_eq_zero h0
     refine⟨.slice none 0 0,w,?_,Zad.refl _ _ _,Or.inl (Or.inl ⟨rfl,rfl⟩)⟩
     cases ao with
     | none=>simp [Builtin.append_,run_underlying ht,sizeOf,typeInfo,hi0,Builtin.lenOf,Builtin.firstCells]
     | some ad=>simp [Builtin.append_,run_underlying ht,sizeOf,typeInfo,hi0,Builtin.lenOf,Builtin.firstCells,loadCells,loadCellsFrom]
   . cases ao with
     | none=>exact absurd (hm rfl) h0
     | some ad=>
      obtain⟨v',w',h2,h3,h4⟩:=Zhk (P:=prog) w t ty e i0 z n bytes ht hi0 hz0 hz1 hz2 hzs ad M.length c (Zai f M) hlm (hsrc ad rfl) (by omega) (by unfold maxLen;omega) (by
       have:=Nat.mul_le_mul hb hby
       omega)
      exact⟨v',w',h2,Zad.below h4,Or.inr (Or.inr (Zh9 hf h3 rfl (by omega)))⟩
 . obtain⟨v',w',h2,h3,h4⟩:=ZeM hf hn ht hi hzs ty h ao m c hM hm hsrc h1 hb hby
   exact⟨v',w',h2,h3,h4.imp Or.inr Or.inr⟩
theorem Zer {X:Type}{f:X->List Value} (hf:∀ x,(f x).length=n) (hn:0 < n) {t e:TypeId} {z:Value} (ht:prog.underlying t=some (.slice e)) (hi:(prog.info? e).map (fun i=>(i.zero,i.size,i.bytes))=some (some z,n,bytes)) (hzs:z.cells.size=n)
 {w:World} {lo hi':Nat} {v:Value} {L:List X} (M:List X) {ops:Array Oper} {rest:List Oper} {o:Oper} {a:Act} {Q:Exit->Act->World->Prop} (hgd:o.guard=none) (s x:Operand)
 (ho:o.op=.call { callee:=.builtin .append,args:=#[s,x],argTypes:=#[t,t] }) (hs:a.eval s=v) (h:ZaE f n w lo hi' v L) (ao:Option Addr) (m c:Nat) (hx:a.eval x=.slice ao m c) (hM:m=M.length) (hm:ao=none->m=0)
 (hsrc:∀ ad,ao=some ad->∀ j u,(Zai f M)[j]?=some u->w.cell? (ad.add j)=some u) (h1:∀ u ∈ Zai f M,u.oneCell'=true) (hb:L.length+M.length<=10000000) (hby:bytes<=1000000)
 (K:∀ v' w',Zad lo hi' w w'->(ZaE f n w' lo hi' v' (L ++ M)\/ZaE f n w' w.heap.size w'.heap.size v' (L ++ M))->wpList prog ops Q rest (a.put o.dst v') w'):wpList prog ops Q (o :: rest) a w:=by
 obtain⟨v',w',h2,h3,h4⟩:=Zem hf hn ht hi hzs o.type h ao m c hM hm hsrc h1 hb hby
 exact wpList_append_run hgd s x _ ho hs hx h2 (K v' w' h3 h4)
theorem ZaE.rss {L:List Rs} (h:ZaE rsL 2 w lo hi v L) (hz:∀ i (h:i < L.length),ZaV L[i]):Zap lo hi w v L:=by
 rcases h with ⟨h,rfl⟩ | ⟨g,cap,h1,h2⟩
 . exact Or.inl ⟨_,_,h,rfl⟩
 by_cases hL:L=[]
 . subst hL;exact Or.inl ⟨_,_,h1,rfl⟩
 . have h0:0 < L.length:=List.length_pos_iff.2 hL
   refine Or.inr ⟨g,0,cap,fun _=>g+1,fun i=>if h:i < L.length then L[i] else L[0],h1,hL,Nat.le_trans h2.le h2.mx,h2.le,fun i hi=>by simp [hi],h2.lt,h2.bs,Nat.lt_succ_self _,h2.up,fun _ _=>Nat.le_refl _,h2.up,h2.fz,fun i hi=>?_⟩;simp only [hi,dif_pos];have e0:=h2.get ZaI hi (t:=0) (by omega) (v:=.int .i64 L[i].ba) rfl;have e1:=h2.get ZaI hi (t:=1) (by omega) (v:=.string L[i].tx) rfl;exact⟨hz i hi,⟨by rw [Nat.zero_add];exact e0,by rw [Nat.zero_add];exact e1⟩⟩
end
def Zkx {X:Type} (r:X->X->Bool) (L:List X):Nat->Bool
 | 0=>true
 | j+1=>match L[j]?,L[j+1]? with
  | some x,some y=>r x y
  | _,_=>true
def ZkJ {X:Type} (r:X->X->Bool) (L:List X):Bool:=(List.range L.length).all (Zkx r L)
theorem Zie {X:Type}{r:X->X->Bool}{L:List X}{j:Nat} (h:j+1 < L.length):Zkx r L (j+1)=r L[j] L[j+1]:=by
 show (match L[j]?,L[j+1]? with | some x,some y=>r x y | _,_=>true)=_
 rw [List.getElem?_eq_getElem (by omega),List.getElem?_eq_getElem h]
def ZgY (a b:Int):Int:=if a < b then -1 else if b < a then 1 else 0
theorem ZeX {a b:Int}:ZgY a b < 0↔a < b:=by unfold ZgY;split <;> (try split) <;> omega
theorem Ze8 (a:Int) (w:World):Calls prog 151 #[.int .i64 a] w fun e w'=>e=.returned (.bool false)/\w'=w:=by
 go_enter func151,ntmps151;go_wp2;go_ret;exact⟨rfl,rfl⟩
theorem ZeC (a b:Int) (w:World) :
 Calls prog 133 #[.int .i64 a,.int .i64 b] w fun e w'=>e=.returned (.int .i64 (ZgY a b))/\w'=w:=by
 by_cases h1:a < b
 . have HE:Hd (ZgY a b= -1):=if_pos h1
   go_enter func133,ntmps133;go_wp2_with (go_at_call 151;refine (Ze8 _ _).mono ?_;rintro e w' ⟨rfl,rfl⟩);go_ret;exact⟨Zfe HE.o.symm,rfl⟩
 . by_cases h2:b < a
   . have HE:Hd (ZgY a b=1):=by unfold Hd ZgY;rw [if_neg h1,if_pos h2]
     go_enter func133,ntmps133;go_wp2_with (go_at_call 151;refine (Ze8 _ _).mono ?_;rintro e w' ⟨rfl,rfl⟩);go_ret;exact⟨Zfe HE.o.symm,rfl⟩
   . have HE:Hd (ZgY a b=0):=by unfold Hd ZgY;rw [if_neg h1,if_neg h2]
     go_enter func133,ntmps133;go_wp2_with (go_at_call 151;refine (Ze8 _ _).mono ?_;rintro e w' ⟨rfl,rfl⟩);go_ret;exact⟨Zfe HE.o.symm,rfl⟩
theorem Zah (n lo hi:Int) (w:World) :
 Calls prog 89 #[.int .i64 n,.int .i64 lo,.int .i64 hi] w fun e w'=>e=.returned (.bool (inB lo hi n))/\w'=w:=by
 rw [ZdK]
 by_cases h:lo<=n
 . by_cases h2:n<=hi
   . go_enter func89,ntmps89
     go_wp2;go_ret;exact⟨by rw [decide_eq_true h,decide_eq_true h2];rfl,rfl⟩
   . go_enter func89,ntmps89
     go_wp2;go_ret;exact⟨by simp [h2],rfl⟩
 . go_enter func89,ntmps89
   go_wp2;go_ret;exact⟨by rw [decide_eq_false (show ¬ lo<=n by omega)];rfl,rfl⟩
variable {n:Nat} {w w':World}
theorem ZaE.freshB {X:Type}{f:X->List Value}{v:Value}{L:List X} (h:ZaE f n w' w.heap.size w.heap.size v L\/ZaE f n w' w.heap.size w'.heap.size v L) (hs:w.heap.size<=w'.heap.size):ZaE f n w' w.heap.size w'.heap.size v L:=by
 rcases h with h | h
 . exact h.wide Zl_ hs
 . exact h
theorem Zad.none (h:Zad n n w w') (_hn:w.heap.size<=n):Zw_ w w':=⟨h.os,h.tape,h.output,h.size,fun k hk=>h.block k hk (by omega)⟩
theorem Zcr (lo:Nat) (v:Value) (L:List Rs) (w:World) (hv:Zaq lo w v L) (hn:L.length<=1048576) :
 Calls prog 96 #[v] w fun e w'=>∃ v',e=.returned v'/\Zw_ w w'/\ZaE rsL 2 w' w.heap.size w'.heap.size v' L:=by
 have HV:=Zaa hv;obtain⟨a,cap,rfl⟩:=hv.form;clear hv;go_enter func96,ntmps96;go_wp2_with (at_builtin;refine Zer ZaI (by decide) underlying35 ZeH rfl (w:=w) (lo:=w.heap.size) (hi':=w.heap.size) (L:=[]) L rfl (.const (.slice none 0 0)) (.tmp 3) rfl rfl (ZaE.nil _ _ _ _ _) a L.length cap rfl rfl (fun e=>HV.o.nilN e) HV.o.src (Zel L) (by simp;omega) (by decide) ?_;intro v' w' h1 h2;have H1:=Zaa h1;have H2:=Zaa h2;clear h1 h2);go_ret;have h2:=H2.o;rw [List.nil_append] at h2;exact⟨v',rfl,H1.o.none Zl_,ZaE.freshB h2 H1.o.size⟩
end Go.Proofs.YtkiefplmnoapfaaGreat
