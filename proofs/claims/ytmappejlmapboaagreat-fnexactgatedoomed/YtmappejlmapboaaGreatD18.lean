import Derived.Test.YtmappejlmapboaaGreatD17
import Derived.ChangeSlices
set_option maxHeartbeats 16000000
set_option maxRecDepth 100000
open Go.Proofs.Tryz
namespace Go.Proofs.YtmappejlmapboaaGreat
section
open Go.RowKit Go.Deep
variable {Fs:List Fd} {ro:Int} {k:Nat} {Ss:List Sh} {Os:List Ob}
def ZgN (ro:Int) (kd nm:Zy_) (t:Tie):Bool:=(t.2.1 == ro)&&((t.2.2.1.toList == kd.toList)&&(t.2.2.2.toList == nm.toList))
def ZdZ (Fs:List Fd) (V:List Zy_) (ro:Int) (kd nm:Zy_) (k:Nat):Bool:=(Zdu Fs V k).any (ZgN ro kd nm)
def ZdH (f:Fd) (s:Zy_) (ro:Int) (kd nm:Zy_):Bool:=(f.kd == 4)&&((f.ro == ro)&&(!s.toList.isEmpty&&((f.to.toList == kd.toList)&&(s.toList == nm.toList))))
theorem Zja {V:List Zy_}{kd nm:Zy_} (hf:k < Fs.length) (hv:k < V.length):ZdZ Fs V ro kd nm (k+1)=(ZdZ Fs V ro kd nm k || ZdH Fs[k] V[k] ro kd nm):=by
 unfold ZdZ;rw [Zih hf hv,List.any_append]
 congr 1
 unfold Zfw ZdH
 cases h1:Fs[k].kd == 4 <;> cases h2:V[k].toList.isEmpty <;> simp [ZgN]
theorem Zi9 {V:List Zy_}{kd nm:Zy_} (hl:Fs.length=V.length) {k:Nat} (hk:ZdZ Fs V ro kd nm k=true):∀ m,k<=m->m<=Fs.length->ZdZ Fs V ro kd nm m=true
 | 0,h1,_=>by
  have:k=0:=by omega
  rw [<- this];exact hk
 | m+1,h1,h2=>by
  by_cases e:k=m+1
  . rw [<- e];exact hk
  . rw [Zja (by omega) (by omega),Zi9 hl hk m (by omega) (by omega),Bool.true_or]
def Zcz (Ss:List Sh) (o:Ob) (ro:Int) (kd nm:Zy_):Bool:=match Zcn Ss o.kd with
 | some x=>ZdZ x.fields o.vs ro kd nm x.fields.length
 | none=>false
def ZfX (Ss:List Sh) (Os:List Ob):Prop:=∀ i (h:i < Os.length),∃ x,Zcn Ss Os[i].kd=some x/\x.fields.length=Os[i].vs.length
def Zuz (Ss:List Sh) (Os:List Ob) (i:Nat):Bool:=match Os[i]? with
 | some o=>!o.en&&(Os.any fun e=>e.en&&Zcz Ss o 3 e.kd e.nm)
 | none=>false
def ZcC (Ss:List Sh) (o:Ob):List Tie:=match Zcn Ss o.kd with
 | some x=>Zdu x.fields o.vs x.fields.length
 | none=>[]
def ZeA (T:List Tie) (i:Nat) (a b:Zy_):List Int:=(T.filter (ZgN 3 a b)).map fun _=>(i:Int)
def Zh6 (Ss:List Sh) (Os:List Ob) (k:Nat) (a b:Zy_):List Int:=(List.range k).flatMap fun i=>match Os[i]? with
 | some o=>ZeA (ZcC Ss o) i a b
 | none=>[]
theorem ZqL (h:k < Os.length) (a b:Zy_):Zh6 Ss Os (k+1) a b=Zh6 Ss Os k a b ++ ZeA (ZcC Ss Os[k]) k a b:=by
 unfold Zh6;rw [List.range_succ,List.flatMap_append];simp [h]
theorem ZgG (T:List Tie) (x:Tie) (i:Nat) (a b:Zy_):ZeA (T ++ [x]) i a b=ZeA T i a b ++ (if ZgN 3 a b x then [(i:Int)] else []):=by
 unfold ZeA;rw [List.filter_append,List.map_append]
 congr 1
 rw [List.filter_cons]
 split <;> simp
theorem Zle (T:List Tie) (i:Nat) (a b:Zy_):(ZeA T i a b).length<=T.length:=by
 unfold ZeA;rw [List.length_map];exact List.length_filter_le _ _
theorem Zm7 {m:Nat} (h:∀ o ∈ Os,(ZcC Ss o).length<=m) (a b:Zy_):∀ k,(Zh6 Ss Os k a b).length<=k*m
 | 0=>by simp [Zh6]
 | k+1=>by
  have ih:=Zm7 h a b k;unfold Zh6 at ih |-;rw [List.range_succ,List.flatMap_append,List.length_append,Nat.succ_mul];refine Nat.add_le_add ih ?_;simp only [List.flatMap_cons,List.flatMap_nil,List.append_nil]
  split
  . rename_i o ho
    exact Nat.le_trans (Zle _ _ _ _) (h o (List.mem_of_getElem? ho))
  . simp
end
section
open Go.RowKit Go.Deep
theorem Zrt {L:List Int} (h:vAt L 0=true):∀ i,i < 1->vAt L i=true:=fun i hi=>by
 have e:i=0:=by omega
 subst e;exact h
theorem ZmP (lo:Nat) (v:Value) (L:List Int) (w:World) (hv:Zat lo w v L) :
 Calls prog 245 #[v] w fun e w'=>e=.returned (.bool (Zpz L))/\w'=w:=by
 by_cases hL:L=[]
 . subst hL
   obtain⟨a,cap,rfl⟩:=hv.form;clear hv;go_enter func245,ntmps245;go_wp2
   go_loop [7] (fun i=>i=.int .i64 0) (fun _=>0)
   case atStart=>rfl
   case round=>
    subst hrel;go_wp2;go_ret;exact⟨rfl,rfl⟩
 . obtain⟨b,off,cap,rfl,hm,hbw,hc⟩:=hv.full hL
   clear hv;unfold maxLen at hm;go_enter func245,ntmps245;go_wp2
   go_loop [7] (fun i=>∃ k:Nat,i=.int .i64 k/\k<=L.length/\∀ i,i < k->vAt L i=true) (fun i=>L.length - (intOf i).toNat)
   case atStart=>exact⟨0,rfl,by omega,fun i h=>by omega⟩
   case round=>
    obtain⟨k,rfl,hk,hall⟩:=hrel;have HA:=Zab hall;clear hall
    by_cases hlt:k < L.length
    . have c0:=hc k hlt
      by_cases h1:L[k] < 1
      . have HR:Hd (Zpz L=false):=Ze1 hlt (Zjs hlt (by unfold inB;simp;omega))
        go_wp2;go_ret;exact⟨Zaa HR.o.symm,rfl⟩
      by_cases h5:5 < L[k]
      . have HR:Hd (Zpz L=false):=Ze1 hlt (Zjs hlt (by unfold inB;simp;omega))
        go_wp2;go_ret;exact⟨Zaa HR.o.symm,rfl⟩
      have HI:Hd (inB 1 5 L[k]=true):=by unfold Hd inB;simp;omega
      cases k with
      | zero=>
       have c0:w.cell? ⟨b,off,none⟩=some (.int .i64 L[0]):=by simpa using c0
       have HX:Hd (vAt L 0=true):=by unfold Hd;rw [Zgi hlt];exact HI.o
       go_wp2
       go_round
       . exact⟨1,by go_num,by omega,Zrt HX.o⟩
       . simp [intOf];omega
      | succ j=>
       have cj:=hc j (by omega)
       by_cases hls:L[j] < L[j+1]
       . have HX:Hd (vAt L (j+1)=true):=by unfold Hd;rw [ZcK hlt,HI.o,decide_eq_true hls];rfl
         go_wp2
         go_round
         case rel=>exact⟨j+2,by go_num,by omega,fun i hi=>by
                    by_cases e:i=j+1
                    . subst e;exact HX.o
                    . exact HA.o i (by omega)⟩
         . simp [intOf];omega
       . have HR:Hd (Zpz L=false):=Ze1 hlt (by rw [ZcK hlt,decide_eq_false hls];simp)
         go_wp2;go_ret;exact⟨Zaa HR.o.symm,rfl⟩
    . have HR:Hd (Zpz L=decide (0 < L.length)):=Zik (by omega) HA.o
      have hpos:0 < L.length:=List.length_pos_iff.2 hL
      have HT:Hd (decide (0 < L.length)=true):=by unfold Hd;simpa using hpos
      go_wp2;go_ret;exact⟨Zaa (by rw [HR.o,HT.o]),rfl⟩
theorem ZkQ (lo:Nat) (r:Ru) (vv:Value) (w:World) (hv:Zat lo w vv r.vb) (hz:Zhx r) :
 Calls prog 217 #[.agg #[vv,.string r.kd,.string r.tm,.string r.pf]] w fun e w'=>e=.returned (.bool (ZaW r))/\Zw_ w w':=by
 have HV:=Zab hv;have HZ:=Zab hz;obtain⟨a,cap,rfl⟩:=hv.form;clear hv hz;have hsz:=HZ.o.s3;unfold maxLen at hsz;go_enter func217,ntmps217;go_wp2_with fail;generalize hWa:w.alloc _=Wa;have HBa:Hd (Zw_ w Wa):=by rw [<- hWa];exact Zac _ _
 have FA:Hd (Box Wa w.heap.size #[.slice a r.vb.length cap,.string r.kd,.string r.tm,.string r.pf]):=by rw [<- hWa];exact Box.new _ _ _ _ rfl
 clear hWa;refine (ZmP lo _ r.vb _ (HV.o.below HBa.o)).mono ?_;rintro e w1 ⟨rfl,rfl⟩;have a1:w1.cell? ⟨w.heap.size,1,none⟩=some (.string r.kd):=FA.o.cell 1;have a2:w1.cell? ⟨w.heap.size,2,none⟩=some (.string r.tm):=FA.o.cell 2;have a3:w1.cell? ⟨w.heap.size,3,none⟩=some (.string r.pf):=FA.o.cell 3
 cases q1:Zpz r.vb with
 | false=>
  have HR:Hd (ZaW r=false):=by unfold Hd ZaW;rw [q1];rfl
  go_wp2;go_ret;exact⟨Zaa HR.o.symm,HBa.o⟩
 | true=>
  go_wp2_with fail;refine (ZbL r.kd _ HZ.o.s1).mono ?_;rintro e w2 ⟨rfl,rfl⟩
  cases q2:Zai r.kd with
  | false=>
   have HR:Hd (ZaW r=false):=by unfold Hd ZaW;rw [q1,q2];rfl
   go_wp2;go_ret;exact⟨Zaa HR.o.symm,HBa.o⟩
  | true=>
   go_wp2_with fail;refine (ZbL r.tm _ HZ.o.s2).mono ?_;rintro e w3 ⟨rfl,rfl⟩
   cases q3:Zai r.tm with
   | false=>
    have HR:Hd (ZaW r=false):=by unfold Hd ZaW;rw [q1,q2,q3];rfl
    go_wp2;go_ret;exact⟨Zaa HR.o.symm,HBa.o⟩
   | true=>
    by_cases q4:(r.pf.size:Int)<=16
    . have HR:Hd (ZaW r=Zgn Zaw r.pf):=by unfold Hd ZaW;rw [q1,q2,q3,decide_eq_true q4];rfl
      go_wp2_with fail;refine (Zgb r.pf _ HZ.o.s3).mono ?_;rintro e w4 ⟨rfl,rfl⟩;generalize Zgn Zaw r.pf=Q at*;go_wp2;go_ret;exact⟨Zaa HR.o.symm,HBa.o⟩
    . have HR:Hd (ZaW r=false):=by unfold Hd ZaW;rw [decide_eq_false q4];simp
      go_wp2;go_ret;exact⟨Zaa HR.o.symm,HBa.o⟩
end
section
open Go.RowKit Go.Deep
theorem Zmi (lo hi:Nat) (v:Value) (Xl:List Le) (k:Int) (w:World) (hv:Zco lo hi w v Xl) (hn:Ze4 Xl) (h0:0<=k) (hk:k<=2000000000000000000) :
 Calls prog 57 #[v,.int .i64 k] w fun e w'=>e=.returned (.int .i64 (k+(Zej Xl Xl.length:Int)))/\Zag lo hi w w'/\Zco lo hi w' v (ZoA k Xl):=by
 rcases hv with ⟨a,cap,rfl,rfl⟩ | ⟨b,off,cap,c,X,rfl,hne,hm,hcap,hX,hR⟩
 . go_enter func57,ntmps57
   go_wp2
   go_loop [5,1] (fun i q=>i=.int .i64 0/\q=.int .i64 k) (fun _ _=>0)
   case atStart=>exact⟨rfl,rfl⟩
   case round=>
    obtain⟨rfl,rfl⟩:=hrel;go_wp2;go_ret;exact⟨by simp [Zej],Zag.refl _ _ _,Or.inl ⟨_,_,rfl,rfl⟩⟩
 . have hlen:=hn.1
   have HN:=Zab hn;have HX:=Zab hX;have HR0:=Zab hR;have HM:=Zab hm;have HC:=Zab hcap;have HNE:=Zab hne;clear hn hX hR hm hcap hne;go_enter func57,ntmps57;go_wp2
   go_loopw [5,1] (fun i q wr=>∃ j:Nat,i=.int .i64 j/\q=.int .i64 (k+(Zej Xl j:Int))/\j<=Xl.length/\Zag lo hi w wr/\Zfh lo hi wr b off Xl.length c (fun i=>if i < j then ZtB (k+(Zej Xl i:Int)) (X i) else X i)) (fun i _ _=>Xl.length - (intOf i).toNat)
   case atStart=>exact⟨0,rfl,by simp [Zej],by omega,Zag.refl _ _ _,HR0.o.to (fun i _=>by simp)⟩
   case round=>
    obtain⟨j,rfl,rfl,hj,ht,hr⟩:=hrel;have HT:=Zab ht;have HR:=Zab hr;clear ht hr HR0
    by_cases hlt:j < Xl.length
    . have hpos:=Znb HN.o (i:=j) (by omega)
      have HP:=Zab (Zjg hlt)
      have hone:Zgq b (off+j*4) (c j) (c (j+1)) wr (X j):=by
       have:=HR.o.row j hlt;simp only [Nat.lt_irrefl,if_false] at this;exact this
      have hxj:X j=Xl[j]:=HX.o j hlt;obtain⟨x,hx⟩:∃ x,x=X j:=⟨_,rfl⟩
      rw [<- hx] at hone;obtain⟨hs,hc⟩:=hone;have HXJ:=Zab hxj;have HXX:=Zab hx;obtain⟨K,hK⟩:∃ K,K=k+(Zej Xl j:Int):=⟨_,rfl⟩
      rw [<- hK];have hK0:0<=K:=by omega
      have hK1:K<=2500000000000000000:=by omega
      have HK:=Zab hK;have HBC:Hd (b < c j):=Zk_ HR.o.bc (HR.o.le Zz_ (by omega));have HS:Hd (Zko wr b (off+j*4) (c j) (c (j+1)) wr x):=⟨ZbV.refl _ _ _ _ _ _,HBC.o,hc,HR.o.frz,HR.o.lt⟩;clear hpos hxj hx hs hc hK;obtain⟨d0,d1,d2,d3⟩:=HS.o.cells;have fz:=HS.o.frz;go_wp2_with fail;clear d0 d1 d2 d3 fz;refine (Zal _ _ (by omega)).mono ?_;rintro e v1 ⟨rfl,hb⟩;have HS1:=Zab (HS.o.below hb);clear hb HS;obtain⟨d0,d1,d2,d3⟩:=HS1.o.cells;have fz:=HS1.o.frz;go_wp2_with fail;clear d0 d1 d2 d3 fz;obtain⟨v2,hv2,HS2⟩:∃ v',v'=(v1.setCell ⟨b,off+j*4,none⟩ (.string (mtB (K))))/\Hd (Zko wr b (off+j*4) (c j) (c (j+1)) v' ⟨mtB (K),x.re,x.mo,x.fr⟩):=⟨_,rfl,(HS1.o.s0 (mtB (K)))⟩
      rw [<- hv2];clear hv2 HS1;refine (Zal _ _ (by omega)).mono ?_;rintro e v3 ⟨rfl,hb⟩;have HS3:=Zab (HS2.o.below hb);clear hb HS2;obtain⟨d0,d1,d2,d3⟩:=HS3.o.cells;have fz:=HS3.o.frz;go_wp2;clear d0 d1 d2 d3 fz;obtain⟨v4,hv4,HS4⟩:∃ v',v'=(((v3.setCell ⟨b,off+j*4+1,none⟩ (.string (mtB (K+1)))).setCell ⟨b,off+j*4+2,none⟩ (.int .i64 (K+1+1))).setCell ⟨b,off+j*4+3,none⟩ (.int .i64 (K+1+1+1)))/\Hd (Zko wr b (off+j*4) (c j) (c (j+1)) v' ⟨mtB (K),mtB (K+1),K+1+1,K+1+1+1⟩):=⟨_,rfl,(((HS3.o.s1 (mtB (K+1))).s2 (K+1+1)).s3 (K+1+1+1))⟩
      rw [<- hv4];clear hv4 HS3;have HW:Hd (Zt6 Xl[j]=4):=by unfold Hd;rw [<- HXJ.o,<- HXX.o];rfl
      have HQ:Hd ((K+1+1+1+1:Int)=k+(Zej Xl (j+1):Int)):=by
       have h1:=HP.o;have h2:=HW.o;have h3:=HK.o;unfold Hd
       omega
      have HRN:=Zab (HR.o.near hlt HS4.o.near (show Zgq b (off+j*4) (c j) (c (j+1)) v4 (ZtB K x) from ⟨⟨Zb4 _ (by omega),Zb4 _ (by omega)⟩,HS4.o.cells⟩));have HTN:=Zab (HS4.o.near.wide HR.o.lt (lo':=lo) (hi':=hi) (by have:=HBC.o;have:=HR.o.low;omega) (Nat.le_trans (HR.o.le (by omega) Zl_) HR.o.top) ⟨HR.o.low,HR.o.bh⟩);go_roundw
      . 
       refine⟨j+1,by go_num,congrArg (Value.int .i64) HQ.o,by omega,HT.o.trans HTN.o,HRN.o.to (fun i hi'=>?_)⟩
       by_cases e:i=j
       . subst e
         rw [if_pos rfl,if_pos (by omega),<- HK.o,HXX.o]
       . rw [if_neg e]
         by_cases e2:i < j
         . rw [if_pos e2,if_pos (by omega)]
         . rw [if_neg e2,if_neg (by omega)]
      . simp [intOf];omega
    . have e:j=Xl.length:=by omega
      subst e;go_wp2;go_ret;refine⟨rfl,HT.o,Or.inr ⟨b,off,cap,c,fun i=>ZtB (k+(Zej Xl i:Int)) (X i),by rw [ZdV],?_,by rw [ZdV];exact HM.o,by rw [ZdV];exact HC.o,fun i h=>?_,?_⟩⟩
      . intro e
        have:=congrArg List.length e;rw [ZdV] at this;exact HNE.o (List.length_eq_zero_iff.1 (by simpa using this))
      . have h':i < Xl.length:=by rw [ZdV] at h;exact h
        rw [Zqx _ _ _ _ h',<- HX.o i h']
      . rw [ZdV]
        exact HR.o.to (fun i hi'=>by rw [if_pos hi'])
end
open Go.ChangeShapes Go.WideShapes Go.ChangeAt Go.RowKit Go.Deep
variable {fuel:Nat}
theorem Tryz.cells116:prog.cellsOf 116=4:=by kernel_rfl
theorem Tryz.cells35:prog.cellsOf 35=1:=by kernel_rfl
theorem Zup {l:List Value} (h:l.length=4):∃ c0 c1 c2 c3,l=[c0,c1,c2,c3]:=by
 match l,h with
 | [c0,c1,c2,c3],_=>exact⟨c0,c1,c2,c3,rfl⟩
section
variable {H:Type} {enc:TypeId×Value->H} {W:World}
theorem Zr8 {c:Value}{x:DataW H×List MemPlace} (h:DataW.trod enc prog W 0 (fun _=>true) true fuel 35 [c]=some x):∃ L,Zat 0 W c L:=by
 rcases Go.ChangeShapes.open_ints underlying35 underlying3 Tryz.cells3 h with ⟨hcs,_⟩ | ⟨a,len,cap,zs,hcs,_,hl,hm,hzs,_,hcell,_⟩
 . simp only [List.cons.injEq,and_true] at hcs
   exact⟨[],Or.inl ⟨_,_,hcs,rfl⟩⟩
 . simp only [List.cons.injEq,and_true] at hcs
   simp only [if_true] at hzs
   by_cases h0:len=0
   . subst h0
     exact⟨[],Or.inl ⟨_,_,hcs,rfl⟩⟩
   . obtain⟨b,off,spot⟩:=a
     have hspot:spot=none:=by simpa [Addr.add] using World.cell?_spot (hcell 0 (by omega))
     subst hspot;have hlen:(zs.take len).length=len:=by rw [List.length_take];omega
     refine⟨zs.take len,Or.inr ⟨b,off,cap,by rw [hcs,hlen],?_,by omega,?_,Nat.zero_le _,?_⟩⟩
     . intro e;rw [e] at hlen;simp at hlen;omega
     . exact World.block_lt_of_cell? W _ (hcell 0 (by omega))
     . intro i hi
       have:=hcell i (by omega);rw [add_plain] at this;rw [this,List.getElem_take,List.getD_eq_getElem?_getD,List.getElem?_eq_getElem (by omega)]
       rfl
theorem Zr5 {cs:List Value}{x:DataW H×List MemPlace} (h:DataW.trod enc prog W 0 (fun _=>true) true fuel 116 cs=some x) :
 ∃ (r:Ru) (vv:Value),cs=[vv,.string r.kd,.string r.tm,.string r.pf]/\Zat 0 W vv r.vb/\Zhx r:=by
 obtain⟨xs,n,_,_,hl,hlen,hfld⟩:=DataW.trod_struct underlying116 h;obtain⟨c0,c1,c2,c3,rfl⟩:=Zup (hl.trans Tryz.cells116);simp only [Array.size,List.length_cons,List.length_nil] at hlen;have g0:DataW.trod enc prog W 0 (fun _=>true) true n 35 ((([c0,c1,c2,c3]:List Value).drop 0).take (prog.cellsOf 35))=xs[0]?:=hfld 0 _ rfl;have g1:DataW.trod enc prog W 0 (fun _=>true) true n 9 ((([c0,c1,c2,c3]:List Value).drop 1).take (prog.cellsOf 9))=xs[1]?:=hfld 1 _ rfl;have g2:DataW.trod enc prog W 0 (fun _=>true) true n 9 ((([c0,c1,c2,c3]:List Value).drop 2).take (prog.cellsOf 9))=xs[2]?:=hfld 2 _ rfl;have g3:DataW.trod enc prog W 0 (fun _=>true) true n 9 ((([c0,c1,c2,c3]:List Value).drop 3).take (prog.cellsOf 9))=xs[3]?:=hfld 3 _ rfl
 simp only [Tryz.cells9,Tryz.cells35,List.drop_succ_cons,List.drop_zero,List.take_succ_cons,List.take_zero] at g0 g1 g2 g3;rw [List.getElem?_eq_getElem (by omega)] at g0 g1 g2 g3;obtain⟨L,hL⟩:=Zr8 g0;obtain⟨k,e1,_,s1⟩:=DataW.trod_string underlying9 g1;obtain⟨t,e2,_,s2⟩:=DataW.trod_string underlying9 g2;obtain⟨p,e3,_,s3⟩:=DataW.trod_string underlying9 g3;simp only [List.cons.injEq,and_true] at e1 e2 e3;subst e1 e2 e3;exact⟨⟨L,k,t,p⟩,c0,rfl,hL,⟨s1,s2,s3⟩⟩
end
end Go.Proofs.YtmappejlmapboaaGreat
