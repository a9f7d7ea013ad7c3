import Derived.Test.YtbdhbihhgfpnnaaGreatV07
import Derived.Test.YtbdhbihhgfpnnaaGreatV09
import Derived.RangeFuncNested
import Derived.RangeFuncBound
import Derived.RangeFuncCalls
import Derived.RangeFuncLeaves
import Derived.Shelf.Abstract
import Derived.Shelf.RegionOpen
import Derived.OwnWalkIn
import Derived.TacticsInMore
import Derived.LoopNIn
import Derived.LoopIn
set_option maxHeartbeats 16000000
set_option maxRecDepth 100000
open Go.Proofs.Tryz
namespace Go.Proofs.YtbdhbihhgfpnnaaGreat
section
open Go.RowKit Go.Deep
theorem Ze8 (lo:Nat) (v:Value) (Ts:List Tm) (w:World) (hv:ZaZ lo w v Ts) :
 Calls prog 67 #[v] w fun e w'=>e=.returned (.bool (Za5 Ts))/\Zw_ w w':=by
 by_cases h12:¬ Ts.length<=12
 . have HR:=Zab (ZjV h12)
   have hmx:=hv.max;unfold maxLen at hmx;obtain⟨a,cap,rfl⟩:=hv.form;go_enter func67,ntmps67;go_wp2;go_ret;exact⟨Zaa HR.o.symm,Below.refl _ _⟩
 replace h12:Ts.length<=12:=by omega
 by_cases hL:Ts=[]
 . subst hL
   obtain⟨a,cap,rfl⟩:=hv.form;clear hv;go_enter func67,ntmps67;go_wp2
   go_loop [10] (fun i=>i=.int .i64 0) (fun _=>0)
   case atStart=>rfl
   case round=>
    subst hrel;go_wp2;go_ret;exact⟨Zaa (by rfl),Below.refl _ _⟩
 . have HV:=Zab hv
   obtain⟨b,off,cap,rfl,hm,hbw,_,hc⟩:=hv.full hL;clear hv hm;have H12:=Zab h12;have h12i:decide ((12:Int) < (Ts.length:Int))=false:=by simp;omega
   go_enter func67,ntmps67;go_wp2
   go_loopw [10] (fun i wr=>∃ k:Nat,i=.int .i64 k/\k<=Ts.length/\Zw_ w wr/\∀ i,i < k->Zc3 Ts i=true) (fun i _=>Ts.length - (intOf i).toNat)
   case atStart=>exact⟨0,rfl,by omega,Below.refl _ _,fun i h=>by omega⟩
   case round=>
    obtain⟨k,rfl,hk,hb,hall⟩:=hrel;have HA:=Zab hall;have HB:=Zab hb;clear hall hb
    by_cases hlt:k < Ts.length
    . obtain⟨hsz,hcell⟩:=hc k hlt
      have HSZ:=Zab hsz;obtain⟨c0,c1⟩:=hcell.below HB.o hbw;clear hcell hsz
      cases hn:Zan Ts[k].nm with
      | false=>
       go_wp2
       go_quiet ((go_at_call 68;exact (Zak _ _ HSZ.o.s0).mono fun _ _ h=>⟨h.1,_,h.2⟩))
       go_wp2;go_ret;exact⟨Zaa (Zbk hlt (by rw [ZaD hlt];simp [hn])).symm,below_drewN (HB.o.alloc HB.o.size _) _⟩
      | true=>
       cases k with
       | zero=>
        have c0:wr.cell? ⟨b,off,none⟩=some (.string Ts[0].nm):=by simpa using c0
        have c1:wr.cell? ⟨b,off+1,none⟩=some (.string Ts[0].ov):=by simpa using c1
        go_wp2
        go_quiet ((go_at_call 68;exact (Zak _ _ HSZ.o.s0).mono fun _ _ h=>⟨h.1,_,h.2⟩))
        try simp only [hn]
        generalize hWb:World.drewN _ _=Wb;have HBX:Hd (Box Wb wr.heap.size #[.string Ts[0].nm,.string Ts[0].ov]):=by rw [<- hWb];exact (Box.new _ _ _ _ rfl).on (below_drewN Zb_ _)
        have HBB:Hd (Zw_ w Wb):=by rw [<- hWb];exact below_drewN (HB.o.alloc HB.o.size _) _
        clear hWb;have b0:Wb.cell? ⟨wr.heap.size,0,none⟩=some (.string Ts[0].nm):=HBX.o.cell 0;have b1:Wb.cell? ⟨wr.heap.size,1,none⟩=some (.string Ts[0].ov):=HBX.o.cell 1
        cases hoe:Ts[0].ov.toList.isEmpty with
        | true=>
         go_wp2_with fail;refine (ZdL lo _ Ts Ts[0].nm _ (HV.o.below HBB.o)).mono ?_;rintro e w2 ⟨rfl,hb2⟩;have HB2:Hd (Zw_ w w2):=HBB.o.trans (hb2.mono HBB.o.size);clear hb2 HBB HBX b0 b1
         cases hd:ZaV Ts 5 Ts[0].nm with
         | true=>
          have HR:Hd (Za5 Ts=false):=Zbk hlt (by rw [ZaD hlt,hd];simp);go_wp2;go_ret;exact⟨Zaa HR.o.symm,HB2.o⟩
         | false=>
          have HOK:Hd (∀ i,i < 0+1->Zc3 Ts i=true):=fun i hi=>by
           by_cases e:i=0
           . subst e;rw [ZaD hlt,hd];simp [hn,hoe]
           . exact HA.o i (by omega)
          go_wp2;go_roundw
          . exact⟨0+1,by go_num,by omega,HB2.o,HOK.o⟩
          . simp [intOf];omega
        | false=>
         go_wp2_with fail;refine (Zch lo _ Ts Ts[0].ov _ (HV.o.below HBB.o)).mono ?_;rintro e w1 ⟨rfl,hb1⟩;have HBX:=Zab (HBX.o.on hb1);have HBB:Hd (Zw_ w w1):=HBB.o.trans (hb1.mono HBB.o.size);clear hb1 b0 b1;have b0:w1.cell? ⟨wr.heap.size,0,none⟩=some (.string Ts[0].nm):=HBX.o.cell 0;have b1:w1.cell? ⟨wr.heap.size,1,none⟩=some (.string Ts[0].ov):=HBX.o.cell 1
         by_cases hp:plT Ts Ts[0].ov < Ts.length
         . have hht:Zfp Ts Ts[0].ov=true:=by rw [Zgy];exact decide_eq_true hp
           rw [ZgO hp];clear hp;generalize plT Ts Ts[0].ov=pp;go_wp2_with fail;refine (ZdL lo _ Ts Ts[0].nm _ (HV.o.below HBB.o)).mono ?_;rintro e w2 ⟨rfl,hb2⟩;have HB2:Hd (Zw_ w w2):=HBB.o.trans (hb2.mono HBB.o.size);clear hb2 HBB HBX b0 b1
           cases hd:ZaV Ts 5 Ts[0].nm with
           | true=>
            have HR:Hd (Za5 Ts=false):=Zbk hlt (by rw [ZaD hlt,hd];simp);go_wp2;go_ret;exact⟨Zaa HR.o.symm,HB2.o⟩
           | false=>
            have HOK:Hd (∀ i,i < 0+1->Zc3 Ts i=true):=fun i hi=>by
             by_cases e:i=0
             . subst e;rw [ZaD hlt,hd];simp [hn,hoe,hht]
             . exact HA.o i (by omega)
            go_wp2;go_roundw
            . exact⟨0+1,by go_num,by omega,HB2.o,HOK.o⟩
            . simp [intOf];omega
         . have hht:Zfp Ts Ts[0].ov=false:=by rw [Zgy];exact decide_eq_false hp
           have HR:Hd (Za5 Ts=false):=Zbk hlt (by rw [ZaD hlt,hht,hoe];simp);rw [ZgN hp];clear hp;go_wp2;go_ret;exact⟨Zaa HR.o.symm,HBB.o⟩
       | succ j=>
        have HBE:Hd (((Ts[j+1 - 1]?.map Tm.nm).getD ⟨#[]⟩)=Ts[j].nm):=ZiZ hlt;have hcj:wr.cell? ⟨b,off+j*2,none⟩=some (.string Ts[j].nm):=by rw [HB.o.cell (p:=⟨b,_,none⟩) hbw];exact (hc j (by omega)).2.c0
        have hjw:IntKind.i64.wrap (j:Int)=j:=by rw [IntKind.wrap_i64];omega
        have hjl:j < Ts.length:=by omega
        have hdl:decide ((j:Int)+1 < (Ts.length:Int))=true:=by simp;omega
        have hbo:b < wr.heap.size:=Zk_ hbw HB.o.size
        have cj2:∀ o,(wr.alloc o).cell? ⟨b,off+j*2,none⟩=some (.string Ts[j].nm):=fun o=>by rw [((Below.refl wr.heap.size wr).alloc Zl_ o).cell (p:=⟨b,_,none⟩) hbo];exact hcj
        have cj3:∀ o n,((wr.alloc o).drewN n).cell? ⟨b,off+j*2,none⟩=some (.string Ts[j].nm):=fun o n=>cj2 o
        cases hls:Op.bytesLess Ts[j].nm.toList Ts[j+1].nm.toList with
        | false=>
         go_wp2
         go_quiet ((go_at_call 68;exact (Zak _ _ HSZ.o.s0).mono fun _ _ h=>⟨h.1,_,h.2⟩))
         go_wp2;go_ret;exact⟨Zaa (Zbk hlt (by rw [ZaD hlt];rw [HBE.o,hls];simp)).symm,below_drewN (HB.o.alloc HB.o.size _) _⟩
        | true=>
         go_wp2
         go_quiet ((go_at_call 68;exact (Zak _ _ HSZ.o.s0).mono fun _ _ h=>⟨h.1,_,h.2⟩))
         try simp only [hn]
         try simp only [hls]
         generalize hWb:World.drewN _ _=Wb;have HBX:Hd (Box Wb wr.heap.size #[.string Ts[j+1].nm,.string Ts[j+1].ov]):=by rw [<- hWb];exact (Box.new _ _ _ _ rfl).on (below_drewN Zb_ _)
         have HBB:Hd (Zw_ w Wb):=by rw [<- hWb];exact below_drewN (HB.o.alloc HB.o.size _) _
         clear hWb;have b0:Wb.cell? ⟨wr.heap.size,0,none⟩=some (.string Ts[j+1].nm):=HBX.o.cell 0;have b1:Wb.cell? ⟨wr.heap.size,1,none⟩=some (.string Ts[j+1].ov):=HBX.o.cell 1
         cases hoe:Ts[j+1].ov.toList.isEmpty with
         | true=>
          go_wp2_with fail;refine (ZdL lo _ Ts Ts[j+1].nm _ (HV.o.below HBB.o)).mono ?_;rintro e w2 ⟨rfl,hb2⟩;have HB2:Hd (Zw_ w w2):=HBB.o.trans (hb2.mono HBB.o.size);clear hb2 HBB HBX b0 b1
          cases hd:ZaV Ts 5 Ts[j+1].nm with
          | true=>
           have HR:Hd (Za5 Ts=false):=Zbk hlt (by rw [ZaD hlt,hd];simp);go_wp2;go_ret;exact⟨Zaa HR.o.symm,HB2.o⟩
          | false=>
           have HOK:Hd (∀ i,i < j+1+1->Zc3 Ts i=true):=fun i hi=>by
            by_cases e:i=j+1
            . subst e;rw [ZaD hlt,hd];rw [HBE.o,hls];simp [hn,hoe]
            . exact HA.o i (by omega)
           go_wp2;go_roundw
           . exact⟨j+1+1,by go_num,by omega,HB2.o,HOK.o⟩
           . simp [intOf];omega
         | false=>
          go_wp2_with fail;refine (Zch lo _ Ts Ts[j+1].ov _ (HV.o.below HBB.o)).mono ?_;rintro e w1 ⟨rfl,hb1⟩;have HBX:=Zab (HBX.o.on hb1);have HBB:Hd (Zw_ w w1):=HBB.o.trans (hb1.mono HBB.o.size);clear hb1 b0 b1;have b0:w1.cell? ⟨wr.heap.size,0,none⟩=some (.string Ts[j+1].nm):=HBX.o.cell 0;have b1:w1.cell? ⟨wr.heap.size,1,none⟩=some (.string Ts[j+1].ov):=HBX.o.cell 1
          by_cases hp:plT Ts Ts[j+1].ov < Ts.length
          . have hht:Zfp Ts Ts[j+1].ov=true:=by rw [Zgy];exact decide_eq_true hp
            rw [ZgO hp];clear hp;generalize plT Ts Ts[j+1].ov=pp;go_wp2_with fail;refine (ZdL lo _ Ts Ts[j+1].nm _ (HV.o.below HBB.o)).mono ?_;rintro e w2 ⟨rfl,hb2⟩;have HB2:Hd (Zw_ w w2):=HBB.o.trans (hb2.mono HBB.o.size);clear hb2 HBB HBX b0 b1
            cases hd:ZaV Ts 5 Ts[j+1].nm with
            | true=>
             have HR:Hd (Za5 Ts=false):=Zbk hlt (by rw [ZaD hlt,hd];simp);go_wp2;go_ret;exact⟨Zaa HR.o.symm,HB2.o⟩
            | false=>
             have HOK:Hd (∀ i,i < j+1+1->Zc3 Ts i=true):=fun i hi=>by
              by_cases e:i=j+1
              . subst e;rw [ZaD hlt,hd];rw [HBE.o,hls];simp [hn,hoe,hht]
              . exact HA.o i (by omega)
             go_wp2;go_roundw
             . exact⟨j+1+1,by go_num,by omega,HB2.o,HOK.o⟩
             . simp [intOf];omega
          . have hht:Zfp Ts Ts[j+1].ov=false:=by rw [Zgy];exact decide_eq_false hp
            have HR:Hd (Za5 Ts=false):=Zbk hlt (by rw [ZaD hlt,hht,hoe];simp);rw [ZgN hp];clear hp;go_wp2;go_ret;exact⟨Zaa HR.o.symm,HBB.o⟩
    . have HR:Hd (Za5 Ts=true):=ZjW H12.o (by omega) HA.o
      go_wp2;go_ret;exact⟨Zaa HR.o.symm,HB.o⟩
end
open Go.RowKit Go.Deep Go.Shelf
variable {B:Nat} {W W':World}
attribute [local go_sem] Oper.semAt_some
theorem Zhd {w w':World} (h:Zw_ w w'):w.grownBy w' none:=
 ⟨h.os,h.tape,h.output,h.size,fun k hk _=>h.block k hk⟩
theorem Zbo {β:Type}{J:β->World->Prop} (h:AbidesFrom B J) {s:β} {W W':World} (hs:J s W) (hb:Below W.heap.size W W'):J s W':=
 h s W W' none hs (Zhd hb) (fun r e=>by cases e)
structure ZaR (S:Nat->Prop) (B:Nat) (W W':World):Prop where
 os:W'.os=W.os
 tape:W'.tape=W.tape
 output:W'.output=W.output
 size:W.heap.size<=W'.heap.size
 same:∀ k o,W.heap[k]?=some o->¬ S k->(o.isCells=true\/k < B)->W'.heap[k]?=some o
theorem ZaR.refl (S:Nat->Prop) (B:Nat) (W:World):ZaR S B W W:=⟨rfl,rfl,rfl,Nat.le_refl _,fun _ _ h _ _=>h⟩
theorem ZaR.trans {S:Nat->Prop}{W'':World} (h:ZaR S B W W') (k:ZaR S B W' W''):ZaR S B W W'':=
 ⟨k.os.trans h.os,k.tape.trans h.tape,k.output.trans h.output,Nat.le_trans h.size k.size,fun i o hi hs ho=>k.same i o (h.same i o hi hs ho) hs ho⟩
theorem ZaR.put {S:Nat->Prop}{w:World} (W:World) (l:Nat) (o o':Obj) (hl:w.heap.size<=l) (h:W.heap[l]?=some o) (hc:o.isCells=false) (_:o.isWalk=false):ZaR S w.heap.size W (W.putObj l o'):=by
 have hg:=grownBy_putObj' W l o';refine⟨hg.os,hg.tape,hg.output,hg.size,fun k x hk _ hx=>?_⟩
 by_cases e:k=l
 . subst e
   rw [h] at hk
   cases hk
   rcases hx with hx | hx
   . rw [hc] at hx;cases hx
   . omega
 . rw [hg.block k (Array.getElem?_eq_some_iff.1 hk).1 (fun e'=>e (Option.some.inj e'))]
   exact hk
theorem ZaR.below {S:Nat->Prop}{m:Nat} (h:ZaR S B W W') (hm:m<=W.heap.size) (hS:∀ k,k < m->¬ S k) (hB:m<=B):Below m W W':=by
 refine⟨h.os,h.tape,h.output,h.size,fun k hk=>?_⟩;have hlt:k < W.heap.size:=Zk_ hk hm
 rw [Array.getElem?_eq_getElem hlt];exact h.same k _ (Array.getElem?_eq_getElem hlt) (hS k hk) (Or.inr (Zk_ hk hB))
theorem ZaR.cell {S:Nat->Prop}{p:Addr}{v:Value} (h:ZaR S B W W') (hc:W.cell? p=some v) (hS:¬ S p.block):W'.cell? p=some v:=by
 obtain⟨o,ho,hc'⟩:=cells_of_cell hc;exact (World.cell?_of_block ((h.same _ o ho hS (Or.inl hc')).trans ho.symm)).trans hc
def ZaY (Fs:List Fd) (V:List Zy_):Nat->List (Zy_×Int)
 | 0=>[]
 | k+1=>ZaY Fs V k ++ (match Fs[k]?,V[k]? with | some f,some s=>if (f.kd == 1&&!f.we.toList.isEmpty)=true then [(f.we,Zaq s)] else [] | _,_=>[])
theorem Zg5 {Fs:List Fd}{V:List Zy_}{k:Nat} (hf:k < Fs.length) (hv:k < V.length):ZaY Fs V (k+1)=ZaY Fs V k ++ (if (Fs[k].kd == 1&&!Fs[k].we.toList.isEmpty)=true then [(Fs[k].we,Zaq V[k])] else []):=by
 rw [ZaY];simp [hf,hv]
theorem Zfs (Fs:List Fd) (V:List Zy_) (k:Nat):(ZaY Fs V k).length<=k:=by
 induction k with
 | zero=>simp [ZaY]
 | succ k ih=>
  rw [ZaY,List.length_append]
  split
  . split
    . simp;omega
    . simp;omega
  . simp;omega
def Zdh (kind:Zy_):List (Zy_×Int):=if kind.toList.isEmpty=true then [] else [(kind,1)]
def Zec (Ss:List Sh) (kind:Zy_) (V:List Zy_):List (Zy_×Int):=
 match Zci Ss kind with
 | some x=>if x.fields.length=V.length then Zdh kind ++ ZaY x.fields V V.length else []
 | none=>[]
theorem ZiO {Ss:List Sh}{kind:Zy_}{V:List Zy_} (h:∀ x,Zci Ss kind=some x->x.fields.length≠V.length):Zec Ss kind V=[]:=by
 unfold Zec
 cases hs:Zci Ss kind with
 | none=>rfl
 | some x=>simp [h x hs]
theorem Zj2 {Ss:List Sh}{kind:Zy_}{V:List Zy_}{x:Sh} (h:Zci Ss kind=some x) (hl:x.fields.length=V.length):Zec Ss kind V=Zdh kind ++ ZaY x.fields V V.length:=by
 unfold Zec;rw [h];simp [hl]
def ZmY (r:Zy_) (L:List (Zy_×Int)):Int:=(L.map fun p=>if (p.1.toList == r.toList)=true then p.2 else 0).sum
theorem rsum_nil (r:Zy_):ZmY r []=0:=rfl
theorem ZeP (r:Zy_) (A B:List (Zy_×Int)):ZmY r (A ++ B)=ZmY r A+ZmY r B:=by simp [ZmY]
theorem Zgb (r:Zy_) (p:Zy_×Int):ZmY r [p]=if (p.1.toList == r.toList)=true then p.2 else 0:=by simp [ZmY]
theorem Zmq {r:Zy_} (hr:r.toList.isEmpty=false) (Fs:List Fd) (V:List Zy_) (k:Nat):ZmY r (ZaY Fs V k)=Zeq r Fs V k:=by
 induction k with
 | zero=>rfl
 | succ k ih=>
  rw [ZaY,Zeq,ZeP,ih]
  congr 1
  generalize Fs[k]?=fo;generalize V[k]?=so
  cases fo with
  | none=>rfl
  | some f=>
   cases so with
   | none=>rfl
   | some s=>
    dsimp only;unfold Zp7
    cases h1:(f.kd == 1) with
    | false=>simp [rsum_nil]
    | true=>
     cases h2:f.we.toList.isEmpty with
     | false=>simp [Zgb]
     | true=>
      have:(f.we.toList == r.toList)=false:=by
       rw [List.isEmpty_iff.1 h2]
       cases hq:r.toList with
       | nil=>rw [hq] at hr;simp at hr
       | cons _ _=>rfl
      simp [rsum_nil,this]
theorem Zmp {r:Zy_} (hr:r.toList.isEmpty=true) (Fs:List Fd) (V:List Zy_) (k:Nat):ZmY r (ZaY Fs V k)=0:=by
 induction k with
 | zero=>rfl
 | succ k ih=>
  rw [ZaY,ZeP,ih]
  split
  . rename_i f s _ _
    cases h2:f.we.toList.isEmpty with
    | true=>simp [rsum_nil]
    | false=>
     have:(f.we.toList == r.toList)=false:=by
      rw [List.isEmpty_iff.1 hr]
      cases hq:f.we.toList with
      | nil=>rw [hq] at h2;simp at h2
      | cons _ _=>rfl
     split
     . simp [Zgb,this]
     . simp [rsum_nil]
  . simp [rsum_nil]
theorem Zmr (Ss:List Sh) (kind:Zy_) (V:List Zy_) (r:Zy_):ZmY r (Zec Ss kind V)=Zdu Ss kind V r:=by
 by_cases hn:∀ x,Zci Ss kind=some x->x.fields.length≠V.length
 . rw [ZiO hn,Zlt hn];rfl
 . obtain⟨x,hx,hl⟩:∃ x,Zci Ss kind=some x/\x.fields.length=V.length:=Classical.byContradiction fun h=>hn fun x hx hl=>h ⟨x,hx,hl⟩
   rw [Zj2 hx hl,ZeP]
   cases hr:r.toList.isEmpty with
   | true=>
    rw [Zj0 hr,Zmp hr];unfold Zdh
    cases hk:kind.toList.isEmpty with
    | true=>rfl
    | false=>
     have:(kind.toList == r.toList)=false:=by
      rw [List.isEmpty_iff.1 hr]
      cases hq:kind.toList with
      | nil=>rw [hq] at hk;simp at hk
      | cons _ _=>rfl
     simp [Zgb,this]
   | false=>
    rw [Zj1 hx hl hr,Zmq hr]
    congr 1
    unfold Zdh
    cases hk:kind.toList.isEmpty with
    | true=>
     have:(r.toList == kind.toList)=false:=by
      rw [List.isEmpty_iff.1 hk]
      cases hq:r.toList with
      | nil=>rw [hq] at hr;simp at hr
      | cons _ _=>rfl
     simp [rsum_nil,this]
    | false=>
     simp only [Bool.false_eq_true,if_false,Zgb]
     by_cases h:kind.toList=r.toList
     . simp [h]
     . have h':¬ r.toList=kind.toList:=fun e=>h e.symm
       simp [h,h']
section
variable (lo:Nat) (sv:Value) (Ss:List Sh) (kind nm team:Zy_) (vv hv:Value) (en:Bool) (ver:Int) (V Ho:List Zy_) (w:World)
theorem ZmQ (F:Fence) (n:Nat) (hf:F.fn 211) (hro:F.round=none) (a:Option Addr) (ln cap:Nat) (va:Option Addr) (vn vcap:Nat) (ha:Option Addr) (hn hcap:Nat) :
 CallsIn F n prog 211 #[.slice a ln cap,.agg #[.string kind,.string nm,.string team,.slice va vn vcap,.bool en,.slice ha hn hcap,.int .i64 ver]] w
  fun e w'=>e=.returned (.func (.func 245) #[] #[.pointer (some ⟨w.heap.size,0,none⟩),.pointer (some ⟨w.heap.size+1,0,none⟩)])/\
   w'=(w.alloc (.cells #[.slice a ln cap] 68)).alloc (.cells #[.string kind,.string nm,.string team,.slice va vn vcap,.bool en,.slice ha hn hcap,.int .i64 ver] 126):=by
 refine callsIn_of_wp func211 rfl hf ?_ hro;simp only [ntmps211,List.size_toArray,List.length_cons,List.length_nil,Nat.reduceAdd,Nat.reduceSub,Array.replicate_succ,Array.replicate_zero,List.push_toArray,List.append_toArray,List.nil_append,List.cons_append]
 gi_wp2
 go_ret;exact⟨rfl,rfl⟩
end
end Go.Proofs.YtbdhbihhgfpnnaaGreat
