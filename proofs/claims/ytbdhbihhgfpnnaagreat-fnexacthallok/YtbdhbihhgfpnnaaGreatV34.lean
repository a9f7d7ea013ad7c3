import Derived.Test.YtbdhbihhgfpnnaaGreatV31
import Derived.Test.YtbdhbihhgfpnnaaGreatV32
import Derived.Test.YtbdhbihhgfpnnaaGreatV33
import Derived.Maps.OwnSet
import Derived.WalkSmall
set_option maxHeartbeats 16000000
set_option maxRecDepth 100000
open Go.Proofs.Tryz
namespace Go.Proofs.YtbdhbihhgfpnnaaGreat
section
open Go.RowKit Go.Deep Go.Maps
variable {Os:List Ob}
theorem Zae.max' {w:World}{v:Value}{L:List Zy_} (h:Zae w v L):L.length<=maxLen:=by
 rcases h with ⟨_,_,_,rfl⟩ | ⟨b,off,cap,_,_,h3,_⟩
 . exact Nat.zero_le _
 . exact h3
theorem ZkN (v v':Value) (A C:List Zy_) (w:World) (hA:Zae w v A) (hC:Zae w v' C) :
 Calls prog 206 #[v,v'] w fun e w'=>e=.returned (.bool (decide (A=C)))/\Zw_ w w':=by
 have HA:=Zab hA;have HC:=Zab hC;obtain⟨a,cap,rfl⟩:=hA.form';obtain⟨c,ccap,rfl⟩:=hC.form';have hm:=hA.max';unfold maxLen at hm;clear hA hC
 by_cases hl:A.length=C.length
 case neg=>
  have HE:Hd (decide (A=C)=false):=decide_eq_false (fun e=>hl (by rw [e]));have hne:((A.length:Int) != (C.length:Int))=true:=by simp;omega
  go_enter func206,ntmps206;go_wp2;go_ret;exact⟨Zaa HE.o.symm,Below.refl _ _⟩
 have hne:((A.length:Int) != (C.length:Int))=false:=by rw [hl];simp
 have HLEN:=Zab hl;clear hl;go_enter func206,ntmps206;go_wp2
 go_loopw [13] (fun i wr=>∃ k:Nat,i=.int .i64 k/\k<=A.length/\Zw_ w wr/\∀ j (h:j < A.length) (h':j < C.length),j < k->A[j]=C[j]) (fun i _=>A.length - (intOf i).toNat)
 case atStart=>exact⟨0,rfl,Nat.zero_le _,Below.refl _ _,fun j _ _ h=>by omega⟩
 case round=>
  obtain⟨k,rfl,hk,hb,hall⟩:=hrel;have HB:=Zab hb;have HL:=Zab hall;clear hb hall
  by_cases hlt:k < A.length
  . have hlc:k < C.length:=by have:=HLEN.o;omega
    obtain⟨ab,aoff,rfl,hab,hac,-⟩:=HA.o.spread (by omega);obtain⟨cb,coff,rfl,hcb,hcc,-⟩:=HC.o.spread (by omega);have ca:wr.cell? ⟨ab,aoff+k,none⟩=some (.string A[k]):=(HB.o.cell (p:=⟨ab,aoff+k,none⟩) hab).trans (hac k hlt);have cc:wr.cell? ⟨cb,coff+k,none⟩=some (.string C[k]):=(HB.o.cell (p:=⟨cb,coff+k,none⟩) hcb).trans (hcc k hlc);have hkc:(k:Int) < (C.length:Int):=by omega
    clear hac hcc
    cases hq:(A[k].toList == C[k].toList) with
    | true=>
     have HT:Hd (A[k]=C[k]):=ZaI.1 hq;go_wp2
     go_quiet (fail)
     go_wp2;go_roundw
     case rel=>exact⟨k+1,by go_num,by omega,below_drewN HB.o _,fun j hj hj' hjk=>by
                by_cases e:j=k
                . subst e;exact HT.o
                . exact HL.o j hj hj' (by omega)⟩
     . simp [intOf];omega
    | false=>
     have HN:Hd (decide (A=C)=false):=decide_eq_false (fun e=>Ze0.1 hq (by simp [e]));go_wp2
     go_quiet (fail)
     go_wp2;go_ret;exact⟨Zaa HN.o.symm,below_drewN HB.o _⟩
  . have HT:Hd (decide (A=C)=true):=decide_eq_true (List.ext_getElem HLEN.o (fun i h1 h2=>HL.o i h1 h2 (by omega)))
    go_wp2;go_ret;exact⟨Zaa HT.o.symm,HB.o⟩
theorem ZiD (v v':Value) (A C:List Zy_) (w:World) (hA:Zae w v A) (hC:Zae w v' C) :
 Calls prog 101 #[v,v'] w fun e w'=>e=.returned (.bool (decide (A=C)))/\Zw_ w w':=by
 have HA:=Zab hA;have HC:=Zab hC;obtain⟨a,cap,rfl⟩:=hA.form';obtain⟨c,ccap,rfl⟩:=hC.form';have hm:=hA.max';unfold maxLen at hm;clear hA hC
 by_cases hl:A.length=C.length
 case neg=>
  have HE:Hd (decide (A=C)=false):=decide_eq_false (fun e=>hl (by rw [e]));have hne:((A.length:Int) != (C.length:Int))=true:=by simp;omega
  go_enter func101,ntmps101;go_wp2;go_ret;exact⟨Zaa HE.o.symm,Below.refl _ _⟩
 have hne:((A.length:Int) != (C.length:Int))=false:=by rw [hl];simp
 have HLEN:=Zab hl;clear hl;go_enter func101,ntmps101;go_wp2
 go_loopw [5] (fun i wr=>∃ k:Nat,i=.int .i64 k/\k<=A.length/\Zw_ w wr/\∀ j (h:j < A.length) (h':j < C.length),j < k->A[j]=C[j]) (fun i _=>A.length - (intOf i).toNat)
 case atStart=>exact⟨0,rfl,Nat.zero_le _,Below.refl _ _,fun j _ _ h=>by omega⟩
 case round=>
  obtain⟨k,rfl,hk,hb,hall⟩:=hrel;have HB:=Zab hb;have HL:=Zab hall;clear hb hall
  by_cases hlt:k < A.length
  . have hlc:k < C.length:=by have:=HLEN.o;omega
    obtain⟨ab,aoff,rfl,hab,hac,-⟩:=HA.o.spread (by omega);obtain⟨cb,coff,rfl,hcb,hcc,-⟩:=HC.o.spread (by omega);have ca:wr.cell? ⟨ab,aoff+k,none⟩=some (.string A[k]):=(HB.o.cell (p:=⟨ab,aoff+k,none⟩) hab).trans (hac k hlt);have cc:wr.cell? ⟨cb,coff+k,none⟩=some (.string C[k]):=(HB.o.cell (p:=⟨cb,coff+k,none⟩) hcb).trans (hcc k hlc);have hkc:(k:Int) < (C.length:Int):=by omega
    clear hac hcc
    cases hq:(A[k].toList == C[k].toList) with
    | true=>
     have HT:Hd (A[k]=C[k]):=ZaI.1 hq;go_wp2
     go_quiet (fail)
     go_wp2;go_roundw
     case rel=>exact⟨k+1,by go_num,by omega,below_drewN HB.o _,fun j hj hj' hjk=>by
                by_cases e:j=k
                . subst e;exact HT.o
                . exact HL.o j hj hj' (by omega)⟩
     . simp [intOf];omega
    | false=>
     have HN:Hd (decide (A=C)=false):=decide_eq_false (fun e=>Ze0.1 hq (by simp [e]));go_wp2
     go_quiet (fail)
     go_wp2;go_ret;exact⟨Zaa HN.o.symm,below_drewN HB.o _⟩
  . have HT:Hd (decide (A=C)=true):=decide_eq_true (List.ext_getElem HLEN.o (fun i h1 h2=>HL.o i h1 h2 (by omega)))
    go_wp2;go_ret;exact⟨Zaa HT.o.symm,HB.o⟩
def Zga (k n:Zy_) (x:Ob):Bool:=x.kd.toList == k.toList&&x.nm.toList == n.toList
def obP (Os:List Ob) (k n:Zy_):Int:=if Os.findIdx (Zga k n) < Os.length then (Os.findIdx (Zga k n):Int) else -1
theorem Zrd {k n:Zy_}{i:Nat} (hi:i < Os.length) (h:Zga k n Os[i]=true) (hall:∀ j (h:j < Os.length),j < i->Zga k n Os[j]=false):obP Os k n=i:=by
 have e:Os.findIdx (Zga k n)=i:=by
  rw [List.findIdx_eq hi];exact⟨h,fun j hj=>hall j (by omega) hj⟩
 unfold obP;rw [e,if_pos hi]
theorem Zse {k n:Zy_} (hall:∀ j (h:j < Os.length),Zga k n Os[j]=false):obP Os k n= -1:=by
 have e:Os.findIdx (Zga k n)=Os.length:=by
  rw [List.findIdx_eq_length];intro x hx;obtain⟨i,hi,rfl⟩:=List.getElem_of_mem hx;exact hall i hi
 unfold obP;rw [e,if_neg (Nat.lt_irrefl _)]
theorem Zrc (Os:List Ob) (k n:Zy_):decide (obP Os k n < 0)=!Os.any (Zga k n):=by
 unfold obP
 cases h:Os.any (Zga k n) with
 | true=>
  obtain⟨x,hx,hp⟩:=List.any_eq_true.1 h;rw [if_pos (List.findIdx_lt_length_of_exists ⟨x,hx,hp⟩)];simp
 | false=>
  have e:Os.findIdx (Zga k n)=Os.length:=List.findIdx_eq_length.2 (fun x hx=>by
   have:=List.any_eq_false.1 h x hx
   simpa using this)
  rw [e,if_neg (Nat.lt_irrefl _)]
  rfl
section
variable (lo:Nat) (ov gv lv pv:Value) (B:Bk) (t r:Zy_) (w:World)
theorem Zf7 (h:Za2 lo w ov gv lv pv B) :
 Calls prog 104 #[.agg #[.int .i64 B.now,.int .i64 B.tick,.int .i64 B.given,ov,gv,lv,pv],.string t,.string r] w fun e w'=>e=.returned (.int .i64 (obP B.os t r))/\Zw_ w w':=by
 have HL:=Zab h.obs;have hm:=h.obs.max;unfold maxLen at hm;obtain⟨a0,k0,rfl⟩:=h.obs.form;obtain⟨a1,k1,rfl⟩:=h.grs.form;obtain⟨a2,k2,rfl⟩:=h.les.form;obtain⟨a3,k3,rfl⟩:=h.pus.form;clear h;go_enter func104,ntmps104;go_wp2_with fail;generalize hWa:w.alloc _=Wa;have HB:Hd (Zw_ w Wa):=by rw [<- hWa];exact Zac w _
 have HX:Hd (Box Wa w.heap.size #[.int .i64 B.now,.int .i64 B.tick,.int .i64 B.given,.slice a0 B.os.length k0,.slice a1 B.gs.length k1,.slice a2 B.ls.length k2,.slice a3 B.ps.length k3]):=by rw [<- hWa];exact Box.new _ _ _ _ rfl
 clear hWa;have x5:=HX.o.cell 3;simp at x5
 go_loop [7] (fun i=>∃ k:Nat,i=.int .i64 k/\k<=B.os.length/\∀ j (h:j < B.os.length),j < k->Zga t r B.os[j]=false) (fun i=>B.os.length - (intOf i).toNat)
 case atStart=>exact⟨0,rfl,Nat.zero_le _,fun j _ h=>by omega⟩
 case round=>
  obtain⟨k,rfl,hk,hall⟩:=hrel;have HA:=Zab hall;clear hall
  by_cases hlt:k < B.os.length
  . obtain⟨b,off,rfl,hbw,-,hc⟩:=HL.o.full' (by omega)
    obtain⟨hs,vv0,vv1,hcell,-,-⟩:=hc k hlt;obtain⟨c0,c1,c2,c3,c4,c5,c6⟩:=hcell.below HB.o hbw;have HI:Hd (Zga t r B.os[k]=(B.os[k].kd.toList == t.toList&&B.os[k].nm.toList == r.toList)):=rfl;clear hc hcell hs
    cases h1:(B.os[k].kd.toList == t.toList) with
    | false=>
     have HE:Hd (Zga t r B.os[k]=false):=by unfold Hd;rw [HI.o,h1];rfl
     go_wp2
     go_round
     case rel=>exact⟨k+1,by go_num,by omega,fun j hj hjk=>by
                by_cases e:j=k
                . subst e;exact HE.o
                . exact HA.o j hj (by omega)⟩
     . simp [intOf];omega
    | true=>
     cases h2:(B.os[k].nm.toList == r.toList) with
     | false=>
      have HE:Hd (Zga t r B.os[k]=false):=by unfold Hd;rw [HI.o,h1,h2];rfl
      go_wp2
      go_round
      case rel=>exact⟨k+1,by go_num,by omega,fun j hj hjk=>by
                 by_cases e:j=k
                 . subst e;exact HE.o
                 . exact HA.o j hj (by omega)⟩
      . simp [intOf];omega
     | true=>
      have HE:Hd (obP B.os t r=k):=Zrd hlt (by rw [HI.o,h1,h2];rfl) HA.o;go_wp2;go_ret;exact⟨ZaB HE.o.symm,HB.o⟩
  . have HE:Hd (obP B.os t r= -1):=Zse (fun i hi=>HA.o i hi (by omega))
    go_wp2;go_ret;exact⟨ZaB HE.o.symm,HB.o⟩
end
end
section
open Go.RowKit Go.Deep Go.Maps
theorem Zlc:Zex prog 274 9:=
 ⟨⟨_,_,underlying274,rfl,rfl,rfl,rfl,by decide,by decide⟩,by kernel_rfl,by kernel_rfl,underlying9,by kernel_rfl,of_decide_eq_true (by kernel_rfl)⟩
theorem Zr9:(274:TypeId) < prog.types.size:=of_decide_eq_true (by kernel_rfl)
theorem ZsH:prog.keyTypeAt 2 274=true:=by kernel_rfl
theorem ZpY:WideMaps.KeyLaw prog 274:=deep_law_laid Zm4 (by decide) Zr9 ZsH Zlc.wide
theorem Zlb:Keyed prog 274:=Keyed.of_law ZpY
structure ZoQ {H:Type} (Os:List Ob) (D:DataW H):Prop where
 isMap:IsMap D
 has:∀ a b:Zy_,a.size<=maxLen->b.size<=maxLen->Maps.has D (ZeT a b)=Os.any (Zga a b)
theorem ZoQ.start {H:Type}:ZoQ [] (.map []:DataW H):=⟨⟨[],rfl⟩,fun _ _ _ _=>rfl⟩
theorem ZoQ.step {H:Type}{Os:List Ob}{D:DataW H} (h:ZoQ Os D) (o:Ob) (hz:ZdN o) (d:DataW H):ZoQ (Os ++ [o]) (D.put (ZeT o.kd o.nm) d):=by
 refine⟨h.isMap.put _ _,fun a b ha hb=>?_⟩;rw [List.any_append]
 by_cases e:a=o.kd/\b=o.nm
 . obtain⟨rfl,rfl⟩:=e
   rw [has_put_same h.isMap (ZgD _ _)];unfold Zga;simp
 . have hne:ZeT a b≠ZeT o.kd o.nm:=fun e'=>e (Zlc.inj ZpY ha hb hz.s0 hz.s1 e')
   have hn:Zga a b o=false:=by
    unfold Zga
    cases h1:(o.kd.toList == a.toList) with
    | false=>rfl
    | true=>
     cases h2:(o.nm.toList == b.toList) with
     | false=>rfl
     | true=>exact absurd ⟨(ZaI.1 h1).symm,(ZaI.1 h2).symm⟩ e
   rw [has_put_other hne,h.has a b ha hb];simp [hn]
theorem ZnP (x:Ob) (va:Option Addr) (vn vc:Nat) (ha:Option Addr) (hn hc:Nat) (w:World) :
 Calls prog 204 #[.agg #[.string x.kd,.string x.nm,.string x.tm,.slice va vn vc,.bool x.en,.slice ha hn hc,.int .i64 x.ver]] w
  fun e w'=>e=.returned (.agg #[.string x.kd,.string x.nm])/\Zw_ w w':=by
 go_enter func204,ntmps204;go_wp2;refine bodyPost_ret (v:=.agg #[.string x.kd,.string x.nm]) (by simp [results,results204,go_sem]) rfl ⟨rfl,?_⟩
 repeat (refine Below.setCell ?_ (by simp) _)
 exact (Zb_.alloc Zl_ _).alloc (by simp) _
theorem Zmj (lo:Nat) (v:Value) (Os:List Ob) (w:World) (hv:Zbv lo w v Os) (hn:Os.length<=1048576) :
 Calls prog 170 #[v] w
  fun e w'=>e=.returned (.map (some w.heap.size))/\Zw_ w w'/\∃ D:DataW Unit,w'.ownsMap prog 274 (plainElem prog 3) w.heap.size Os.length D/\ZoQ Os D:=by
 have HV:=Zab hv;obtain⟨a,cap,rfl⟩:=hv.form;clear hv;have hmm:∀ (n:Nat) (w:World),(Instr.makeMap 234 (some (.int .i64 n))).run prog w=.ok (.map (some w.heap.size)) (w.alloc (.map #[] 0)):=fun n w=>by simp [Instr.makeMap,go_sem,run_underlying underlying234,Result.andThen]
 go_enter func170,ntmps170;go_wp2;clear hmm
 go_loopw [11] (fun i wr=>∃ k:Nat,i=.int .i64 k/\k<=Os.length/\Zw_ w wr/\∃ D:DataW Unit,wr.ownsMap prog 274 (plainElem prog 3) w.heap.size k D/\ZoQ (Os.take k) D) (fun i _=>Os.length - (intOf i).toNat)
 case atStart=>exact⟨0,rfl,Nat.zero_le _,Zac _ _,.map [],World.ownsMap_made _ _ _ _,ZoQ.start⟩
 case round=>
  obtain⟨k,rfl,hk,hb,D,ho,hsum⟩:=hrel;have HB:=Zab hb;have HSUM:=Zab hsum;clear hb hsum
  by_cases hlt:k < Os.length
  . obtain⟨b,off,rfl,hbw,-,hc⟩:=HV.o.full' (by omega)
    obtain⟨hs,vv0,vv1,hcell,hv0,hv1⟩:=hc k hlt;obtain⟨c0,c1,c2,c3,c4,c5,c6⟩:=hcell.below HB.o hbw;obtain⟨va,vc,rfl⟩:=hv0.at.form';obtain⟨ha,hc',rfl⟩:=hv1.at.form';have HZ:=Zab hs;have HO:=Zab ho;have HTK:=Zab (List.take_succ_eq_append_getElem hlt);clear hc hcell hs hv0 hv1 ho;go_wp2_with fail;refine (ZnP Os[k] _ _ _ _ _ _ _).mono ?_;rintro e w1 ⟨rfl,hb1⟩;have HB1:Hd (Zw_ w w1):=(HB.o.trans ((Zac _ _).mono HB.o.size)).trans (hb1.mono (HB.o.trans ((Zac _ _).mono HB.o.size)).size);have ho1:w1.ownsMap prog 274 (plainElem prog 3) w.heap.size k D:=(HO.o.alloc _).kept (ZaF hb1) (by simp);clear hb1
    go_wp2_with (at_mapUpdate;refine wpList_mapUpdate_own _ rfl _ _ _ 234 rfl 274 3 Zlb underlying234 _ w.heap.size k _ rfl ho1 (by unfold maxLen;omega) _ _ _ rfl rfl (Zlc.mk' HZ.o.s0 HZ.o.s1) _ [] (plainElem_int underlying3 (WalkArith.wf_i64 (by omega))) ?_;intro w2 ho2 hg2;have HO2:=Zab ho2;have HG2:=Zab hg2;clear ho2 hg2);go_roundw
    . exact⟨k+1,by go_num,by omega,Zbm HB1.o HG2.o Zl_,_,HO2.o,by rw [HTK.o];exact HSUM.o.step _ HZ.o _⟩
    . simp [intOf];omega
  . have he:k=Os.length:=by omega
    subst he;have HT:Hd (Os.take Os.length=Os):=List.take_length;have HO:=Zab ho;clear ho;go_wp2;go_ret;exact⟨rfl,HB.o,D,HO.o,HT.o ▸ HSUM.o⟩
end
section
open Go.RowKit Go.Deep Go.Shelf Go.Maps
variable {W W':World} {pb n:Nat}
attribute [local go_sem] Oper.semAt_some
def Zc4 (Os:List Ob) (t:Tie):Bool:=Os.any (Zga t.2.2.1 t.2.2.2)
def ZiM (Os:List Ob) (Fs:List Fd) (V:List Zy_):Bool:=(Zea Fs V Fs.length).all (Zc4 Os)
theorem Zou (Fs:List Fd) (V:List Zy_) (k d:Nat):∃ R,Zea Fs V (k+d)=Zea Fs V k ++ R:=by
 induction d with
 | zero=>exact⟨[],by simp⟩
 | succ d ih=>
  obtain⟨R,hR⟩:=ih;rw [<- Nat.add_assoc,Zea,hR,List.append_assoc];exact⟨_,rfl⟩
theorem Zot {Os:List Ob}{Fs:List Fd}{V:List Zy_}{k:Nat} (hk:k<=Fs.length) (h:(Zea Fs V k).all (Zc4 Os)=false):ZiM Os Fs V=false:=by
 obtain⟨R,hR⟩:=Zou Fs V k (Fs.length - k);rw [show k+(Fs.length - k)=Fs.length by omega] at hR;unfold ZiM;rw [hR,List.all_append,h,Bool.false_and]
def ZrH (x:Tie):Tie:=(x.1,x.2.1,Zhb x.2.2.1,Zhb x.2.2.2)
theorem Zg1 {lo:Nat}{w:World}{fv vv:Value}{Fs:List Fd}{V:List Zy_} (hF:ZaU lo w fv Fs) (hV:Zae w vv V):∀ (k:Nat),∀ t ∈ Zea Fs V k,ZrH t=t:=by
 intro k
 induction k with
 | zero=>intro t ht;simp [Zea] at ht
 | succ k ih=>
  intro t ht;rw [Zea] at ht
  rcases List.mem_append.1 ht with ht | ht
  . exact ih t ht
  . split at ht
    . rename_i f s hf hs
      unfold ZfQ at ht
      split at ht
      . simp at ht
        subst ht
        have h1:f.to.size<=maxLen:=by
         obtain⟨hk,rfl⟩:=List.getElem?_eq_some_iff.1 hf
         rcases hF with ⟨_,_,_,e0⟩ | ⟨b',off',cap',g1,g2,g3,g4,g5,g7⟩
         . simp [e0] at hk
         . exact (g7.2 k hk).1.s5
        have h2:s.size<=maxLen:=by
         have hm:=List.mem_of_getElem? hs
         rcases hV with ⟨_,_,_,e0⟩ | ⟨b',off',cap',g1,g2,g3,g4,g5,g6⟩
         . rw [e0] at hm;cases hm
         . exact g6 s hm
        unfold ZrH;dsimp only;rw [ZdZ h1,ZdZ h2]
      . simp at ht
    . simp at ht
theorem ZpD {lo:Nat}{w:World}{fv vv:Value}{Fs:List Fd}{V:List Zy_} (hF:ZaU lo w fv Fs) (hV:Zae w vv V) (Os:List Ob) (k:Nat):(Zea Fs V k).all (fun t=>Zc4 Os (ZrH t))=(Zea Fs V k).all (Zc4 Os):=by
 rw [Bool.eq_iff_iff,List.all_eq_true,List.all_eq_true];exact⟨fun h t ht=>by rw [<- Zg1 hF hV k t ht];exact h t ht,fun h t ht=>by rw [Zg1 hF hV k t ht];exact h t ht⟩
theorem ZaR.grow {S:Nat->Prop}{B:Nat} (h:W.grownBy W' none):ZaR S B W W':=
 ⟨h.os,h.tape,h.output,h.size,fun k o hk _ _=>(h.block k (Array.getElem?_eq_some_iff.1 hk).1 (by simp)).trans hk⟩
structure ZrM (w:World) (pb n:Nat) (D:DataW Unit) (W:World):Prop where
 own:W.ownsMap prog 274 (plainElem prog 3) pb n D
 ptr:Box W (w.heap.size+1+1) #[.map (some pb)]
 res:Box W (w.heap.size+1+1+1) #[.bool false]
 below:Zw_ w W
theorem ZrM.grow {w:World}{D:DataW Unit}{row:Option Nat} (h:ZrM w pb n D W) (hpb:pb < w.heap.size) (hg:W.grownBy W' row) (hr:∀ r,row=some r->w.heap.size+6<=r):ZrM w pb n D W':=
 ⟨h.own.kept hg (fun e=>by have:=hr _ e.symm;omega),h.ptr.of_block (hg.block _ h.ptr.lt (fun e=>by have:=hr _ e.symm;omega)),h.res.of_block (hg.block _ h.res.lt (fun e=>by have:=hr _ e.symm;omega)),
  h.below.trans ⟨hg.os,hg.tape,hg.output,hg.size,fun k hk=>hg.block k (by have:=h.below.size;omega) (fun e=>by have:=hr _ e.symm;omega)⟩⟩
section
variable (lo:Nat) (sk:Zy_) (fv:Value) (Fs:List Fd) (kind nm team:Zy_) (vv hv:Value) (en:Bool) (ver:Int) (V Ho:List Zy_) (Os:List Ob) (w:World)
theorem Zlr {D:DataW Unit} (hF:ZaU lo w fv Fs) (hV:Zae w vv V) (hH:Zae w hv Ho) (hl:Fs.length=V.length) (n1:V.length<=1048576) (hown:w.ownsMap prog 274 (plainElem prog 3) pb n D) (hp:ZoQ Os D) :
 Calls prog 173 #[.agg #[.string sk,fv],.agg #[.string kind,.string nm,.string team,vv,.bool en,hv,.int .i64 ver],.map (some pb)] w
  fun e w'=>e=.returned (.bool (ZiM Os Fs V))/\Zw_ w w':=by
 have HF:=Zab hF;have HV:=Zab hV;have HO:=Zab hown;have HP:=Zab hp;have HL:=Zab hl;have HN:Hd (Fs.length<=1048576):=by unfold Hd;omega
 have hpb:pb < w.heap.size:=hown.lt
 have HCUT:=Zab (ZpD hF hV Os);obtain⟨fa,fcap,rfl⟩:=hF.form;obtain⟨va,vcap,rfl⟩:=hV.form';obtain⟨ha,hcap,rfl⟩:=hH.form';clear hF hV hH hown hp hl n1;refine (callsIn_wide (n:=5)).1 ?_;refine callsIn_of_wp_marks func173 rfl trivial ?_ rfl;simp only [ntmps173,List.size_toArray,List.length_cons,List.length_nil,Nat.reduceAdd,Nat.reduceSub,Array.replicate_succ,Array.replicate_zero,List.push_toArray,List.append_toArray,List.nil_append,List.cons_append]
 gi_wp2_with fail
 refine⟨trivial,(ZrC sk kind nm team en ver _ Fence.wide _ trivial rfl fa Fs.length fcap va V.length vcap ha Ho.length hcap).mono ?_⟩;rintro e w1 ⟨rfl,hw1⟩
 obtain⟨wl,hwl,HX1,HX2,HT,hsz⟩:∃ wl,wl=w1/\
  Hd (Box wl (w.heap.size+1+1+1+1) #[.string sk,.slice fa Fs.length fcap])/\Hd (Box wl (w.heap.size+1+1+1+1+1) #[.string kind,.string nm,.string team,.slice va V.length vcap,.bool en,.slice ha Ho.length hcap,.int .i64 ver])/\
  Hd (ZrM w pb n D wl)/\wl.heap.size=w.heap.size+6:=by
  subst hw1;refine⟨_,rfl,(Box.new _ _ _ _ (by simp)).on (Zac _ _),Box.new _ _ _ _ (by simp),⟨?_,?_,?_,?_⟩,by simp⟩
  . exact (((((HO.o.alloc _).alloc _).alloc _).alloc _).alloc _).alloc _
  . exact (((Box.new _ _ _ _ (by simp)).on (Zac _ _)).on (Zac _ _)).on (Zac _ _)
  . exact ((Box.new _ _ _ _ (by simp)).on (Zac _ _)).on (Zac _ _)
  . exact (((((Zac _ _).trans ((Zac _ _).mono (by simp))).trans ((Zac _ _).mono (by simp;omega))).trans ((Zac _ _).mono (by simp;omega))).trans ((Zac _ _).mono (by simp;omega))).trans ((Zac _ _).mono (by simp;omega))
 subst hwl;clear hw1
 gi_wp2_with fail
 refine wpIn_rangeFunc_ownH rfl (by decide) (gf:=243) (lb:=#[.pointer (some ⟨w.heap.size+1+1+1+1,0,none⟩),.pointer (some ⟨w.heap.size+1+1+1+1+1,0,none⟩)]) rfl trivial (enters_of func243 (by kernel_rfl) rfl)
  (ZmG lo sk _ Fs kind nm team _ _ en ver V wl _ (by decide) (fun _=>False) w _ _ HT.o.below HF.o HV.o HL.o HN.o (fun _ _ h=>h) (fun h=>h) HX1.o HX2.o)
  ZaR.trans ZaR.put Zb_ (fun _=>rfl)
  (fun pre W=>ZrM w pb n D W/\pre.all (fun t=>Zc4 Os (ZrH t))=true)
  (fun c pre W=>c=.ret/\(W.cell? ⟨w.heap.size+1+1+1,0,none⟩=some (.bool false)/\w.heap.size<=W.heap.size/\Zw_ w W)/\pre.all (fun t=>Zc4 Os (ZrH t))=false)
  (fun s A B row hs hg hr=>⟨hs.1.grow hpb hg (fun r e=>by have:=(hr r e).1;omega),hs.2⟩)
  (fun c s A B row hs hg hr=>⟨hs.1,⟨cell_kept hs.2.1.1 hg (fun r e=>(hr r e).2),Nat.le_trans hs.2.1.2.1 hg.size,hs.2.1.2.2.trans ⟨hg.os,hg.tape,hg.output,hg.size,fun k hk=>hg.block k (by have:=hs.2.1.2.1;omega) (fun e=>by have:=(hr _ e.symm).1;omega)⟩⟩,hs.2.2⟩)
  ⟨HT.o,rfl⟩
  (fun x a' W=>∃ β:Nat,a'={ tmps:=#[.agg #[.string sk,.slice fa Fs.length fcap],.agg #[.string kind,.string nm,.string team,.slice va V.length vcap,.bool en,.slice ha Ho.length hcap,.int .i64 ver],.map (some pb),.pointer (some ⟨w.heap.size,0,none⟩),.pointer (some ⟨w.heap.size+1,0,none⟩),.pointer (some ⟨w.heap.size+1+1,0,none⟩),.pointer (some ⟨w.heap.size+1+1+1,0,none⟩),.pointer (some ⟨β,0,none⟩),undef,undef,.agg #[.string sk,.slice fa Fs.length fcap],.agg #[.string kind,.string nm,.string team,.slice va V.length vcap,.bool en,.slice ha Ho.length hcap,.int .i64 ver],.func (.func 243) #[] #[.pointer (some ⟨w.heap.size+1+1+1+1,0,none⟩),.pointer (some ⟨w.heap.size+1+1+1+1+1,0,none⟩)],.agg #[.int .i64 x.1,.int .i64 x.2.1,.string (Zhb x.2.2.1),.string (Zhb x.2.2.2)],undef,undef,undef,undef,undef,undef,undef,undef,undef],defers:=[] }/\W.cell? ⟨β,2,none⟩=some (.string (Zhb x.2.2.1))/\W.cell? ⟨β,3,none⟩=some (.string (Zhb x.2.2.2)))
  (fun x a' s A B row hs hg hr=>by
    obtain⟨β,e1,e2,e3⟩:=hs;exact⟨β,e1,cell_kept e2 hg (fun r e=>(hr r e).2),cell_kept e3 hg (fun r e=>(hr r e).2)⟩) ?assign ?body ?done ?stop
 case assign=>
  intro l pre x W K hI hK;have HI:=Zab hI;have HK:=Zab hK;clear hI hK
  gi_wp2
  refine HK.o _ _ ((KeepsOthers.alloc _ _).from _) (ZaR.grow (World.grownBy_alloc _ _ none)) ⟨HI.o.1.grow hpb (World.grownBy_alloc _ _ none) (fun r e=>by cases e),HI.o.2⟩ ⟨W.heap.size,rfl,ZbJ _ _ _ _ 2 rfl,ZbJ _ _ _ _ 3 rfl⟩
 case body=>
  rintro l pre x a' W hll hrec ⟨hTW,hall⟩ ⟨β,rfl,hc2,hc3⟩ hlen;have HTW:=Zab hTW;have HALL:=Zab hall;obtain⟨v,ps,hrun,hv⟩:=hTW.own.look_ok Zlb underlying234 (Zh9 _) (plainElem_int underlying3 (by decide)) (Zlc.mk' (Zfl x.2.2.1) (Zfl x.2.2.2));obtain⟨c,rfl,hc,hwc⟩:=plainElem_int_inv underlying3 hv;rw [HP.o.has _ _ (Zfl _) (Zfl _)] at hrun;have HE:Hd (Zc4 Os (ZrH x)=Os.any (Zga (Zhb x.2.2.1) (Zhb x.2.2.2))):=rfl;have p0:=hTW.ptr.cell 0;have r0:=hTW.res.cell 0;have rf:=hTW.res.free 0;simp at p0 r0;clear hv hc hwc hTW hall hrec
  cases hq:Os.any (Zga (Zhb x.2.2.1) (Zhb x.2.2.2)) with
  | true=>
   rw [hq] at hrun
   gi_wp2
   exact⟨KeepsFrom.refl _ _,ZaR.refl _ _ _,HTW.o,by rw [List.all_append,HALL.o];simp [HE.o,hq]⟩
  | false=>
   rw [hq] at hrun
   gi_wp2
   exact⟨(KeepsOthers.setCell _ _ _).from _,rfl,⟨World.cell?_setCell_same' _ _ _ (by rw [r0];rfl),by have:=HTW.o.below.size;simpa using this,HTW.o.below.setCell (p:=⟨w.heap.size+1+1+1,0,none⟩) (by simp only [];omega) _⟩,by rw [List.all_append,HALL.o];simp [HE.o,hq]⟩
 case done=>
  rintro Dd ys W hD rfl ⟨hTW,hall⟩ hK;have HTW:=Zab hTW;have HRES:Hd (ZiM Os Fs V=true):=(HCUT.o Fs.length).symm.trans hall;have r0:=hTW.res.cell 0;have rf:=hTW.res.free 0;simp at r0;clear hTW hall
  gi_wp2
  have g:=grownBy_setCell' W (w.heap.size+1+1+1) (.bool true);have hK2:(W.setCell ⟨w.heap.size+1+1+1,0,none⟩ (.bool true)).heap[Dd]?=some (.deferred (some [])):=(g.block Dd (Array.getElem?_eq_some_iff.1 hK).1 (fun e=>by have:=Option.some.inj e;(try simp only [] at this);omega)).trans hK;have c1:(W.setCell ⟨w.heap.size+1+1+1,0,none⟩ (.bool true)).cell? ⟨w.heap.size+1+1+1,0,none⟩=some (.bool true):=World.cell?_setCell_same' _ _ _ (by rw [r0];rfl);have HB2:Zw_ w (W.setCell ⟨w.heap.size+1+1+1,0,none⟩ (.bool true)):=HTW.o.below.setCell (p:=⟨w.heap.size+1+1+1,0,none⟩) (by simp only [];omega) _;generalize W.setCell ⟨w.heap.size+1+1+1,0,none⟩ (.bool true)=W2 at*;refine⟨by simp,.inl ⟨_,_,rfl,run_takeDeferred hK2,?_⟩⟩
  have c2:(W2.putObj Dd (.deferred none)).cell? ⟨w.heap.size+1+1+1,0,none⟩=some (.bool true):=(World.cell?_of_block (a:=⟨w.heap.size+1+1+1,0,none⟩) ((grownBy_putObj' W2 Dd _).block _ (World.block_lt_of_cell? _ _ c1) (fun e=>by have:=Option.some.inj e;(try simp only [] at this);omega))).trans c1;refine⟨.bool true,by simp [results,results173,go_sem,c2],by rw [HRES.o],HB2.trans (belowK_b (w:=w) Zl_ W2 Dd _ _ (by omega) hK2 rfl rfl)⟩
 case stop=>
  rintro Dd c pre W hD ⟨k,hk,rfl⟩ ⟨rfl,⟨c1,hz,hB⟩,hall⟩ hK;have HB2:=Zab hB;have HRES:Hd (ZiM Os Fs V=false):=Zot hk (by rw [<- HCUT.o];exact hall);clear hB hall
  gi_wp2
  refine⟨by simp,.inl ⟨_,_,rfl,run_takeDeferred hK,?_⟩⟩;have c2:(W.putObj Dd (.deferred none)).cell? ⟨w.heap.size+1+1+1,0,none⟩=some (.bool false):=(World.cell?_of_block (a:=⟨w.heap.size+1+1+1,0,none⟩) ((grownBy_putObj' W Dd _).block _ (World.block_lt_of_cell? _ _ c1) (fun e=>by have:=Option.some.inj e;(try simp only [] at this);omega))).trans c1;refine⟨.bool false,by simp [results,results173,go_sem,c2],by rw [HRES.o],HB2.o.trans (belowK_b (w:=w) Zl_ W Dd _ _ (by omega) hK rfl rfl)⟩
end
end
section
open Go.RowKit Go.Deep Go.Maps Go.ChangeMaps Go.MapKept
variable {P:Program} {k:TypeId} {S:List Sv} {Bl:List Be}
def ixL (n:Int) (a:Zy_):Lit:=.string (keyBytes [.int .i64 n,.string a.data.toList])
structure Zge (P:Program) (k:TypeId):Prop where
 ex:∃ f0 f1:Field,P.underlying k=some (.struct #[f0,f1])/\P.underlying f0.type=some (.int .i64)/\P.underlying f1.type=some .string/\P.cellsOf f0.type=1/\P.cellsOf f1.type=1/\f0.offset=0/\f1.offset=1/\f0.name≠ "_"/\f1.name≠ "_"
 ty:P.keyType k=true
 cs:P.cellsOf k=2
 sz:0 < P.types.size
theorem Zge.mk' (h:Zge P k) {n:Int} {b:Zy_} (ha:(Lit.int .i64 n).wf=true) (hb:b.size<=maxLen):keyOf P k (.agg #[.int .i64 n,.string b])=some (ixL n b):=by
 obtain⟨f0,f1,hu,h0,h1,k0,k1,o0,o1,n0,n1⟩:=h.ex;obtain⟨n,hn⟩:∃ n,P.types.size=n+1:=⟨P.types.size - 1,by have:=h.sz;omega⟩
 simp [keyOf,hu,h.ty,Value.formed,h.cs,hn,Program.keyLits,h0,h1,k0,k1,Value.cells,ha,hb,ixL,o0,o1,n0,n1]
theorem Zge.wide (h:Zge P k):(match P.underlying k with | some (.array _ _) | some (.struct _)=>true | _=>false)=true:=by
 obtain⟨f0,f1,hu,-⟩:=h.ex;rw [hu]
theorem Zge.inj (h:Zge P k) (K:WideMaps.KeyLaw P k) {n n':Int} {b b':Zy_} (ha:(Lit.int .i64 n).wf=true) (hb:b.size<=maxLen) (ha':(Lit.int .i64 n').wf=true) (hb':b'.size<=maxLen) (e:ixL n b=ixL n' b'):n=n'/\b=b':=by
 have e:=K.inj (h.mk' ha hb) (e ▸ h.mk' ha' hb')
 simpa using e
theorem Zma:Zge prog 256:=
 ⟨⟨_,_,underlying256,by kernel_rfl,by kernel_rfl,by kernel_rfl,by kernel_rfl,rfl,rfl,by decide,by decide⟩,by kernel_rfl,by kernel_rfl,of_decide_eq_true (by kernel_rfl)⟩
theorem Zr7:laidOutB prog=true:=by kernel_rfl
theorem ZsG:(256:TypeId) < prog.types.size:=of_decide_eq_true (by kernel_rfl)
theorem Zs4:prog.keyTypeAt 2 256=true:=by kernel_rfl
theorem Zr8:WideMaps.KeyLaw prog 256:=deep_law_laid Zr7 (by decide) ZsG Zs4 Zma.wide
theorem Ziq:Keyed prog 256:=Keyed.of_law Zr8
theorem ZpX (w:World):(zeroValue 3).run prog w=.ok (.int .i64 0) w:=by kernel_rfl
theorem Zf6 (n:Int) (a:Zy_):WideAt.IsKeyLit (ixL n a):=trivial
theorem wf0:(Lit.int .i64 0).wf=true:=by decide
theorem wf1:(Lit.int .i64 1).wf=true:=by decide
theorem Zjq {n n':Int}{b b':Zy_} (hn:n=0\/n=1) (hn':n'=0\/n'=1) (hb:b.size<=maxLen) (hb':b'.size<=maxLen) (h:¬ (n=n'/\b=b')):ixL n b≠ixL n' b':=fun e=>
 h (Zma.inj Zr8 (by rcases hn with rfl | rfl <;> decide) hb (by rcases hn' with rfl | rfl <;> decide) hb' e)
structure Zlw {H:Type} (S:List Sv) (Bl:List Be) (D:DataW H):Prop where
 isMap:IsMap D
 no:∀ s:Zy_,s.size<=maxLen->Maps.has D (ixL 0 s)=S.any fun x=>x.nm.toList == s.toList
 yes:∀ s:Zy_,s.size<=maxLen->Maps.has D (ixL 0 s)=true->∃ (k:Nat) (h:k < S.length),(S[k].nm.toList == s.toList)=true/\D.atKey (ixL 0 s) (.lit (.int .i64 0))=.lit (.int .i64 k)
 be:∀ s:Zy_,s.size<=maxLen->Maps.has D (ixL 1 s)=ZfY Bl s
 bey:∀ s:Zy_,s.size<=maxLen->Maps.has D (ixL 1 s)=true->∃ (k:Nat) (h:k < Bl.length),(Bl[k].nm.toList == s.toList)=true/\D.atKey (ixL 1 s) (.lit (.int .i64 0))=.lit (.int .i64 k)
theorem Zlw.start {H:Type}:Zlw [] [] (.map []:DataW H):=⟨⟨[],rfl⟩,fun _ _=>rfl,fun _ _ h=>(by cases h),fun _ _=>rfl,fun _ _ h=>(by cases h)⟩
theorem Zlw.sv {H:Type}{D:DataW H} (h:Zlw S Bl D) (x:Sv) (hz:ZdV x):Zlw (S ++ [x]) Bl (D.put (ixL 0 x.nm) (.lit (.int .i64 S.length))):=by
 refine⟨h.isMap.put _ _,fun s hs=>?_,fun s hs hh=>?_,fun s hs=>?_,fun s hs hh=>?_⟩
 . rw [List.any_append]
   by_cases e:s=x.nm
   . subst e
     rw [has_put_same h.isMap (Zf6 _ _)];simp
   . rw [has_put_other (Zjq (Or.inl rfl) (Or.inl rfl) hs hz.s0 (fun e'=>e e'.2)),h.no s hs]
     have hn:(x.nm.toList == s.toList)=false:=Zed.2 fun e'=>e e'.symm
     simp [hn]
 . by_cases e:s=x.nm
   . subst e
     exact⟨S.length,by simp,by simp,by rw [atKey_put_same h.isMap (Zf6 _ _)]⟩
   . have hne:=Zjq (Or.inl rfl) (Or.inl rfl) hs hz.s0 (fun e'=>e e'.2)
     rw [has_put_other hne] at hh;obtain⟨k,hk,h1,h2⟩:=h.yes s hs hh;exact⟨k,by simp;omega,by rw [List.getElem_append_left hk];exact h1,by rw [atKey_put_other hne];exact h2⟩
 . rw [has_put_other (Zjq (Or.inr rfl) (Or.inl rfl) hs hz.s0 (fun e'=>by omega)),h.be s hs]
 . have hne:=Zjq (n:=1) (n':=0) (Or.inr rfl) (Or.inl rfl) hs hz.s0 (fun e'=>by omega)
   rw [has_put_other hne] at hh;obtain⟨k,hk,h1,h2⟩:=h.bey s hs hh;exact⟨k,hk,h1,by rw [atKey_put_other hne];exact h2⟩
theorem Zlw.bb {H:Type}{D:DataW H} (h:Zlw S Bl D) (x:Be) (hz:Zeu x):Zlw S (Bl ++ [x]) (D.put (ixL 1 x.nm) (.lit (.int .i64 Bl.length))):=by
 refine⟨h.isMap.put _ _,fun s hs=>?_,fun s hs hh=>?_,fun s hs=>?_,fun s hs hh=>?_⟩
 . rw [has_put_other (Zjq (Or.inl rfl) (Or.inr rfl) hs hz.s0 (fun e'=>by omega)),h.no s hs]
 . have hne:=Zjq (n:=0) (n':=1) (Or.inl rfl) (Or.inr rfl) hs hz.s0 (fun e'=>by omega)
   rw [has_put_other hne] at hh;obtain⟨k,hk,h1,h2⟩:=h.yes s hs hh;exact⟨k,hk,h1,by rw [atKey_put_other hne];exact h2⟩
 . unfold ZfY
   rw [List.any_append]
   by_cases e:s=x.nm
   . subst e
     rw [has_put_same h.isMap (Zf6 _ _)];simp
   . rw [has_put_other (Zjq (Or.inr rfl) (Or.inr rfl) hs hz.s0 (fun e'=>e e'.2)),h.be s hs]
     have hn:(x.nm.toList == s.toList)=false:=Zed.2 fun e'=>e e'.symm
     simp [hn,ZfY]
 . by_cases e:s=x.nm
   . subst e
     exact⟨Bl.length,by simp,by simp,by rw [atKey_put_same h.isMap (Zf6 _ _)]⟩
   . have hne:=Zjq (Or.inr rfl) (Or.inr rfl) hs hz.s0 (fun e'=>e e'.2)
     rw [has_put_other hne] at hh;obtain⟨k,hk,h1,h2⟩:=h.bey s hs hh;exact⟨k,by simp;omega,by rw [List.getElem_append_left hk];exact h1,by rw [atKey_put_other hne];exact h2⟩
end
section
open Go.RowKit Go.Deep Go.Maps
theorem Box.grown {w w':World}{β m:Nat}{cs:Array Value} (h:Box w β cs) (hg:w.grownBy w' (some m)) (hm:β≠m):Box w' β cs:=by
 have hb:w'.heap[β]?=w.heap[β]?:=hg.block β h.lt (fun e=>hm (by injection e));exact⟨Zk_ h.lt hg.size,fun i=>by rw [World.cell?_of_block (w:=w) (a:=⟨β,i,none⟩) hb];exact h.cell i,fun i=>by rw [World.frozen?_of_block (w:=w) (a:=⟨β,i,none⟩) hb];exact h.free i⟩
theorem Zkp (lo:Nat) (sv cv bv:Value) (B:Sb) (w:World) (h:Zc5 lo w sv cv bv B) (h1:B.ss.length<=8) (h2:B.bs.length<=6) :
 Calls prog 135 #[.agg #[.int .i64 B.now,sv,cv,bv]] w
  fun e w'=>∃ m:Nat,w.heap.size<=m/\e=.returned (.agg #[.int .i64 B.now,sv,cv,bv,.map (some m)])/\Zw_ w w'/\∃ D:DataW Unit,w'.ownsMap prog 256 (plainElem prog 3) m (B.ss.length+B.bs.length) D/\Zlw B.ss B.bs D:=by
 have HK:=Zab h;obtain⟨a0,k0,rfl⟩:=h.svs.form;obtain⟨a1,k1,rfl⟩:=h.cps.form;obtain⟨a2,k2,rfl⟩:=h.bes.form;clear h;have hmk:∀ (n:Nat) (w:World),(Instr.makeMap 146 (some (.int .i64 n))).run prog w=.ok (.map (some w.heap.size)) (w.alloc (.map #[] 0)):=fun n w=>by simp [Instr.makeMap,go_sem,run_underlying underlying146,Result.andThen]
 have hmm:∀ w:World,(Instr.makeMap 146 (some (.int .i64 ((B.ss.length:Int)+(B.bs.length:Int))))).run prog w=.ok (.map (some w.heap.size)) (w.alloc (.map #[] 0)):=fun w=>by rw [<- Int.natCast_add];exact hmk _ _
 clear hmk;go_enter func135,ntmps135;go_wp2;clear hmm;generalize hWa:World.alloc (World.alloc (w.alloc _) _) _=Wa;have HB0:Hd (Zw_ w Wa):=by rw [<- hWa];exact ((Zac w _).alloc (by simp) _).alloc (by simp;omega) _
 have HX0:Hd (Box Wa w.heap.size #[.int .i64 B.now,.slice a0 B.ss.length k0,.slice a1 B.cs.length k1,.slice a2 B.bs.length k2]):=by rw [<- hWa];exact ((Box.new _ _ _ _ rfl).on (Zac _ _)).on (Zac _ _)
 have HR0:Hd (Box Wa (w.heap.size+1) #[.int .i64 0,.slice none 0 0,.slice none 0 0,.slice none 0 0,.map none]):=by rw [<- hWa];exact (Box.new _ _ _ _ (by simp)).on (Zac _ _)
 have HO0:Hd (Wa.ownsMap prog 256 (plainElem prog 3) (w.heap.size+1+1) 0 (.map []:DataW Unit)):=by
  rw [<- hWa];have:=World.ownsMap_made (H:=Unit) ((w.alloc (.cells #[.int .i64 B.now,.slice a0 B.ss.length k0,.slice a1 B.cs.length k1,.slice a2 B.bs.length k2] 55)).alloc (.cells #[.int .i64 0,.slice none 0 0,.slice none 0 0,.slice none 0 0,.map none] 148)) prog 256 (plainElem prog 3);unfold Hd
  simpa using this
 clear hWa;have x1:=HX0.o.cell 1;simp at x1;go_wp2;clear x1
 go_loopw [19] (fun i wr=>∃ k:Nat,i=.int .i64 k/\k<=B.ss.length/\Zw_ w wr/\Box wr w.heap.size #[.int .i64 B.now,.slice a0 B.ss.length k0,.slice a1 B.cs.length k1,.slice a2 B.bs.length k2]/\Box wr (w.heap.size+1) #[.int .i64 0,.slice none 0 0,.slice none 0 0,.slice none 0 0,.map none]/\∃ D:DataW Unit,wr.ownsMap prog 256 (plainElem prog 3) (w.heap.size+1+1) k D/\Zlw (B.ss.take k) [] D) (fun i _=>B.ss.length - (intOf i).toNat)
 case atStart=>exact⟨0,rfl,Nat.zero_le _,HB0.o,HX0.o,HR0.o,.map [],HO0.o,Zlw.start⟩
 case round=>
  obtain⟨k,rfl,hk,hb,hx,hr,D,ho,hix⟩:=hrel;have HB:=Zab hb;have HX:=Zab hx;have HR:=Zab hr;have HO:=Zab ho;have HIX:=Zab hix;clear hb hx hr ho hix HB0 HX0 HR0 HO0
  by_cases hlt:k < B.ss.length
  . obtain⟨b,off,rfl,hbw,-,hc⟩:=HK.o.svs.full' (by omega)
    obtain⟨hs,hc⟩:=hc k hlt;have HZ:=Zab hs;obtain⟨c0,c1,c2,c3,c4,c5,c6,c7,c8,c9,c10,c11,c12⟩:=hc.below HB.o hbw;have HTK:=Zab (List.take_succ_eq_append_getElem hlt);have HLN:Hd ((B.ss.take k).length=k):=by unfold Hd;simp;omega
    clear hc hs;go_wp2_with (at_mapUpdate;refine wpList_mapUpdate_own _ rfl _ _ _ 146 rfl 256 3 Ziq underlying146 _ (w.heap.size+1+1) k _ rfl (HO.o.alloc _) (by unfold maxLen;omega) _ _ _ rfl rfl (Zma.mk' wf0 HZ.o.s0) _ [] (plainElem_int underlying3 (WalkArith.wf_i64 (by omega))) ?_;intro w2 ho2 hg2;have HO2:=Zab ho2;have HG2:=Zab hg2;clear ho2 hg2);go_roundw
    case rel=>exact⟨k+1,by go_num,by omega,Zbm (zbt HB.o (Zac _ _)) HG2.o (by omega),(HX.o.on (Zac _ _)).grown HG2.o (by omega),(HR.o.on (Zac _ _)).grown HG2.o (by omega),_,HO2.o,by
               rw [HTK.o];have:=HIX.o.sv _ HZ.o;rw [HLN.o] at this;exact this⟩
    . simp [intOf];omega
  . have HTK:Hd (B.ss.take k=B.ss):=List.take_of_length_le (by omega)
    have x3:=HX.o.cell 3;simp at x3;go_wp2;clear x3;obtain⟨W1,hW1⟩:∃ W,W=wr:=⟨_,rfl⟩
    subst hW1
    go_loopw [33] (fun i wr=>∃ j:Nat,i=.int .i64 j/\j<=B.bs.length/\Zw_ w wr/\Box wr w.heap.size #[.int .i64 B.now,.slice a0 B.ss.length k0,.slice a1 B.cs.length k1,.slice a2 B.bs.length k2]/\Box wr (w.heap.size+1) #[.int .i64 0,.slice none 0 0,.slice none 0 0,.slice none 0 0,.map none]/\∃ D:DataW Unit,wr.ownsMap prog 256 (plainElem prog 3) (w.heap.size+1+1) (B.ss.length+j) D/\Zlw B.ss (B.bs.take j) D) (fun i _=>B.bs.length - (intOf i).toNat)
    case atStart=>exact⟨0,rfl,Nat.zero_le _,HB.o,HX.o,HR.o,D,HO.o.mono (by omega),by rw [<- HTK.o];exact HIX.o⟩
    case round=>
     obtain⟨j,rfl,hj,hb,hx,hr,D2,ho,hix⟩:=hrel;have HBj:=Zab hb;have HXj:=Zab hx;have HRj:=Zab hr;have HOj:=Zab ho;have HIXj:=Zab hix;clear hb hx hr ho hix HB HX HR HO HIX HTK
     by_cases hltj:j < B.bs.length
     . obtain⟨b,off,rfl,hbw,-,hc⟩:=HK.o.bes.full' (by omega)
       obtain⟨hs,hc⟩:=hc j hltj;have HZ:=Zab hs;obtain⟨c0,c1⟩:=hc.below HBj.o hbw;have HTK:=Zab (List.take_succ_eq_append_getElem hltj);have HLN:Hd ((B.bs.take j).length=j):=by unfold Hd;simp;omega
       clear hc hs;go_wp2_with (at_mapUpdate;refine wpList_mapUpdate_own _ rfl _ _ _ 146 rfl 256 3 Ziq underlying146 _ (w.heap.size+1+1) (B.ss.length+j) _ rfl (HOj.o.alloc _) (by unfold maxLen;omega) _ _ _ rfl rfl (Zma.mk' wf1 HZ.o.s0) _ [] (plainElem_int underlying3 (WalkArith.wf_i64 (by omega))) ?_;intro w2 ho2 hg2;have HO2:=Zab ho2;have HG2:=Zab hg2;clear ho2 hg2);go_roundw
       case rel=>exact⟨j+1,by go_num,by omega,Zbm (zbt HBj.o (Zac _ _)) HG2.o (by omega),(HXj.o.on (Zac _ _)).grown HG2.o (by omega),(HRj.o.on (Zac _ _)).grown HG2.o (by omega),_,HO2.o,by
                  rw [HTK.o];have:=HIXj.o.bb _ HZ.o;rw [HLN.o] at this;exact this⟩
       . simp [intOf];omega
     . have hjj:j=B.bs.length:=by omega
       have HTK:Hd (B.bs.take j=B.bs):=List.take_of_length_le (by omega);have HJ:=Zab hjj;clear hjj;have x:=HXj.o.cell;have r0:=HRj.o.cell;have g0:=HRj.o.free;go_wp2;refine bodyPost_ret (v:=.agg #[.int .i64 B.now,.slice a0 B.ss.length k0,.slice a1 B.cs.length k1,.slice a2 B.bs.length k2,.map (some (w.heap.size+1+1))]) (by simp [results,results135,go_sem,r0]) rfl ⟨(w.heap.size+1+1),by omega,rfl,?_,D2,?_,by rw [<- HTK.o];exact HIXj.o⟩
       . repeat (refine Below.setCell ?_ (by simp only [];omega) _)
         exact HBj.o
       . repeat (refine World.ownsMap.setCell ?_ (by simp only [];omega) _)
         rw [<- HJ.o];exact HOj.o
end
section
open Go.RowKit Go.Deep
variable {W0:World} {b1 b2:Nat} {cs1 cs2:Array Value}
abbrev Zg7 (W0:World) (b1:Nat) (cs1:Array Value) (b2:Nat) (cs2:Array Value) (W:World):Prop:=
 (∀ i,W.cell? ⟨b1,i,none⟩=cs1[i]?)/\(∀ i,W.cell? ⟨b2,i,none⟩=cs2[i]?)/\Hd (Below W0.heap.size W0 W/\b1 < W0.heap.size/\b2 < W0.heap.size)
theorem Zg7.drew (h1:Box W0 b1 cs1) (h2:Box W0 b2 cs2):Zg7 W0 b1 cs1 b2 cs2 W0.drew:=⟨h1.cell,h2.cell,Zb_.drew,h1.lt,h2.lt⟩
theorem Zg7.on {W W':World} (h:Zg7 W0 b1 cs1 b2 cs2 W) (hb:Below W.heap.size W W'):Zg7 W0 b1 cs1 b2 cs2 W':=by
 obtain⟨h1,h2,h4⟩:=h;have hz:=h4.o.1.size;have q1:=h4.o.2.1;have q2:=h4.o.2.2;exact⟨fun i=>(hb.cell (p:=⟨b1,i,none⟩) (show b1 < W.heap.size by omega)).trans (h1 i),fun i=>(hb.cell (p:=⟨b2,i,none⟩) (show b2 < W.heap.size by omega)).trans (h2 i),h4.o.1.trans (hb.mono hz),q1,q2⟩
def cSv (x y:Sv):Int:=Zcc x.nm y.nm
def cBe (x y:Be):Int:=Zcc x.nm y.nm
def cCp (x y:Cp):Int:=orI (Zcc x.se y.se) (Zk1 x.nu y.nu)
theorem Zqg (x y:Sv):decide (cSv x y < 0)=rSv x y:=by
 unfold cSv rSv;rw [Bool.eq_iff_iff,decide_eq_true_iff];exact ZdB
theorem Zqe (x y:Be):decide (cBe x y < 0)=rBe x y:=by
 unfold cBe rBe;rw [Bool.eq_iff_iff,decide_eq_true_iff];exact ZdB
theorem Zqf (x y:Cp):decide (cCp x y < 0)=Zbb x y:=by
 unfold cCp Zbb orI;rw [Bool.eq_iff_iff,decide_eq_true_iff,Bool.or_eq_true,Bool.and_eq_true,decide_eq_true_iff]
 by_cases h:Zcc x.se y.se=0
 . rw [if_pos h,Zk2]
   have h2:=ZcS.1 h;rw [h2,ZcY];simp
 . rw [if_neg h,ZdB]
   have h2:(x.se.toList == y.se.toList)=false:=Zed.2 fun e=>h (ZcS.2 e)
   rw [h2];simp
theorem Znj (x y:Sv) (w:World) :
 Calls prog 214 #[.agg #[.string x.nm,.int .i64 x.ve,.bool x.gn,.int .i64 x.im,.int .i64 x.wa,.int .i64 x.dn,.int .i64 x.ov,.int .i64 x.nx,.int .i64 x.pr,.int .i64 x.ls,.int .i64 x.ms,.int .i64 x.ld,.int .i64 x.cl],.agg #[.string y.nm,.int .i64 y.ve,.bool y.gn,.int .i64 y.im,.int .i64 y.wa,.int .i64 y.dn,.int .i64 y.ov,.int .i64 y.nx,.int .i64 y.pr,.int .i64 y.ls,.int .i64 y.ms,.int .i64 y.ld,.int .i64 y.cl]] w fun e w'=>e=.returned (.int .i64 (cSv x y))/\Zw_ w w':=by
 have HO:∀ o o',Hd (Zw_ w ((w.alloc o).alloc o')):=fun o o'=>(Zac w o).alloc (by simp) o'
 go_enter func214,ntmps214;go_wp2_with (go_at_call 203;refine (ZcN _ _ _).mono ?_;rintro e w' ⟨rfl,rfl⟩);go_ret;exact⟨rfl,(HO _ _).o⟩
theorem Znh (x y:Be) (w:World) :
 Calls prog 218 #[.agg #[.string x.nm,.bool x.dr],.agg #[.string y.nm,.bool y.dr]] w fun e w'=>e=.returned (.int .i64 (cBe x y))/\Zw_ w w':=by
 have HO:∀ o o',Hd (Zw_ w ((w.alloc o).alloc o')):=fun o o'=>(Zac w o).alloc (by simp) o'
 go_enter func218,ntmps218;go_wp2_with (go_at_call 203;refine (ZcN _ _ _).mono ?_;rintro e w' ⟨rfl,rfl⟩);go_ret;exact⟨rfl,(HO _ _).o⟩
theorem Zni (x y:Cp) (w:World) :
 Calls prog 222 #[.agg #[.string x.se,.int .i64 x.nu,.int .i64 x.ve,.int .i64 x.im,.int .i64 x.st,.bool x.en,.string x.be],.agg #[.string y.se,.int .i64 y.nu,.int .i64 y.ve,.int .i64 y.im,.int .i64 y.st,.bool y.en,.string y.be]] w fun e w'=>e=.returned (.int .i64 (cCp x y))/\Zw_ w w':=by
 have HO:Hd (orL [Zcc x.se y.se,Zk1 x.nu y.nu]=cCp x y):=ZkG _ _;go_enter func222,ntmps222;go_wp2;generalize hWa:(World.alloc (w.alloc _) _)=Wa;have HBa:Hd (Zw_ w Wa):=by rw [<- hWa];exact (Zac w _).alloc (by simp) _
 have FA:Hd (Box Wa w.heap.size #[.string x.se,.int .i64 x.nu,.int .i64 x.ve,.int .i64 x.im,.int .i64 x.st,.bool x.en,.string x.be]):=by rw [<- hWa];exact (Box.new _ _ _ _ rfl).on (Zac _ _)
 have FB:Hd (Box Wa (w.heap.size+1) #[.string y.se,.int .i64 y.nu,.int .i64 y.ve,.int .i64 y.im,.int .i64 y.st,.bool y.en,.string y.be]):=by rw [<- hWa];exact Box.new _ _ _ _ (by simp)
 clear hWa
 go_region_held3 (Zg7 Wa w.heap.size #[.string x.se,.int .i64 x.nu,.int .i64 x.ve,.int .i64 x.im,.int .i64 x.st,.bool x.en,.string x.be] (w.heap.size+1) #[.string y.se,.int .i64 y.nu,.int .i64 y.ve,.int .i64 y.im,.int .i64 y.st,.bool y.en,.string y.be])
  (first
    | (with_reducible exact Zg7.drew FA.o FB.o)
    | (with_reducible exact Zg7.on (by assumption) Zb_)
    | (with_reducible exact Zg7.on (by assumption) (Zac _ _))
    | (with_reducible exact Zg7.on (by assumption) (by assumption)))
  (first
    | (go_at_call 203
       refine (ZcN _ _ _).mono ?_;rintro e w1 ⟨rfl,rfl⟩)
    | (go_at_call 209
       refine (Zhv _ _ _).mono ?_;rintro e w1 ⟨rfl,rfl⟩)
    | (go_at_call 202
       refine (Ze3 _ _ _ _ [Zcc x.se y.se,Zk1 x.nu y.nu] (by simp) ?_).mono ?_
       . intro i hi
         have hi':i=0\/i=1:=by simp at hi;omega
         rcases hi' with rfl | rfl <;> simp
       rintro e w2 ⟨rfl,rfl⟩))
 go_wp2;go_ret;exact⟨ZaB HO.o,(HBa.o.trans ((Zac _ _).mono HBa.o.size)).drew⟩
end
section
open Go.RowKit Go.Deep Go.Maps
variable {S:List Sv}
def Zlv (w:World) (m:Nat) (B:Sb):Prop:=∃ (n:Nat) (D:DataW Unit),w.ownsMap prog 256 (plainElem prog 3) m n D/\Zlw B.ss B.bs D
theorem Zlv.below {w w':World}{m:Nat}{B:Sb} (h:Zlv w m B) (hb:Zw_ w w'):Zlv w' m B:=by
 obtain⟨n,D,ho,hi⟩:=h;exact⟨n,D,ho.kept (ZaF hb) (by simp),hi⟩
theorem ZkT {X:Type}{r:X->X->Bool}{L:List X} (ht:∀ a b c,r a b=true->r b c=true->r a c=true) (h:ZcK r L=true):∀ (d i:Nat) (hj:i+d+1 < L.length),r (L[i]'(by omega)) (L[i+d+1]'hj)=true
 | 0,i,hj=>by
  have:=Zel (k:=i+1) (by omega) h;rw [ZdJ (by omega)] at this;exact this
 | d+1,i,hj=>by
  have h1:=ZkT ht h d i (by omega);have:=Zel (k:=i+d+1+1) (by omega) h;rw [ZdJ (by omega)] at this;exact ht _ _ _ h1 this
theorem Zsn (h:ZcK rSv S=true) {s:Zy_} {k:Nat} (hk:k < S.length) (he:(S[k].nm.toList == s.toList)=true):svF S s=some S[k]:=by
 refine Znx hk (fun j hj hjk=>?_) he;have:=ZkT (r:=rSv) (fun a b c=>Zdp) h (k - j - 1) j (by omega);have e2:j+(k - j - 1)+1=k:=by omega
 simp only [e2] at this;refine Zed.2 fun e=>?_
 unfold rSv at this;rw [e,<- ZaI.1 he,ZcY] at this
 cases this
theorem ZrA {s:Zy_} (h:(S.any fun x=>x.nm.toList == s.toList)=false):svF S s=none:=by
 unfold svF;rw [List.find?_eq_none];rw [List.any_eq_false] at h;exact h
def sv0:Sv:=⟨⟨#[]⟩,0,false,0,0,0,0,0,0,0,0,0,0⟩
def ZsV (Bl:List Be) (s:Zy_) (c:Int) (t:Bool):Prop:=t=ZfY Bl s/\(t=true->∃ (k:Nat) (h:k < Bl.length),c=(k:Int)/\(Bl[k].nm.toList == s.toList)=true)
theorem Zg8 (lo m:Nat) (sv cv bv:Value) (B:Sb) (s:Zy_) (w:World) (h:Zc5 lo w sv cv bv B) (hx:Zlv w m B) (hs:s.size<=maxLen) :
 Calls prog 270 #[.agg #[.int .i64 B.now,sv,cv,bv,.map (some m)],.string s] w fun e w'=>∃ (c:Int) (t:Bool),e=.returned (.tuple #[.int .i64 c,.bool t])/\Zw_ w w'/\Hd (ZsV B.bs s c t):=by
 obtain⟨a0,k0,rfl⟩:=h.svs.form;obtain⟨a1,k1,rfl⟩:=h.cps.form;obtain⟨a2,k2,rfl⟩:=h.bes.form;clear h;obtain⟨n,D,ho,hi⟩:=hx;have HO:=Zab ho;have HI:=Zab (hi.be s hs);have HY:=Zab (hi.bey s hs);have HS:=Zab hs;clear ho hi hs;go_enter func270,ntmps270
 have hl:∀ o:Obj,∃ c:Int,(Instr.lookup 146 (.map (some m)) (.agg #[.int .i64 1,.string s]) true).run prog (w.alloc o)=.ok (.tuple #[.int .i64 c,.bool (Maps.has D (ixL 1 s))]) (w.alloc o)/\D.atKey (ixL 1 s) (.lit (.int .i64 0))=.lit (.int .i64 c):=fun o=>by
  obtain⟨v,ps,hrun,hv⟩:=(HO.o.alloc o).look_ok Ziq underlying146 (ZpX _) (plainElem_int underlying3 (by decide)) (Zma.mk' wf1 HS.o);obtain⟨c,rfl,hc,-⟩:=plainElem_int_inv underlying3 hv;simp only [Prod.mk.injEq] at hc;exact⟨c,hrun,hc.1⟩
 obtain⟨c,hrun,hat⟩:=hl (.cells #[.int .i64 B.now,.slice a0 B.ss.length k0,.slice a1 B.cs.length k1,.slice a2 B.bs.length k2,.map (some m)] 148)
 have HE:Hd (ZsV B.bs s c (Maps.has D (ixL 1 s))):=by
  unfold Hd;refine⟨HI.o,fun hq=>?_⟩;obtain⟨k,hk,he,hat'⟩:=HY.o hq
  have hck:c=(k:Int):=by
   have:=hat.symm.trans hat';injection this with e
   injection e
  exact⟨k,hk,hck,he⟩
 clear hl hat;generalize Maps.has D (ixL 1 s)=t at*;go_wp2;exact bodyPost_ret (v:=.tuple #[.int .i64 c,.bool t]) (by simp [results,results270,go_sem]) rfl ⟨c,t,rfl,Zac _ _,HE.o⟩
def ZsX (S:List Sv) (s:Zy_) (c:Int) (t:Bool):Prop:=(t=false/\svF S s=none)\/(t=true/\∃ (k:Nat) (h:k < S.length),c=(k:Int)/\svF S s=some S[k]/\svI S s=k/\S[k].nm=s)
theorem Zrz (h:ZcK rSv S=true) {s:Zy_} {k:Nat} (hk:k < S.length) (he:(S[k].nm.toList == s.toList)=true):svI S s=k:=by
 refine ZpV (f:=fun x:Sv=>x.nm.toList == s.toList) hk (fun j hj hjk=>?_) he;have:=ZkT (r:=rSv) (fun a b c=>Zdp) h (k - j - 1) j (by omega);have e2:j+(k - j - 1)+1=k:=by omega
 simp only [e2] at this;refine Zed.2 fun e=>?_
 unfold rSv at this;rw [e,<- ZaI.1 he,ZcY] at this
 cases this
theorem ZjS (lo m:Nat) (sv cv bv:Value) (B:Sb) (s:Zy_) (w:World) (h:Zc5 lo w sv cv bv B) (hx:Zlv w m B) (hs:s.size<=maxLen) (hu:ZcK rSv B.ss=true) :
 Calls prog 277 #[.agg #[.int .i64 B.now,sv,cv,bv,.map (some m)],.string s] w fun e w'=>∃ (c:Int) (t:Bool),e=.returned (.tuple #[.int .i64 c,.bool t])/\Zw_ w w'/\Hd (ZsX B.ss s c t):=by
 obtain⟨a0,k0,rfl⟩:=h.svs.form;obtain⟨a1,k1,rfl⟩:=h.cps.form;obtain⟨a2,k2,rfl⟩:=h.bes.form;clear h;obtain⟨n,D,ho,hi⟩:=hx;have HO:=Zab ho;have HI:=Zab (hi.no s hs);have HY:=Zab (hi.yes s hs);have HS:=Zab hs;have HU:=Zab hu;clear ho hi hs hu;go_enter func277,ntmps277
 have hl:∀ o:Obj,∃ c:Int,(Instr.lookup 146 (.map (some m)) (.agg #[.int .i64 0,.string s]) true).run prog (w.alloc o)=.ok (.tuple #[.int .i64 c,.bool (Maps.has D (ixL 0 s))]) (w.alloc o)/\D.atKey (ixL 0 s) (.lit (.int .i64 0))=.lit (.int .i64 c):=fun o=>by
  obtain⟨v,ps,hrun,hv⟩:=(HO.o.alloc o).look_ok Ziq underlying146 (ZpX _) (plainElem_int underlying3 (by decide)) (Zma.mk' wf0 HS.o);obtain⟨c,rfl,hc,-⟩:=plainElem_int_inv underlying3 hv;simp only [Prod.mk.injEq] at hc;exact⟨c,hrun,hc.1⟩
 obtain⟨c,hrun,hat⟩:=hl (.cells #[.int .i64 B.now,.slice a0 B.ss.length k0,.slice a1 B.cs.length k1,.slice a2 B.bs.length k2,.map (some m)] 148)
 have HE:Hd (ZsX B.ss s c (Maps.has D (ixL 0 s))):=by
  unfold Hd
  cases hq:Maps.has D (ixL 0 s) with
  | false=>exact Or.inl ⟨rfl,ZrA (by rw [<- HI.o];exact hq)⟩
  | true=>
   obtain⟨k,hk,he,hat'⟩:=HY.o hq
   have hck:c=(k:Int):=by
    have:=hat.symm.trans hat';injection this with e
    injection e
   exact Or.inr ⟨rfl,k,hk,hck,Zsn HU.o hk he,Zrz HU.o hk he,ZaI.1 he⟩
 clear hl hat;generalize Maps.has D (ixL 0 s)=t at*;go_wp2;exact bodyPost_ret (v:=.tuple #[.int .i64 c,.bool t]) (by simp [results,results277,go_sem]) rfl ⟨c,t,rfl,Zac _ _,HE.o⟩
theorem Zog (lo m:Nat) (sv cv bv:Value) (B:Sb) (s:Zy_) (w:World) (h:Zc5 lo w sv cv bv B) (hx:Zlv w m B) (hs:s.size<=maxLen) (hu:ZcK rSv B.ss=true) :
 Calls prog 269 #[.agg #[.int .i64 B.now,sv,cv,bv,.map (some m)],.string s] w fun e w'=>∃ (x:Sv) (t:Bool),e=.returned (.tuple #[.agg #[.string x.nm,.int .i64 x.ve,.bool x.gn,.int .i64 x.im,.int .i64 x.wa,.int .i64 x.dn,.int .i64 x.ov,.int .i64 x.nx,.int .i64 x.pr,.int .i64 x.ls,.int .i64 x.ms,.int .i64 x.ld,.int .i64 x.cl],.bool t])/\Zw_ w w'/\Hd (svF B.ss s=if t then some x else none):=by
 have HK:=Zab h;have HX:=Zab hx;obtain⟨a0,k0,rfl⟩:=h.svs.form;obtain⟨a1,k1,rfl⟩:=h.cps.form;obtain⟨a2,k2,rfl⟩:=h.bes.form;have hmx:=h.svs.max;unfold maxLen at hmx;have HS:=Zab hs;have HU:=Zab hu;clear h hx hs hu;go_enter func269,ntmps269;go_wp2_with fail;generalize hWa:World.alloc (w.alloc _) _=Wa;have HB0:Hd (Zw_ w Wa):=by rw [<- hWa];exact (Zac w _).alloc (by simp) _
 have FA0:Hd (Box Wa w.heap.size #[.int .i64 B.now,.slice a0 B.ss.length k0,.slice a1 B.cs.length k1,.slice a2 B.bs.length k2,.map (some m)]):=by rw [<- hWa];exact (Box.new _ _ _ _ rfl).on (Zac _ _)
 have FR0:Hd (Box Wa (w.heap.size+1) #[.string ⟨#[]⟩,.int .i64 0,.bool false,.int .i64 0,.int .i64 0,.int .i64 0,.int .i64 0,.int .i64 0,.int .i64 0,.int .i64 0,.int .i64 0,.int .i64 0,.int .i64 0]):=by rw [<- hWa];exact Box.new _ _ _ _ (by simp)
 clear hWa;refine (ZjS lo m _ _ _ B s _ (HK.o.below HB0.o) (HX.o.below HB0.o) HS.o HU.o).mono ?_;rintro e w1 ⟨c,t,rfl,hb1,hf⟩;have HB1:=Zab (zbt HB0.o hb1);have FA1:=Zab (FA0.o.on hb1);have FR1:=Zab (FR0.o.on hb1);clear hb1 FA0 FR0 HB0 HX;have hlt:=HB1.o.size;have r0:=FR1.o.cell;have g0:=FR1.o.free
 rcases hf.o with ⟨rfl,hn⟩ | ⟨rfl,k,hk,rfl,hs,-,-⟩
 . have HE:=Zab hn
   clear hn hf;go_wp2;refine bodyPost_ret (v:=.tuple #[.agg #[.string ⟨#[]⟩,.int .i64 0,.bool false,.int .i64 0,.int .i64 0,.int .i64 0,.int .i64 0,.int .i64 0,.int .i64 0,.int .i64 0,.int .i64 0,.int .i64 0,.int .i64 0],.bool false]) (by simp [results,results269,go_sem,r0]) rfl ⟨sv0,false,rfl,?_,HE.o⟩
   repeat (refine Below.setCell ?_ (by simp) _)
   exact HB1.o
 . have HE:=Zab hs
   clear hs hf;obtain⟨b,off,rfl,hbw,-,hc⟩:=HK.o.svs.full' (by omega);have hc1:=(hc k hk).2.below HB1.o hbw;obtain⟨c0,c1,c2,c3,c4,c5,c6,c7,c8,c9,c10,c11,c12⟩:=hc1;have x0:=FA1.o.cell;clear hc;go_wp2;refine bodyPost_ret (v:=.tuple #[.agg #[.string B.ss[k].nm,.int .i64 B.ss[k].ve,.bool B.ss[k].gn,.int .i64 B.ss[k].im,.int .i64 B.ss[k].wa,.int .i64 B.ss[k].dn,.int .i64 B.ss[k].ov,.int .i64 B.ss[k].nx,.int .i64 B.ss[k].pr,.int .i64 B.ss[k].ls,.int .i64 B.ss[k].ms,.int .i64 B.ss[k].ld,.int .i64 B.ss[k].cl],.bool true]) (by simp [results,results269,go_sem,r0]) rfl ⟨B.ss[k],true,rfl,?_,HE.o⟩
   repeat (refine Below.setCell ?_ (by simp) _)
   exact HB1.o
end
section
open Go.RowKit Go.Deep Go.Maps
theorem ZgY (lo m:Nat) (sv cv bv:Value) (B:Sb) (x:Sv) (w:World) (h:Zc5 lo w sv cv bv B) (hz:ZdV x) :
 Calls prog 246 #[.agg #[.int .i64 B.now,sv,cv,bv,.map (some m)],.agg #[.string x.nm,.int .i64 x.ve,.bool x.gn,.int .i64 x.im,.int .i64 x.wa,.int .i64 x.dn,.int .i64 x.ov,.int .i64 x.nx,.int .i64 x.pr,.int .i64 x.ls,.int .i64 x.ms,.int .i64 x.ld,.int .i64 x.cl]] w fun e w'=>e=.returned (.bool (nmB x.nm&&inB 1 B.now x.ve))/\Zw_ w w':=by
 obtain⟨a0,k0,rfl⟩:=h.svs.form;obtain⟨a1,k1,rfl⟩:=h.cps.form;obtain⟨a2,k2,rfl⟩:=h.bes.form;clear h;have s0:=hz.s0;have HO:∀ o o',Hd (Zw_ w ((w.alloc o).alloc o')):=fun o o'=>(Zac w o).alloc (by simp) o'
 go_enter func246,ntmps246
 cases q0:nmB x.nm with
 | false=>
  go_wp2_with (first|(go_at_call 167;refine (Zah _ _ _ _).mono ?_;rintro e w' ⟨rfl,rfl⟩)|(go_at_call 268;refine (ZeS _ _ (by with_reducible assumption)).mono ?_;rintro e w' ⟨rfl,rfl⟩));go_ret;exact⟨Zaa (by simp),(HO _ _).o⟩
 | true=>
  go_wp2_with (first|(go_at_call 167;refine (Zah _ _ _ _).mono ?_;rintro e w' ⟨rfl,rfl⟩)|(go_at_call 268;refine (ZeS _ _ (by with_reducible assumption)).mono ?_;rintro e w' ⟨rfl,rfl⟩));go_ret;exact⟨Zaa (by simp),(HO _ _).o⟩
theorem ZeD (lo m:Nat) (sv cv bv:Value) (B:Sb) (x:Sv) (w:World) (h:Zc5 lo w sv cv bv B) :
 Calls prog 247 #[.agg #[.int .i64 B.now,sv,cv,bv,.map (some m)],.agg #[.string x.nm,.int .i64 x.ve,.bool x.gn,.int .i64 x.im,.int .i64 x.wa,.int .i64 x.dn,.int .i64 x.ov,.int .i64 x.nx,.int .i64 x.pr,.int .i64 x.ls,.int .i64 x.ms,.int .i64 x.ld,.int .i64 x.cl]] w fun e w'=>e=.returned (.bool (inB 1 1000000 x.im&&inB 1 1000000 x.nx))/\Zw_ w w':=by
 obtain⟨a0,k0,rfl⟩:=h.svs.form;obtain⟨a1,k1,rfl⟩:=h.cps.form;obtain⟨a2,k2,rfl⟩:=h.bes.form;clear h;have HO:∀ o o',Hd (Zw_ w ((w.alloc o).alloc o')):=fun o o'=>(Zac w o).alloc (by simp) o'
 go_enter func247,ntmps247
 cases q0:inB 1 1000000 x.im with
 | false=>
  go_wp2_with (first|(go_at_call 167;refine (Zah _ _ _ _).mono ?_;rintro e w' ⟨rfl,rfl⟩));go_ret;exact⟨Zaa (by simp),(HO _ _).o⟩
 | true=>
  go_wp2_with (first|(go_at_call 167;refine (Zah _ _ _ _).mono ?_;rintro e w' ⟨rfl,rfl⟩));go_ret;exact⟨Zaa (by simp),(HO _ _).o⟩
theorem ZfN (lo m:Nat) (sv cv bv:Value) (B:Sb) (x:Sv) (w:World) (h:Zc5 lo w sv cv bv B) :
 Calls prog 248 #[.agg #[.int .i64 B.now,sv,cv,bv,.map (some m)],.agg #[.string x.nm,.int .i64 x.ve,.bool x.gn,.int .i64 x.im,.int .i64 x.wa,.int .i64 x.dn,.int .i64 x.ov,.int .i64 x.nx,.int .i64 x.pr,.int .i64 x.ls,.int .i64 x.ms,.int .i64 x.ld,.int .i64 x.cl]] w fun e w'=>e=.returned (.bool (inB 0 10 x.wa&&(inB 0 10 x.dn&&(inB 0 10 x.ov&&(decide (0 < x.dn) || decide (0 < x.ov))))))/\Zw_ w w':=by
 obtain⟨a0,k0,rfl⟩:=h.svs.form;obtain⟨a1,k1,rfl⟩:=h.cps.form;obtain⟨a2,k2,rfl⟩:=h.bes.form;clear h;have HO:∀ o o',Hd (Zw_ w ((w.alloc o).alloc o')):=fun o o'=>(Zac w o).alloc (by simp) o'
 go_enter func248,ntmps248
 cases q0:inB 0 10 x.wa with
 | false=>
  go_wp2_with (first|(go_at_call 167;refine (Zah _ _ _ _).mono ?_;rintro e w' ⟨rfl,rfl⟩));go_ret;exact⟨Zaa (by simp),(HO _ _).o⟩
 | true=>
  cases q1:inB 0 10 x.dn with
  | false=>
   go_wp2_with (first|(go_at_call 167;refine (Zah _ _ _ _).mono ?_;rintro e w' ⟨rfl,rfl⟩));go_ret;exact⟨Zaa (by simp),(HO _ _).o⟩
  | true=>
   cases q2:inB 0 10 x.ov with
   | false=>
    go_wp2_with (first|(go_at_call 167;refine (Zah _ _ _ _).mono ?_;rintro e w' ⟨rfl,rfl⟩));go_ret;exact⟨Zaa (by simp),(HO _ _).o⟩
   | true=>
    cases q3:decide (0 < x.dn) with
    | false=>
     go_wp2_with (first|(go_at_call 167;refine (Zah _ _ _ _).mono ?_;rintro e w' ⟨rfl,rfl⟩));go_ret;exact⟨Zaa (by simp),(HO _ _).o⟩
    | true=>
     go_wp2_with (first|(go_at_call 167;refine (Zah _ _ _ _).mono ?_;rintro e w' ⟨rfl,rfl⟩));go_ret;exact⟨Zaa (by simp),(HO _ _).o⟩
theorem ZfM (lo m:Nat) (sv cv bv:Value) (B:Sb) (x:Sv) (w:World) (h:Zc5 lo w sv cv bv B) :
 Calls prog 249 #[.agg #[.int .i64 B.now,sv,cv,bv,.map (some m)],.agg #[.string x.nm,.int .i64 x.ve,.bool x.gn,.int .i64 x.im,.int .i64 x.wa,.int .i64 x.dn,.int .i64 x.ov,.int .i64 x.nx,.int .i64 x.pr,.int .i64 x.ls,.int .i64 x.ms,.int .i64 x.ld,.int .i64 x.cl]] w fun e w'=>e=.returned (.bool (inB 0 1000000 x.pr&&(inB 0 1000000 x.ld&&(inB 0 10 x.ms&&(inB 0 x.ms x.ls&&inB 0 3 x.cl)))))/\Zw_ w w':=by
 obtain⟨a0,k0,rfl⟩:=h.svs.form;obtain⟨a1,k1,rfl⟩:=h.cps.form;obtain⟨a2,k2,rfl⟩:=h.bes.form;clear h;have HO:∀ o o',Hd (Zw_ w ((w.alloc o).alloc o')):=fun o o'=>(Zac w o).alloc (by simp) o'
 go_enter func249,ntmps249
 cases q0:inB 0 1000000 x.pr with
 | false=>
  go_wp2_with (first|(go_at_call 167;refine (Zah _ _ _ _).mono ?_;rintro e w' ⟨rfl,rfl⟩));go_ret;exact⟨Zaa (by simp),(HO _ _).o⟩
 | true=>
  cases q1:inB 0 1000000 x.ld with
  | false=>
   go_wp2_with (first|(go_at_call 167;refine (Zah _ _ _ _).mono ?_;rintro e w' ⟨rfl,rfl⟩));go_ret;exact⟨Zaa (by simp),(HO _ _).o⟩
  | true=>
   cases q2:inB 0 10 x.ms with
   | false=>
    go_wp2_with (first|(go_at_call 167;refine (Zah _ _ _ _).mono ?_;rintro e w' ⟨rfl,rfl⟩));go_ret;exact⟨Zaa (by simp),(HO _ _).o⟩
   | true=>
    cases q3:inB 0 x.ms x.ls with
    | false=>
     go_wp2_with (first|(go_at_call 167;refine (Zah _ _ _ _).mono ?_;rintro e w' ⟨rfl,rfl⟩));go_ret;exact⟨Zaa (by simp),(HO _ _).o⟩
    | true=>
     go_wp2_with (first|(go_at_call 167;refine (Zah _ _ _ _).mono ?_;rintro e w' ⟨rfl,rfl⟩));go_ret;exact⟨Zaa (by simp),(HO _ _).o⟩
theorem ZgZ (lo m:Nat) (sv cv bv:Value) (B:Sb) (x:Sv) (w:World) (h:Zc5 lo w sv cv bv B) :
 Calls prog 250 #[.agg #[.int .i64 B.now,sv,cv,bv,.map (some m)],.agg #[.string x.nm,.int .i64 x.ve,.bool x.gn,.int .i64 x.im,.int .i64 x.wa,.int .i64 x.dn,.int .i64 x.ov,.int .i64 x.nx,.int .i64 x.pr,.int .i64 x.ls,.int .i64 x.ms,.int .i64 x.ld,.int .i64 x.cl]] w fun e w'=>e=.returned (.bool (decide (0 < x.pr) || ((x.ls == 0)&&((x.ms == 0)&&((x.ld == 0)&&(x.cl == 0))))))/\Zw_ w w':=by
 obtain⟨a0,k0,rfl⟩:=h.svs.form;obtain⟨a1,k1,rfl⟩:=h.cps.form;obtain⟨a2,k2,rfl⟩:=h.bes.form;clear h;have HO:∀ o o',Hd (Zw_ w ((w.alloc o).alloc o')):=fun o o'=>(Zac w o).alloc (by simp) o'
 go_enter func250,ntmps250
 cases q0:decide (0 < x.pr) with
 | false=>
  cases q1:(x.ls == 0) with
  | false=>
   go_wp2_with (first|(go_at_call 167;refine (Zah _ _ _ _).mono ?_;rintro e w' ⟨rfl,rfl⟩));go_ret;exact⟨Zaa (by simp),(HO _ _).o⟩
  | true=>
   cases q2:(x.ms == 0) with
   | false=>
    go_wp2_with (first|(go_at_call 167;refine (Zah _ _ _ _).mono ?_;rintro e w' ⟨rfl,rfl⟩));go_ret;exact⟨Zaa (by simp),(HO _ _).o⟩
   | true=>
    cases q3:(x.ld == 0) with
    | false=>
     go_wp2_with (first|(go_at_call 167;refine (Zah _ _ _ _).mono ?_;rintro e w' ⟨rfl,rfl⟩));go_ret;exact⟨Zaa (by simp),(HO _ _).o⟩
    | true=>
     go_wp2_with (first|(go_at_call 167;refine (Zah _ _ _ _).mono ?_;rintro e w' ⟨rfl,rfl⟩));go_ret;exact⟨Zaa (by simp),(HO _ _).o⟩
 | true=>
  go_wp2_with (first|(go_at_call 167;refine (Zah _ _ _ _).mono ?_;rintro e w' ⟨rfl,rfl⟩));go_ret;exact⟨Zaa (by simp),(HO _ _).o⟩
theorem Zgk (lo m:Nat) (sv cv bv:Value) (B:Sb) (x:Be) (w:World) (h:Zc5 lo w sv cv bv B) (hz:Zeu x) :
 Calls prog 251 #[.agg #[.int .i64 B.now,sv,cv,bv,.map (some m)],.agg #[.string x.nm,.bool x.dr]] w fun e w'=>e=.returned (.bool (nmB x.nm))/\Zw_ w w':=by
 obtain⟨a0,k0,rfl⟩:=h.svs.form;obtain⟨a1,k1,rfl⟩:=h.cps.form;obtain⟨a2,k2,rfl⟩:=h.bes.form;clear h;have s0:=hz.s0;have HO:∀ o o',Hd (Zw_ w ((w.alloc o).alloc o')):=fun o o'=>(Zac w o).alloc (by simp) o'
 go_enter func251,ntmps251;go_wp2_with (first|(go_at_call 167;refine (Zah _ _ _ _).mono ?_;rintro e w' ⟨rfl,rfl⟩)|(go_at_call 268;refine (ZeS _ _ (by with_reducible assumption)).mono ?_;rintro e w' ⟨rfl,rfl⟩));go_ret;exact⟨Zaa (by simp),(HO _ _).o⟩
theorem ZeA (lo m:Nat) (sv cv bv:Value) (B:Sb) (x:Cp) (w:World) (h:Zc5 lo w sv cv bv B) :
 Calls prog 253 #[.agg #[.int .i64 B.now,sv,cv,bv,.map (some m)],.agg #[.string x.se,.int .i64 x.nu,.int .i64 x.ve,.int .i64 x.im,.int .i64 x.st,.bool x.en,.string x.be]] w fun e w'=>e=.returned (.bool (inB 1 B.now x.ve&&(inB 1 1000000 x.im&&inB 1 4 x.st)))/\Zw_ w w':=by
 obtain⟨a0,k0,rfl⟩:=h.svs.form;obtain⟨a1,k1,rfl⟩:=h.cps.form;obtain⟨a2,k2,rfl⟩:=h.bes.form;clear h;have HO:∀ o o',Hd (Zw_ w ((w.alloc o).alloc o')):=fun o o'=>(Zac w o).alloc (by simp) o'
 go_enter func253,ntmps253
 cases q0:inB 1 B.now x.ve with
 | false=>
  go_wp2_with (first|(go_at_call 167;refine (Zah _ _ _ _).mono ?_;rintro e w' ⟨rfl,rfl⟩));go_ret;exact⟨Zaa (by simp),(HO _ _).o⟩
 | true=>
  cases q1:inB 1 1000000 x.im with
  | false=>
   go_wp2_with (first|(go_at_call 167;refine (Zah _ _ _ _).mono ?_;rintro e w' ⟨rfl,rfl⟩));go_ret;exact⟨Zaa (by simp),(HO _ _).o⟩
  | true=>
   go_wp2_with (first|(go_at_call 167;refine (Zah _ _ _ _).mono ?_;rintro e w' ⟨rfl,rfl⟩));go_ret;exact⟨Zaa (by simp),(HO _ _).o⟩
end
section
open Go.RowKit Go.Deep Go.Maps
def ZkK (B:Sb) (c:Cp):Bool:=match svF B.ss c.se with
 | none=>false
 | some x=>inB 1 (x.nx - 1) c.nu
theorem Zry {S:List Sv}{s:Zy_}{x:Sv} (h:svF S s=some x):x ∈ S:=List.mem_of_find?_eq_some h
theorem ZjD (lo m:Nat) (sv cv bv:Value) (B:Sb) (w:World) (h:Zc5 lo w sv cv bv B) :
 Calls prog 184 #[.agg #[.int .i64 B.now,sv,cv,bv,.map (some m)]] w fun e w'=>e=.returned (.bool (inB 0 1000000 B.now))/\Zw_ w w':=by
 obtain⟨a0,k0,rfl⟩:=h.svs.form;obtain⟨a1,k1,rfl⟩:=h.cps.form;obtain⟨a2,k2,rfl⟩:=h.bes.form;clear h;go_enter func184,ntmps184;go_wp2_with (first|(go_at_call 167;refine (Zah _ _ _ _).mono ?_;rintro e w' ⟨rfl,rfl⟩));go_ret;exact⟨rfl,Zac _ _⟩
theorem Ze5 (lo m:Nat) (sv cv bv:Value) (B:Sb) (x:Cp) (w:World) (h:Zc5 lo w sv cv bv B) (hx:Zlv w m B) (hz:Zev x) :
 Calls prog 254 #[.agg #[.int .i64 B.now,sv,cv,bv,.map (some m)],.agg #[.string x.se,.int .i64 x.nu,.int .i64 x.ve,.int .i64 x.im,.int .i64 x.st,.bool x.en,.string x.be]] w fun e w'=>e=.returned (.bool (if x.st == 1 then x.be.toList.isEmpty else ZfY B.bs x.be))/\Zw_ w w':=by
 have HK:=Zab h;have HX:=Zab hx;have HZ:=Zab hz.s1;obtain⟨a0,k0,rfl⟩:=h.svs.form;obtain⟨a1,k1,rfl⟩:=h.cps.form;obtain⟨a2,k2,rfl⟩:=h.bes.form;clear h;clear hx hz;have HO:∀ o o',Hd (Zw_ w ((w.alloc o).alloc o')):=fun o o'=>(Zac w o).alloc (by simp) o'
 go_enter func254,ntmps254
 cases h1:(x.st == 1) with
 | true=>
  go_wp2;go_ret;exact⟨Zaa (by simp),(HO _ _).o⟩
 | false=>
  go_wp2_with fail;refine (Zg8 lo m _ _ _ B x.be _ (HK.o.below (HO _ _).o) (HX.o.below (HO _ _).o) HZ.o).mono ?_;rintro e w1 ⟨c,t,rfl,hb1,hf⟩;have HB1:=Zab (zbt (HO _ _).o hb1);have HE:Hd (t=ZfY B.bs x.be):=hf.o.1;clear hb1 hf;go_wp2;go_ret;exact⟨Zaa (by simp [HE.o]),HB1.o⟩
theorem Zfz (lo m:Nat) (sv cv bv:Value) (B:Sb) (x:Cp) (w:World) (h:Zc5 lo w sv cv bv B) (hx:Zlv w m B) (hz:Zev x) (hu:ZcK rSv B.ss=true) (hss:B.ss.all (svB B.now)=true) :
 Calls prog 252 #[.agg #[.int .i64 B.now,sv,cv,bv,.map (some m)],.agg #[.string x.se,.int .i64 x.nu,.int .i64 x.ve,.int .i64 x.im,.int .i64 x.st,.bool x.en,.string x.be]] w fun e w'=>e=.returned (.bool (ZkK B x))/\Zw_ w w':=by
 have HK:=Zab h;have HX:=Zab hx;have HZ:=Zab hz.s0;have HU:=Zab hu;have HSS:=Zab hss;obtain⟨a0,k0,rfl⟩:=h.svs.form;obtain⟨a1,k1,rfl⟩:=h.cps.form;obtain⟨a2,k2,rfl⟩:=h.bes.form;clear h;clear hx hz hu hss;go_enter func252,ntmps252;go_wp2_with fail;generalize hWa:World.alloc (w.alloc _) _=Wa;have HB0:Hd (Zw_ w Wa):=by rw [<- hWa];exact (Zac w _).alloc (by simp) _
 have HC0:Hd (Box Wa (w.heap.size+1) #[.string x.se,.int .i64 x.nu,.int .i64 x.ve,.int .i64 x.im,.int .i64 x.st,.bool x.en,.string x.be]):=by rw [<- hWa];exact Box.new _ _ _ _ (by simp)
 clear hWa;refine (Zog lo m _ _ _ B x.se _ (HK.o.below HB0.o) (HX.o.below HB0.o) HZ.o HU.o).mono ?_;rintro e w1 ⟨y,t,rfl,hb1,hf⟩;have HB1:=Zab (zbt HB0.o hb1);have HC1:=Zab (HC0.o.on hb1);clear hb1 HB0 HC0;have c1:∀ o,(w1.alloc o).cell? ⟨w.heap.size+1,1,none⟩=some (.int .i64 x.nu):=fun o=>by rw [(HC1.o.on (Zac _ o)).cell 1];rfl
 cases t with
 | false=>
  have HE:Hd (ZkK B x=false):=by unfold Hd ZkK;rw [hf.o];rfl
  go_wp2;go_ret;exact⟨Zaa HE.o.symm,zbt HB1.o (Zac _ _)⟩
 | true=>
  have HE:Hd (ZkK B x=inB 1 (y.nx - 1) x.nu):=by unfold Hd ZkK;rw [hf.o];rfl
  have hnx:=Zp3 (List.all_eq_true.1 HSS.o _ (Zry (hf.o.trans (if_pos rfl))));have hw:IntKind.i64.wrap (y.nx - 1)=y.nx - 1:=by rw [IntWalk.i64_left];unfold wrap64;omega
  clear hnx hf;go_wp2_with (first|(go_at_call 167;refine (Zah _ _ _ _).mono ?_;rintro e w' ⟨rfl,rfl⟩));go_ret;exact⟨Zaa HE.o.symm,zbt HB1.o (Zac _ _)⟩
end
open Go.RowKit Go.Deep
theorem ZiX (lo:Nat) (v:Value) (Xl:List Sv) (w:World) (hv:Zbx lo w v Xl) :
 Calls prog 213 #[v,.func (.func 214) #[] #[]] w fun e w'=>e=.returned (.bool (ZcK rSv Xl))/\Zw_ w w':=by
 have HV:=Zab hv;have hm:=hv.max;unfold maxLen at hm;obtain⟨a,cap,rfl⟩:=hv.form;clear hv;go_enter func213,ntmps213;go_wp2
 go_loopw [5] (fun i wr=>∃ m:Nat,i=.int .i64 m/\1<=m/\(m<=Xl.length\/m=1)/\Zw_ w wr/\∀ j,j < m->ZfK rSv Xl j=true) (fun i _=>Xl.length+1 - (intOf i).toNat)
 case atStart=>exact⟨1,rfl,Nat.le_refl _,Or.inr rfl,Below.refl _ _,fun j hj=>by rw [show j=0 by omega];rfl⟩
 case round=>
  obtain⟨m,rfl,hm1,hk,hb,hall⟩:=hrel;have HB:=Zab hb;have HA:=Zab hall;clear hb hall
  by_cases hlt:m < Xl.length
  . obtain⟨k,hkm⟩:∃ k,m=k+1:=⟨m - 1,by omega⟩
    have hlt0:k < Xl.length:=by omega
    obtain⟨b,off,rfl,hbw,-,hc⟩:=HV.o.full' (by omega);have hbr:b < wr.heap.size:=Zk_ hbw HB.o.size
    have HC:=Zab ((hc k hlt0).2.below HB.o hbw);have HD:=Zab ((hc m hlt).2.below HB.o hbw)
    have HS:Hd (ZfK rSv Xl m=decide (cSv Xl[k] Xl[m] < 0)):=by
     subst hkm;unfold Hd;rw [Zqg];exact ZdJ hlt
    have e2:IntKind.i64.wrap ((m:Int) - 1)=k:=by rw [IntWalk.i64_left];unfold wrap64;omega
    clear hc hkm hk;go_wp2
    go_cut [23] (fun c wc=>c=.bool (decide (0<=cSv Xl[k] Xl[m]))/\Below wr.heap.size wr wc)
    case first=>
     have xn:Nonempty (In (Up wr)):=⟨⟨wr,Below.refl _ _⟩⟩;have xs:=fun (X:In (Up wr))=>Zb4 X
     have i0:(0:Int)<=(k:Int):=by omega
     have i1:(k:Int) < (Xl.length:Int):=by omega
     have j0:(0:Int)<=(m:Int):=by omega
     have j1:(m:Int) < (Xl.length:Int):=by omega
     refine Zal (Up wr) (by kernel_rfl) (by kernel_rfl) (Zb_.drew) ?_
     repeat (go_big_quiet_step (fail))
     refine Za3 (by rfl) 118 (.tmp 16) rfl b (off+k*13) rfl (svL Xl[k]) _ (fun W hW=>by obtain⟨X,rfl⟩:=hW;exact Zc1 HC.o.rng X.h hbr) underlying118 rfl Za9 ?_;simp only [Act.put,List.setIfInBounds_toArray,List.set_cons_zero,List.set_cons_succ]
     repeat (go_big_quiet_step (fail))
     refine Za3 (by rfl) 118 (.tmp 20) rfl b (off+m*13) rfl (svL Xl[m]) _ (fun W hW=>by obtain⟨X,rfl⟩:=hW;exact Zc1 HD.o.rng X.h hbr) underlying118 rfl Za9 ?_;simp only [Act.put,List.setIfInBounds_toArray,List.set_cons_zero,List.set_cons_succ]
     repeat (go_big_quiet_step ((go_at_call 214;rename_i X;exact (Znj Xl[k] Xl[m] _).mono fun _ _ h=>⟨h.1,Up.next X h.2⟩)))
     refine wpQuiet_nil ?_;intro wn hw;obtain⟨X,hX⟩:=hw;have HWN:Below wr.heap.size wr wn:=by rw [hX];exact X.h
     clear hX X xs xn;go_wp2;go_meet;exact⟨rfl,HWN⟩
    case rest=>
    obtain⟨rfl,hbc⟩:=hcut;have HBc:=Zab (zbt HB.o hbc);clear hbc HC HD
    cases hq:decide (0<=cSv Xl[k] Xl[m]) with
    | true=>
     have HN:Hd (ZcK rSv Xl=false):=ZaC hlt (HS.o.trans (decide_eq_false (by have:=of_decide_eq_true hq;omega)));go_wp2;go_ret;exact⟨Zaa HN.o.symm,HBc.o⟩
    | false=>
     have HT:Hd (ZfK rSv Xl m=true):=HS.o.trans (decide_eq_true (by have:=of_decide_eq_false hq;omega));go_wp2;go_roundw
     case rel=>exact⟨m+1,by go_num,by omega,by omega,HBc.o,fun j hj=>by
                by_cases e:j=m
                . rw [e];exact HT.o
                . exact HA.o j (by omega)⟩
     . simp [intOf];omega
  . have HT:Hd (ZcK rSv Xl=true):=ZaH (fun i hi=>HA.o i (by omega))
    go_wp2;go_ret;exact⟨Zaa HT.o.symm,HB.o⟩
theorem ZiV (lo:Nat) (v:Value) (Xl:List Be) (w:World) (hv:Zb9 lo w v Xl) :
 Calls prog 217 #[v,.func (.func 218) #[] #[]] w fun e w'=>e=.returned (.bool (ZcK rBe Xl))/\Zw_ w w':=by
 have HV:=Zab hv;have hm:=hv.max;unfold maxLen at hm;obtain⟨a,cap,rfl⟩:=hv.form;clear hv;go_enter func217,ntmps217;go_wp2
 go_loopw [5] (fun i wr=>∃ m:Nat,i=.int .i64 m/\1<=m/\(m<=Xl.length\/m=1)/\Zw_ w wr/\∀ j,j < m->ZfK rBe Xl j=true) (fun i _=>Xl.length+1 - (intOf i).toNat)
 case atStart=>exact⟨1,rfl,Nat.le_refl _,Or.inr rfl,Below.refl _ _,fun j hj=>by rw [show j=0 by omega];rfl⟩
 case round=>
  obtain⟨m,rfl,hm1,hk,hb,hall⟩:=hrel;have HB:=Zab hb;have HA:=Zab hall;clear hb hall
  by_cases hlt:m < Xl.length
  . obtain⟨k,hkm⟩:∃ k,m=k+1:=⟨m - 1,by omega⟩
    have hlt0:k < Xl.length:=by omega
    obtain⟨b,off,rfl,hbw,-,hc⟩:=HV.o.full' (by omega);have hbr:b < wr.heap.size:=Zk_ hbw HB.o.size
    have HC:=Zab ((hc k hlt0).2.below HB.o hbw);have HD:=Zab ((hc m hlt).2.below HB.o hbw)
    have HS:Hd (ZfK rBe Xl m=decide (cBe Xl[k] Xl[m] < 0)):=by
     subst hkm;unfold Hd;rw [Zqe];exact ZdJ hlt
    have e2:IntKind.i64.wrap ((m:Int) - 1)=k:=by rw [IntWalk.i64_left];unfold wrap64;omega
    clear hc hkm hk;go_wp2
    go_cut [23] (fun c wc=>c=.bool (decide (0<=cBe Xl[k] Xl[m]))/\Below wr.heap.size wr wc)
    case first=>
     have xn:Nonempty (In (Up wr)):=⟨⟨wr,Below.refl _ _⟩⟩;have xs:=fun (X:In (Up wr))=>Zb4 X
     have s0:∀ X:In (Up wr),_:=fun X=>Up.cell X HC.o.c0
     have t0:∀ X:In (Up wr),_:=fun X=>Up.cell X HD.o.c0
     have s1:∀ X:In (Up wr),_:=fun X=>Up.cell X HC.o.c1
     have t1:∀ X:In (Up wr),_:=fun X=>Up.cell X HD.o.c1
     have i0:(0:Int)<=(k:Int):=by omega
     have i1:(k:Int) < (Xl.length:Int):=by omega
     have j0:(0:Int)<=(m:Int):=by omega
     have j1:(m:Int) < (Xl.length:Int):=by omega
     refine Zal (Up wr) (by kernel_rfl) (by kernel_rfl) (Zb_.drew) ?_
     repeat (go_big_quiet_step ((go_at_call 218;rename_i X;exact (Znh Xl[k] Xl[m] _).mono fun _ _ h=>⟨h.1,Up.next X h.2⟩)))
     refine wpQuiet_nil ?_;intro wn hw;obtain⟨X,hX⟩:=hw;have HWN:Below wr.heap.size wr wn:=by rw [hX];exact X.h
     clear hX X s0 t0 s1 t1 xs xn;go_wp2;go_meet;exact⟨rfl,HWN⟩
    case rest=>
    obtain⟨rfl,hbc⟩:=hcut;have HBc:=Zab (zbt HB.o hbc);clear hbc HC HD
    cases hq:decide (0<=cBe Xl[k] Xl[m]) with
    | true=>
     have HN:Hd (ZcK rBe Xl=false):=ZaC hlt (HS.o.trans (decide_eq_false (by have:=of_decide_eq_true hq;omega)));go_wp2;go_ret;exact⟨Zaa HN.o.symm,HBc.o⟩
    | false=>
     have HT:Hd (ZfK rBe Xl m=true):=HS.o.trans (decide_eq_true (by have:=of_decide_eq_false hq;omega));go_wp2;go_roundw
     case rel=>exact⟨m+1,by go_num,by omega,by omega,HBc.o,fun j hj=>by
                by_cases e:j=m
                . rw [e];exact HT.o
                . exact HA.o j (by omega)⟩
     . simp [intOf];omega
  . have HT:Hd (ZcK rBe Xl=true):=ZaH (fun i hi=>HA.o i (by omega))
    go_wp2;go_ret;exact⟨Zaa HT.o.symm,HB.o⟩
theorem ZiW (lo:Nat) (v:Value) (Xl:List Cp) (w:World) (hv:Zb1 lo w v Xl) :
 Calls prog 221 #[v,.func (.func 222) #[] #[]] w fun e w'=>e=.returned (.bool (ZcK Zbb Xl))/\Zw_ w w':=by
 have HV:=Zab hv;have hm:=hv.max;unfold maxLen at hm;obtain⟨a,cap,rfl⟩:=hv.form;clear hv;go_enter func221,ntmps221;go_wp2
 go_loopw [5] (fun i wr=>∃ m:Nat,i=.int .i64 m/\1<=m/\(m<=Xl.length\/m=1)/\Zw_ w wr/\∀ j,j < m->ZfK Zbb Xl j=true) (fun i _=>Xl.length+1 - (intOf i).toNat)
 case atStart=>exact⟨1,rfl,Nat.le_refl _,Or.inr rfl,Below.refl _ _,fun j hj=>by rw [show j=0 by omega];rfl⟩
 case round=>
  obtain⟨m,rfl,hm1,hk,hb,hall⟩:=hrel;have HB:=Zab hb;have HA:=Zab hall;clear hb hall
  by_cases hlt:m < Xl.length
  . obtain⟨k,hkm⟩:∃ k,m=k+1:=⟨m - 1,by omega⟩
    have hlt0:k < Xl.length:=by omega
    obtain⟨b,off,rfl,hbw,-,hc⟩:=HV.o.full' (by omega);have hbr:b < wr.heap.size:=Zk_ hbw HB.o.size
    have HC:=Zab ((hc k hlt0).2.below HB.o hbw);have HD:=Zab ((hc m hlt).2.below HB.o hbw)
    have HS:Hd (ZfK Zbb Xl m=decide (cCp Xl[k] Xl[m] < 0)):=by
     subst hkm;unfold Hd;rw [Zqf];exact ZdJ hlt
    have e2:IntKind.i64.wrap ((m:Int) - 1)=k:=by rw [IntWalk.i64_left];unfold wrap64;omega
    clear hc hkm hk;go_wp2
    go_cut [23] (fun c wc=>c=.bool (decide (0<=cCp Xl[k] Xl[m]))/\Below wr.heap.size wr wc)
    case first=>
     have xn:Nonempty (In (Up wr)):=⟨⟨wr,Below.refl _ _⟩⟩;have xs:=fun (X:In (Up wr))=>Zb4 X
     have s0:∀ X:In (Up wr),_:=fun X=>Up.cell X HC.o.c0
     have t0:∀ X:In (Up wr),_:=fun X=>Up.cell X HD.o.c0
     have s1:∀ X:In (Up wr),_:=fun X=>Up.cell X HC.o.c1
     have t1:∀ X:In (Up wr),_:=fun X=>Up.cell X HD.o.c1
     have s2:∀ X:In (Up wr),_:=fun X=>Up.cell X HC.o.c2
     have t2:∀ X:In (Up wr),_:=fun X=>Up.cell X HD.o.c2
     have s3:∀ X:In (Up wr),_:=fun X=>Up.cell X HC.o.c3
     have t3:∀ X:In (Up wr),_:=fun X=>Up.cell X HD.o.c3
     have s4:∀ X:In (Up wr),_:=fun X=>Up.cell X HC.o.c4
     have t4:∀ X:In (Up wr),_:=fun X=>Up.cell X HD.o.c4
     have s5:∀ X:In (Up wr),_:=fun X=>Up.cell X HC.o.c5
     have t5:∀ X:In (Up wr),_:=fun X=>Up.cell X HD.o.c5
     have s6:∀ X:In (Up wr),_:=fun X=>Up.cell X HC.o.c6
     have t6:∀ X:In (Up wr),_:=fun X=>Up.cell X HD.o.c6
     have i0:(0:Int)<=(k:Int):=by omega
     have i1:(k:Int) < (Xl.length:Int):=by omega
     have j0:(0:Int)<=(m:Int):=by omega
     have j1:(m:Int) < (Xl.length:Int):=by omega
     refine Zal (Up wr) (by kernel_rfl) (by kernel_rfl) (Zb_.drew) ?_
     repeat (go_big_quiet_step ((go_at_call 222;rename_i X;exact (Zni Xl[k] Xl[m] _).mono fun _ _ h=>⟨h.1,Up.next X h.2⟩)))
     refine wpQuiet_nil ?_;intro wn hw;obtain⟨X,hX⟩:=hw;have HWN:Below wr.heap.size wr wn:=by rw [hX];exact X.h
     clear hX X s0 t0 s1 t1 s2 t2 s3 t3 s4 t4 s5 t5 s6 t6 xs xn;go_wp2;go_meet;exact⟨rfl,HWN⟩
    case rest=>
    obtain⟨rfl,hbc⟩:=hcut;have HBc:=Zab (zbt HB.o hbc);clear hbc HC HD
    cases hq:decide (0<=cCp Xl[k] Xl[m]) with
    | true=>
     have HN:Hd (ZcK Zbb Xl=false):=ZaC hlt (HS.o.trans (decide_eq_false (by have:=of_decide_eq_true hq;omega)));go_wp2;go_ret;exact⟨Zaa HN.o.symm,HBc.o⟩
    | false=>
     have HT:Hd (ZfK Zbb Xl m=true):=HS.o.trans (decide_eq_true (by have:=of_decide_eq_false hq;omega));go_wp2;go_roundw
     case rel=>exact⟨m+1,by go_num,by omega,by omega,HBc.o,fun j hj=>by
                by_cases e:j=m
                . rw [e];exact HT.o
                . exact HA.o j (by omega)⟩
     . simp [intOf];omega
  . have HT:Hd (ZcK Zbb Xl=true):=ZaH (fun i hi=>HA.o i (by omega))
    go_wp2;go_ret;exact⟨Zaa HT.o.symm,HB.o⟩
end Go.Proofs.YtbdhbihhgfpnnaaGreat
