import Derived.Test.YtfohnageehneoaaGreatUHC
set_option maxHeartbeats 16000000
set_option maxRecDepth 100000
open Go.Proofs.Tryz
namespace Go.Proofs.YtfohnageehneoaaGreat
open Go.RowKit Go.Deep Go.Maps
variable {Os:List Ob} {m:Nat} {Ls:List Le} {g:Le}
theorem Zag.max' {w:World}{v:Value}{L:List Zy_} (h:Zag w v L):L.length<=maxLen:=by
 rcases h with ⟨_,_,_,rfl⟩ | ⟨b,off,cap,_,_,h3,_⟩
 . exact Nat.zero_le _
 . exact h3
theorem Zk8 (v v':Value) (A C:List Zy_) (w:World) (hA:Zag w v A) (hC:Zag w v' C) :
 Calls prog 264 #[v,v'] w fun e w'=>e=.returned (.bool (decide (A=C)))/\Zw_ w w':=by
 have HA:=Zab hA;have HC:=Zab hC;obtain⟨a,cap,rfl⟩:=hA.form';obtain⟨c,ccap,rfl⟩:=hC.form';have hm:=hA.max';unfold maxLen at hm;clear hA hC
 by_cases hl:A.length=C.length
 case neg=>
  have HE:Hd (decide (A=C)=false):=decide_eq_false (fun e=>hl (by rw [e]));have hne:((A.length:Int) != (C.length:Int))=true:=by simp;omega
  go_enter func264,ntmps264;go_wp2;go_ret;exact⟨Zaa HE.o.symm,Below.refl _ _⟩
 have hne:((A.length:Int) != (C.length:Int))=false:=by rw [hl];simp
 have HLEN:=Zab hl;clear hl;go_enter func264,ntmps264;go_wp2
 go_loopw [13] (fun i wr=>∃ k:Nat,i=.int .i64 k/\k<=A.length/\Zw_ w wr/\∀ j (h:j < A.length) (h':j < C.length),j < k->A[j]=C[j]) (fun i _=>A.length - (intOf i).toNat)
 case atStart=>exact⟨0,rfl,Nat.zero_le _,Below.refl _ _,fun j _ _ h=>by omega⟩
 case round=>
  obtain⟨k,rfl,hk,hb,hall⟩:=hrel;have HB:=Zab hb;have HL:=Zab hall;clear hb hall
  by_cases hlt:k < A.length
  . have hlc:k < C.length:=by have:=HLEN.o;omega
    obtain⟨ab,aoff,rfl,hab,hac,-⟩:=HA.o.spread (by omega);obtain⟨cb,coff,rfl,hcb,hcc,-⟩:=HC.o.spread (by omega);have ca:wr.cell? ⟨ab,aoff+k,none⟩=some (.string A[k]):=(HB.o.cell (p:=⟨ab,aoff+k,none⟩) hab).trans (hac k hlt);have cc:wr.cell? ⟨cb,coff+k,none⟩=some (.string C[k]):=(HB.o.cell (p:=⟨cb,coff+k,none⟩) hcb).trans (hcc k hlc);have hkc:(k:Int) < (C.length:Int):=by omega
    clear hac hcc
    cases hq:(A[k].toList == C[k].toList) with
    | true=>
     have HT:Hd (A[k]=C[k]):=ZaU.1 hq;go_wp2
     go_quiet (fail)
     go_wp2;go_roundw
     case rel=>exact⟨k+1,by go_num,by omega,below_drewN HB.o _,fun j hj hj' hjk=>by
                by_cases e:j=k
                . subst e;exact HT.o
                . exact HL.o j hj hj' (by omega)⟩
     . simp [intOf];omega
    | false=>
     have HN:Hd (decide (A=C)=false):=decide_eq_false (fun e=>Zft.1 hq (by simp [e]));go_wp2
     go_quiet (fail)
     go_wp2;go_ret;exact⟨Zaa HN.o.symm,below_drewN HB.o _⟩
  . have HT:Hd (decide (A=C)=true):=decide_eq_true (List.ext_getElem HLEN.o (fun i h1 h2=>HL.o i h1 h2 (by omega)))
    go_wp2;go_ret;exact⟨Zaa HT.o.symm,HB.o⟩
theorem Zi1 (v v':Value) (A C:List Zy_) (w:World) (hA:Zag w v A) (hC:Zag w v' C) :
 Calls prog 154 #[v,v'] w fun e w'=>e=.returned (.bool (decide (A=C)))/\Zw_ w w':=by
 have HA:=Zab hA;have HC:=Zab hC;obtain⟨a,cap,rfl⟩:=hA.form';obtain⟨c,ccap,rfl⟩:=hC.form';have hm:=hA.max';unfold maxLen at hm;clear hA hC
 by_cases hl:A.length=C.length
 case neg=>
  have HE:Hd (decide (A=C)=false):=decide_eq_false (fun e=>hl (by rw [e]));have hne:((A.length:Int) != (C.length:Int))=true:=by simp;omega
  go_enter func154,ntmps154;go_wp2;go_ret;exact⟨Zaa HE.o.symm,Below.refl _ _⟩
 have hne:((A.length:Int) != (C.length:Int))=false:=by rw [hl];simp
 have HLEN:=Zab hl;clear hl;go_enter func154,ntmps154;go_wp2
 go_loopw [5] (fun i wr=>∃ k:Nat,i=.int .i64 k/\k<=A.length/\Zw_ w wr/\∀ j (h:j < A.length) (h':j < C.length),j < k->A[j]=C[j]) (fun i _=>A.length - (intOf i).toNat)
 case atStart=>exact⟨0,rfl,Nat.zero_le _,Below.refl _ _,fun j _ _ h=>by omega⟩
 case round=>
  obtain⟨k,rfl,hk,hb,hall⟩:=hrel;have HB:=Zab hb;have HL:=Zab hall;clear hb hall
  by_cases hlt:k < A.length
  . have hlc:k < C.length:=by have:=HLEN.o;omega
    obtain⟨ab,aoff,rfl,hab,hac,-⟩:=HA.o.spread (by omega);obtain⟨cb,coff,rfl,hcb,hcc,-⟩:=HC.o.spread (by omega);have ca:wr.cell? ⟨ab,aoff+k,none⟩=some (.string A[k]):=(HB.o.cell (p:=⟨ab,aoff+k,none⟩) hab).trans (hac k hlt);have cc:wr.cell? ⟨cb,coff+k,none⟩=some (.string C[k]):=(HB.o.cell (p:=⟨cb,coff+k,none⟩) hcb).trans (hcc k hlc);have hkc:(k:Int) < (C.length:Int):=by omega
    clear hac hcc
    cases hq:(A[k].toList == C[k].toList) with
    | true=>
     have HT:Hd (A[k]=C[k]):=ZaU.1 hq;go_wp2
     go_quiet (fail)
     go_wp2;go_roundw
     case rel=>exact⟨k+1,by go_num,by omega,below_drewN HB.o _,fun j hj hj' hjk=>by
                by_cases e:j=k
                . subst e;exact HT.o
                . exact HL.o j hj hj' (by omega)⟩
     . simp [intOf];omega
    | false=>
     have HN:Hd (decide (A=C)=false):=decide_eq_false (fun e=>Zft.1 hq (by simp [e]));go_wp2
     go_quiet (fail)
     go_wp2;go_ret;exact⟨Zaa HN.o.symm,below_drewN HB.o _⟩
  . have HT:Hd (decide (A=C)=true):=decide_eq_true (List.ext_getElem HLEN.o (fun i h1 h2=>HL.o i h1 h2 (by omega)))
    go_wp2;go_ret;exact⟨Zaa HT.o.symm,HB.o⟩
def ZgG (k n:Zy_) (x:Ob):Bool:=x.kd.toList == k.toList&&x.nm.toList == n.toList
def obP (Os:List Ob) (k n:Zy_):Int:=if Os.findIdx (ZgG k n) < Os.length then (Os.findIdx (ZgG k n):Int) else -1
theorem Zry {k n:Zy_}{i:Nat} (hi:i < Os.length) (h:ZgG k n Os[i]=true) (hall:∀ j (h:j < Os.length),j < i->ZgG k n Os[j]=false):obP Os k n=i:=by
 have e:Os.findIdx (ZgG k n)=i:=by
  rw [List.findIdx_eq hi];exact⟨h,fun j hj=>hall j (by omega) hj⟩
 unfold obP;rw [e,if_pos hi]
theorem ZsM {k n:Zy_} (hall:∀ j (h:j < Os.length),ZgG k n Os[j]=false):obP Os k n= -1:=by
 have e:Os.findIdx (ZgG k n)=Os.length:=by
  rw [List.findIdx_eq_length];intro x hx;obtain⟨i,hi,rfl⟩:=List.getElem_of_mem hx;exact hall i hi
 unfold obP;rw [e,if_neg (Nat.lt_irrefl _)]
theorem Zr6 (Os:List Ob) (k n:Zy_):decide (obP Os k n < 0)=!Os.any (ZgG k n):=by
 unfold obP
 cases h:Os.any (ZgG k n) with
 | true=>
  obtain⟨x,hx,hp⟩:=List.any_eq_true.1 h;rw [if_pos (List.findIdx_lt_length_of_exists ⟨x,hx,hp⟩)];simp
 | false=>
  have e:Os.findIdx (ZgG k n)=Os.length:=List.findIdx_eq_length.2 (fun x hx=>by
   have:=List.any_eq_false.1 h x hx
   simpa using this)
  rw [e,if_neg (Nat.lt_irrefl _)]
  rfl
section
variable (lo:Nat) (ov gv lv pv:Value) (B:Bk) (t r:Zy_) (w:World)
theorem ZgF (h:ZaY lo w ov gv lv pv B) :
 Calls prog 157 #[.agg #[.int .i64 B.now,.int .i64 B.tick,.int .i64 B.given,ov,gv,lv,pv],.string t,.string r] w fun e w'=>e=.returned (.int .i64 (obP B.os t r))/\Zw_ w w':=by
 have HL:=Zab h.obs;have hm:=h.obs.max;unfold maxLen at hm;obtain⟨a0,k0,rfl⟩:=h.obs.form;obtain⟨a1,k1,rfl⟩:=h.grs.form;obtain⟨a2,k2,rfl⟩:=h.les.form;obtain⟨a3,k3,rfl⟩:=h.pus.form;clear h;go_enter func157,ntmps157;go_wp2_with fail;generalize hWa:w.alloc _=Wa;have HB:Hd (Zw_ w Wa):=by rw [<- hWa];exact Zac w _
 have HX:Hd (Box Wa w.heap.size #[.int .i64 B.now,.int .i64 B.tick,.int .i64 B.given,.slice a0 B.os.length k0,.slice a1 B.gs.length k1,.slice a2 B.ls.length k2,.slice a3 B.ps.length k3]):=by rw [<- hWa];exact Box.new _ _ _ _ rfl
 clear hWa;have x5:=HX.o.cell 3;simp at x5
 go_loop [7] (fun i=>∃ k:Nat,i=.int .i64 k/\k<=B.os.length/\∀ j (h:j < B.os.length),j < k->ZgG t r B.os[j]=false) (fun i=>B.os.length - (intOf i).toNat)
 case atStart=>exact⟨0,rfl,Nat.zero_le _,fun j _ h=>by omega⟩
 case round=>
  obtain⟨k,rfl,hk,hall⟩:=hrel;have HA:=Zab hall;clear hall
  by_cases hlt:k < B.os.length
  . obtain⟨b,off,rfl,hbw,-,hc⟩:=HL.o.full' (by omega)
    obtain⟨hs,vv0,vv1,hcell,-,-⟩:=hc k hlt;obtain⟨c0,c1,c2,c3,c4,c5,c6⟩:=hcell.below HB.o hbw;have HI:Hd (ZgG t r B.os[k]=(B.os[k].kd.toList == t.toList&&B.os[k].nm.toList == r.toList)):=rfl;clear hc hcell hs
    cases h1:(B.os[k].kd.toList == t.toList) with
    | false=>
     have HE:Hd (ZgG t r B.os[k]=false):=by unfold Hd;rw [HI.o,h1];rfl
     go_wp2
     go_round
     case rel=>exact⟨k+1,by go_num,by omega,fun j hj hjk=>by
                by_cases e:j=k
                . subst e;exact HE.o
                . exact HA.o j hj (by omega)⟩
     . simp [intOf];omega
    | true=>
     cases h2:(B.os[k].nm.toList == r.toList) with
     | false=>
      have HE:Hd (ZgG t r B.os[k]=false):=by unfold Hd;rw [HI.o,h1,h2];rfl
      go_wp2
      go_round
      case rel=>exact⟨k+1,by go_num,by omega,fun j hj hjk=>by
                 by_cases e:j=k
                 . subst e;exact HE.o
                 . exact HA.o j hj (by omega)⟩
      . simp [intOf];omega
     | true=>
      have HE:Hd (obP B.os t r=k):=Zry hlt (by rw [HI.o,h1,h2];rfl) HA.o;go_wp2;go_ret;exact⟨ZaC HE.o.symm,HB.o⟩
  . have HE:Hd (obP B.os t r= -1):=ZsM (fun i hi=>HA.o i hi (by omega))
    go_wp2;go_ret;exact⟨ZaC HE.o.symm,HB.o⟩
end
theorem Zl3:ZeT prog 317 9:=
 ⟨⟨_,_,underlying317,rfl,rfl,rfl,rfl,by decide,by decide⟩,by kernel_rfl,by kernel_rfl,underlying9,by kernel_rfl,of_decide_eq_true (by kernel_rfl)⟩
theorem ZsK:(317:TypeId) < prog.types.size:=of_decide_eq_true (by kernel_rfl)
theorem ZsY:prog.keyTypeAt 2 317=true:=by kernel_rfl
theorem Zre:WideMaps.KeyLaw prog 317:=deep_law_laid ZoF (by decide) ZsK ZsY Zl3.wide
theorem ZlO:Keyed prog 317:=Keyed.of_law Zre
structure Zqu {H:Type} (Os:List Ob) (D:DataW H):Prop where
 isMap:IsMap D
 has:∀ a b:Zy_,a.size<=maxLen->b.size<=maxLen->Maps.has D (Zfd a b)=Os.any (ZgG a b)
theorem Zqu.start {H:Type}:Zqu [] (.map []:DataW H):=⟨⟨[],rfl⟩,fun _ _ _ _=>rfl⟩
theorem Zqu.step {H:Type}{D:DataW H} (h:Zqu Os D) (o:Ob) (hz:ZcN o) (d:DataW H):Zqu (Os ++ [o]) (D.put (Zfd o.kd o.nm) d):=by
 refine⟨h.isMap.put _ _,fun a b ha hb=>?_⟩;rw [List.any_append]
 by_cases e:a=o.kd/\b=o.nm
 . obtain⟨rfl,rfl⟩:=e
   rw [has_put_same h.isMap (Zhk _ _)];unfold ZgG;simp
 . have hne:Zfd a b≠Zfd o.kd o.nm:=fun e'=>e (Zl3.inj Zre ha hb hz.s0 hz.s1 e')
   have hn:ZgG a b o=false:=by
    unfold ZgG
    cases h1:(o.kd.toList == a.toList) with
    | false=>rfl
    | true=>
     cases h2:(o.nm.toList == b.toList) with
     | false=>rfl
     | true=>exact absurd ⟨(ZaU.1 h1).symm,(ZaU.1 h2).symm⟩ e
   rw [has_put_other hne,h.has a b ha hb];simp [hn]
theorem Zps (x:Ob) (va:Option Addr) (vn vc:Nat) (ha:Option Addr) (hn hc:Nat) (w:World) :
 Calls prog 262 #[.agg #[.string x.kd,.string x.nm,.string x.tm,.slice va vn vc,.bool x.en,.slice ha hn hc,.int .i64 x.ver]] w
  fun e w'=>e=.returned (.agg #[.string x.kd,.string x.nm])/\Zw_ w w':=by
 go_enter func262,ntmps262;go_wp2;refine bodyPost_ret (v:=.agg #[.string x.kd,.string x.nm]) (by simp [results,results262,go_sem]) rfl ⟨rfl,?_⟩
 repeat (refine Below.setCell ?_ (by simp) _)
 exact (Zb_.alloc Zl_ _).alloc (by simp) _
theorem Zm0 (lo:Nat) (v:Value) (Os:List Ob) (w:World) (hv:Zbu lo w v Os) (hn:Os.length<=1048576) :
 Calls prog 234 #[v] w
  fun e w'=>e=.returned (.map (some w.heap.size))/\Zw_ w w'/\∃ D:DataW Unit,w'.ownsMap prog 317 (plainElem prog 3) w.heap.size Os.length D/\Zqu Os D:=by
 have HV:=Zab hv;obtain⟨a,cap,rfl⟩:=hv.form;clear hv;have hmm:∀ (n:Nat) (w:World),(Instr.makeMap 292 (some (.int .i64 n))).run prog w=.ok (.map (some w.heap.size)) (w.alloc (.map #[] 0)):=fun n w=>by simp [Instr.makeMap,go_sem,run_underlying underlying292,Result.andThen]
 go_enter func234,ntmps234;go_wp2;clear hmm
 go_loopw [11] (fun i wr=>∃ k:Nat,i=.int .i64 k/\k<=Os.length/\Zw_ w wr/\∃ D:DataW Unit,wr.ownsMap prog 317 (plainElem prog 3) w.heap.size k D/\Zqu (Os.take k) D) (fun i _=>Os.length - (intOf i).toNat)
 case atStart=>exact⟨0,rfl,Nat.zero_le _,Zac _ _,.map [],World.ownsMap_made _ _ _ _,Zqu.start⟩
 case round=>
  obtain⟨k,rfl,hk,hb,D,ho,hsum⟩:=hrel;have HB:=Zab hb;have HSUM:=Zab hsum;clear hb hsum
  by_cases hlt:k < Os.length
  . obtain⟨b,off,rfl,hbw,-,hc⟩:=HV.o.full' (by omega)
    obtain⟨hs,vv0,vv1,hcell,hv0,hv1⟩:=hc k hlt;obtain⟨c0,c1,c2,c3,c4,c5,c6⟩:=hcell.below HB.o hbw;obtain⟨va,vc,rfl⟩:=hv0.at.form';obtain⟨ha,hc',rfl⟩:=hv1.at.form';have HZ:=Zab hs;have HO:=Zab ho;have HTK:=Zab (List.take_succ_eq_append_getElem hlt);clear hc hcell hs hv0 hv1 ho;go_wp2_with fail;refine (Zps Os[k] _ _ _ _ _ _ _).mono ?_;rintro e w1 ⟨rfl,hb1⟩;have HB1:Hd (Zw_ w w1):=(HB.o.trans ((Zac _ _).mono HB.o.size)).trans (hb1.mono (HB.o.trans ((Zac _ _).mono HB.o.size)).size);have ho1:w1.ownsMap prog 317 (plainElem prog 3) w.heap.size k D:=(HO.o.alloc _).kept (ZaM hb1) (by simp);clear hb1
    go_wp2_with (at_mapUpdate;refine wpList_mapUpdate_own _ rfl _ _ _ 292 rfl 317 3 ZlO underlying292 _ w.heap.size k _ rfl ho1 (by unfold maxLen;omega) _ _ _ rfl rfl (Zl3.mk' HZ.o.s0 HZ.o.s1) _ [] (plainElem_int underlying3 (WalkArith.wf_i64 (by omega))) ?_;intro w2 ho2 hg2;have HO2:=Zab ho2;have HG2:=Zab hg2;clear ho2 hg2);go_roundw
    . exact⟨k+1,by go_num,by omega,ZcD HB1.o HG2.o Zl_,_,HO2.o,by rw [HTK.o];exact HSUM.o.step _ HZ.o _⟩
    . simp [intOf];omega
  . have he:k=Os.length:=by omega
    subst he;have HT:Hd (Os.take Os.length=Os):=List.take_length;have HO:=Zab ho;clear ho;go_wp2;go_ret;exact⟨rfl,HB.o,D,HO.o,HT.o ▸ HSUM.o⟩
theorem ZmT {B:Bk} (hm:m < B.ps.length) (h:puB B B.ps[m]=false):Za8 B=false:=by
 unfold Za8;rw [ZcR hm h,Bool.and_false]
theorem ZmQ {B:Bk} (hm:m < B.ps.length) (h:ZcP Zgx B.ps m=false):Za8 B=false:=by
 unfold Za8;rw [show Zdn Zgx B.ps=false from Za3 hm h,Bool.and_false,Bool.false_and]
theorem Znv {B:Bk} (hl:B.ps.length<=24) (h1:∀ j (h:j < B.ps.length),puB B B.ps[j]=true) (h2:∀ j,j < B.ps.length->ZcP Zgx B.ps j=true):Za8 B=true:=by
 unfold Za8;rw [decide_eq_true hl,Zeh h1,show Zdn Zgx B.ps=true from Za7 h2]
 rfl
theorem Zdp {Ts:List Tm} (hm:m < Ls.length) (h:leB Ts Ls[m]=false):ZaI Ts Ls=false:=by
 unfold ZaI;rw [ZcR hm h,Bool.and_false]
theorem ZlE {Ts:List Tm} (hm:m < Ls.length) (h:ZcP Zce Ls m=false):ZaI Ts Ls=false:=by
 unfold ZaI;rw [show Zdn Zce Ls=false from Za3 hm h,Bool.and_false,Bool.false_and]
theorem Zlo {Ts:List Tm} (hl:Ls.length<=10) (h1:∀ j (h:j < Ls.length),leB Ts Ls[j]=true) (h2:∀ j,j < Ls.length->ZcP Zce Ls j=true):ZaI Ts Ls=true:=by
 unfold ZaI;rw [decide_eq_true hl,Zeh h1,show Zdn Zce Ls=true from Za7 h2]
 rfl
def Zgk (Ss:List Sh) (Ts:List Tm) (B:Bk):Bool:=ZaI Ts B.ls&&(Za8 B&&Zkz Ss Ts B)
theorem ZkV {Ss:List Sh}{Ts:List Tm}{B:Bk} (h:ZaI Ts B.ls=false):Zgk Ss Ts B=false:=by unfold Zgk;rw [h];rfl
theorem ZrW {Ss:List Sh}{Ts:List Tm}{B:Bk} (h:Za8 B=false):Zgk Ss Ts B=false:=by unfold Zgk;rw [h,Bool.false_and,Bool.and_false]
theorem ZsZ {Ss:List Sh}{Ts:List Tm}{B:Bk} (h:Zkz Ss Ts B=false):Zgk Ss Ts B=false:=by unfold Zgk;rw [h,Bool.and_false,Bool.and_false]
theorem Zr3 {Ss:List Sh}{Ts:List Tm}{B:Bk} (h:ZaI Ts B.ls=true) (h1:Za8 B=true) (h2:Zkz Ss Ts B=true):Zgk Ss Ts B=true:=by unfold Zgk;rw [h,h1,h2];rfl
theorem Zl7 {X:Type}{c:X->X->Int}{L:List X} (h:∀ j,j < m->ZcP c L j=true) (hm:ZcP c L m=true):∀ j,j < m+1->ZcP c L j=true:=fun j hj=>by
 by_cases e:j=m
 . subst e;exact hm
 . exact h j (by omega)
theorem Zr1 {Ts:List Tm} (h:Zec Ts g.tm=false):leB Ts g=false:=by unfold leB;rw [h];rfl
theorem ZrF {Ts:List Tm} (h:Zan g.re=false):leB Ts g=false:=by unfold leB;rw [h,Bool.and_false];rfl
theorem Zk2 {Ts:List Tm} (h:¬ (0<=g.fr/\g.fr<=g.mo/\g.mo<=1000000)):leB Ts g=false:=by
 unfold leB inB
 by_cases h1:0<=g.mo/\g.mo<=1000000
 . rw [show decide (0<=g.fr/\g.fr<=g.mo)=false from decide_eq_false (by omega),Bool.and_false]
 . rw [decide_eq_false h1,Bool.and_false,Bool.false_and]
theorem Zro {Ts:List Tm} (h1:Zec Ts g.tm=true) (h2:Zan g.re=true) (h:0<=g.fr/\g.fr<=g.mo/\g.mo<=1000000):leB Ts g=true:=by
 unfold leB inB;rw [h1,h2,decide_eq_true (by omega),decide_eq_true (by omega)]
 rfl
section
variable (lo:Nat) (sv mv tv ov gv lv pv:Value) (Ss:List Sh) (Ms:List Md) (Ts:List Tm) (B:Bk) (w:World)
theorem ZjM (hl:ZbC lo w sv mv tv Ss Ms Ts) (h:ZaY lo w ov gv lv pv B) (hn:Zbp B.os) (ht:inB 0 1000000 B.tick=true) :
 Calls prog 95 #[.agg #[sv,mv,tv],.agg #[.int .i64 B.now,.int .i64 B.tick,.int .i64 B.given,ov,gv,lv,pv]] w fun e w'=>e=.returned (.bool (Zgk Ss Ts B))/\Zw_ w w':=by
 have HL:=Zab hl;have HK:=Zab h;have HN:=Zab hn
 have hti:wrap64 (B.tick+10)=B.tick+10:=by
  have:=of_decide_eq_true ht;unfold wrap64
  omega
 obtain⟨sa,sc,rfl⟩:=hl.shs.form;obtain⟨ma,mc,rfl⟩:=hl.mds.form;obtain⟨ta,tc,rfl⟩:=hl.tms.form;obtain⟨a0,k0,rfl⟩:=h.obs.form;obtain⟨a1,k1,rfl⟩:=h.grs.form;obtain⟨a2,k2,rfl⟩:=h.les.form;obtain⟨a3,k3,rfl⟩:=h.pus.form;clear hl h hn ht
 by_cases hll:B.ls.length<=10
 case neg=>
  have HE:Hd (Zgk Ss Ts B=false):=ZkV (by unfold ZaI;rw [decide_eq_false hll];rfl);have hgt:decide ((10:Int) < (B.ls.length:Int))=true:=by simp;omega
  go_enter func95,ntmps95;go_wp2;go_ret;exact⟨Zaa HE.o.symm,(Zac w _).alloc (by simp) _⟩
 have hgt:decide ((10:Int) < (B.ls.length:Int))=false:=by simp;omega
 by_cases hpl:B.ps.length<=24
 case neg=>
  have HE:Hd (Zgk Ss Ts B=false):=ZrW (by unfold Za8;rw [decide_eq_false hpl];rfl);have hgt':decide ((24:Int) < (B.ps.length:Int))=true:=by simp;omega
  go_enter func95,ntmps95;go_wp2;go_ret;exact⟨Zaa HE.o.symm,(Zac w _).alloc (by simp) _⟩
 have hgt':decide ((24:Int) < (B.ps.length:Int))=false:=by simp;omega
 go_enter func95,ntmps95;go_wp2;generalize hWa:(World.alloc (w.alloc _) _)=Wa;have HB:Hd (Zw_ w Wa):=by rw [<- hWa];exact (Zac w _).alloc (by simp) _
 have HX:Hd (Box Wa w.heap.size #[.slice sa Ss.length sc,.slice ma Ms.length mc,.slice ta Ts.length tc]):=by rw [<- hWa];exact (Box.new _ _ _ _ rfl).on (Zac _ _)
 have HY:Hd (Box Wa (w.heap.size+1) #[.int .i64 B.now,.int .i64 B.tick,.int .i64 B.given,.slice a0 B.os.length k0,.slice a1 B.gs.length k1,.slice a2 B.ls.length k2,.slice a3 B.ps.length k3]):=by rw [<- hWa];exact Box.new _ _ _ _ (by simp)
 clear hWa hgt hgt'
 go_loopw [5] (fun i wr=>∃ m:Nat,i=.int .i64 m/\m<=B.ps.length/\Zw_ w wr/\Box wr w.heap.size #[.slice sa Ss.length sc,.slice ma Ms.length mc,.slice ta Ts.length tc]/\Box wr (w.heap.size+1) #[.int .i64 B.now,.int .i64 B.tick,.int .i64 B.given,.slice a0 B.os.length k0,.slice a1 B.gs.length k1,.slice a2 B.ls.length k2,.slice a3 B.ps.length k3]/\(∀ j (h:j < B.ps.length),j < m->puB B B.ps[j]=true)/\∀ j,j < m->ZcP Zgx B.ps j=true) (fun i _=>B.ps.length - (intOf i).toNat)
 case atStart=>exact⟨0,rfl,Nat.zero_le _,HB.o,HX.o,HY.o,fun j _ h=>by omega,fun j h=>by omega⟩
 case round=>
  obtain⟨m,rfl,hm,hb,hx,hx2,hall,hris⟩:=hrel;have HBr:=Zab hb;have HXr:=Zab hx;have HYr:=Zab hx2;have HA:=Zab hall;have HS:=Zab hris;have x6:=hx2.cell 6;simp at x6;clear hb hx hx2 hall hris HB HX HY
  by_cases hlt:m < B.ps.length
  . obtain⟨b,off,rfl,hbw,-,hc⟩:=HK.o.pus.full' (by omega)
    obtain⟨hs,hcell⟩:=hc m hlt;obtain⟨c0,c1,c2,c3,c4⟩:=hcell.below HBr.o hbw;have HZ:=Zab hs;have HQ:Hd (puB B B.ps[m]=(B.ls.any (ZbV B.ps[m].tm B.ps[m].re)&&Zan B.ps[m].dr&&inB 1 1000000 B.ps[m].am&&inB B.tick (B.tick+10) B.ps[m].un)):=rfl;go_wp2;generalize hWq:wr.alloc _=Wq;have HBq:Hd (Below wr.heap.size wr Wq):=by rw [<- hWq];exact Zac _ _
    have HPq:Hd (Box Wq wr.heap.size #[.string B.ps[m].dr,.string B.ps[m].tm,.string B.ps[m].re,.int .i64 B.ps[m].am,.int .i64 B.ps[m].un]):=by rw [<- hWq];exact Box.new _ _ _ _ rfl
    clear hWq;have HXq:=Zab (HXr.o.on HBq.o);have HYq:=Zab (HYr.o.on HBq.o);have HBw:Hd (Zw_ w Wq):=HBr.o.trans (HBq.o.mono HBr.o.size);clear c0 c1 c2 c3 c4 hcell hs x6;generalize hβ:wr.heap.size=β at*
    go_cut [75] (fun c wc=>c=.bool (!(puB B B.ps[m]&&ZcP Zgx B.ps m))/\Below Wq.heap.size Wq wc)
    case first=>
     have xn:Nonempty (In (Up Wq)):=⟨⟨Wq,Below.refl _ _⟩⟩;have xs:=fun (X:In (Up Wq))=>ZbJ X
     have x0:∀ X:In (Up Wq),X.w.cell? ⟨w.heap.size+1,0,none⟩=some (.int .i64 B.now):=fun X=>Up.cell X (by rw [HYq.o.cell 0];rfl)
     have x1:∀ X:In (Up Wq),X.w.cell? ⟨w.heap.size+1,1,none⟩=some (.int .i64 B.tick):=fun X=>Up.cell X (by rw [HYq.o.cell 1];rfl)
     have x2:∀ X:In (Up Wq),X.w.cell? ⟨w.heap.size+1,2,none⟩=some (.int .i64 B.given):=fun X=>Up.cell X (by rw [HYq.o.cell 2];rfl)
     have x3:∀ X:In (Up Wq),X.w.cell? ⟨w.heap.size+1,3,none⟩=some (.slice a0 B.os.length k0):=fun X=>Up.cell X (by rw [HYq.o.cell 3];rfl)
     have x4:∀ X:In (Up Wq),X.w.cell? ⟨w.heap.size+1,4,none⟩=some (.slice a1 B.gs.length k1):=fun X=>Up.cell X (by rw [HYq.o.cell 4];rfl)
     have x5:∀ X:In (Up Wq),X.w.cell? ⟨w.heap.size+1,5,none⟩=some (.slice a2 B.ls.length k2):=fun X=>Up.cell X (by rw [HYq.o.cell 5];rfl)
     have x6:∀ X:In (Up Wq),X.w.cell? ⟨w.heap.size+1,6,none⟩=some (.slice (some ⟨b,off,none⟩) B.ps.length k3):=fun X=>Up.cell X (by rw [HYq.o.cell 6];rfl)
     have y0:∀ X:In (Up Wq),X.w.cell? ⟨β,0,none⟩=some (.string B.ps[m].dr):=fun X=>Up.cell X (by rw [HPq.o.cell 0];rfl)
     have y1:∀ X:In (Up Wq),X.w.cell? ⟨β,1,none⟩=some (.string B.ps[m].tm):=fun X=>Up.cell X (by rw [HPq.o.cell 1];rfl)
     have y2:∀ X:In (Up Wq),X.w.cell? ⟨β,2,none⟩=some (.string B.ps[m].re):=fun X=>Up.cell X (by rw [HPq.o.cell 2];rfl)
     have y3:∀ X:In (Up Wq),X.w.cell? ⟨β,3,none⟩=some (.int .i64 B.ps[m].am):=fun X=>Up.cell X (by rw [HPq.o.cell 3];rfl)
     have y4:∀ X:In (Up Wq),X.w.cell? ⟨β,4,none⟩=some (.int .i64 B.ps[m].un):=fun X=>Up.cell X (by rw [HPq.o.cell 4];rfl)
     have sw0:=HZ.o.s0;have sw1:=HZ.o.s1;have sw2:=HZ.o.s2;have hd2:=ZiU B.ls B.ps[m].tm B.ps[m].re
     by_cases h0:m=0
     . have hd0:decide (0 < m)=false:=by simp;omega
       have HRI:Hd (ZcP Zgx B.ps m=true):=by unfold Hd;rw [h0];rfl
       clear h0 hc;refine Zam (Up Wq) (by kernel_rfl) (by kernel_rfl) (Zb_.drew) ?_
       cases h1:Zan B.ps[m].dr with
       | false=>
        repeat (go_big_quiet_step (
         first
         | (go_at_call 38;rename_i X;exact (Zar _ _ _ _).mono fun _ _ h=>⟨h.1,X,h.2⟩)
         | (go_at_call 37;rename_i X;exact (Zaf _ _ (by with_reducible assumption)).mono fun _ _ h=>⟨h.1,X,h.2⟩)
         | (go_at_call 36;rename_i X;exact (ZaW lo _ _ _ _ B _ _ _ (HK.o.below (HBw.o.trans (X.h.mono HBw.o.size)))).mono fun _ _ h=>⟨h.1,Up.next X h.2⟩)))
        refine wpQuiet_nil ?_;intro wn hw;obtain⟨X,hX⟩:=hw;have HWN:Below Wq.heap.size Wq wn:=by rw [hX];exact X.h
        clear hX X xs xn x0 x1 x2 x3 x4 x5 x6 y0 y1 y2 y3 y4;go_wp2;go_meet;exact⟨congrArg Value.bool (by rw [HQ.o,h1,Bool.and_false];rfl),HWN⟩
       | true=>
        cases h2:B.ls.any (ZbV B.ps[m].tm B.ps[m].re) with
        | false=>
         rw [h2] at hd2
         repeat (go_big_quiet_step (
          first
          | (go_at_call 38;rename_i X;exact (Zar _ _ _ _).mono fun _ _ h=>⟨h.1,X,h.2⟩)
          | (go_at_call 37;rename_i X;exact (Zaf _ _ (by with_reducible assumption)).mono fun _ _ h=>⟨h.1,X,h.2⟩)
          | (go_at_call 36;rename_i X;exact (ZaW lo _ _ _ _ B _ _ _ (HK.o.below (HBw.o.trans (X.h.mono HBw.o.size)))).mono fun _ _ h=>⟨h.1,Up.next X h.2⟩)))
         refine wpQuiet_nil ?_;intro wn hw;obtain⟨X,hX⟩:=hw;have HWN:Below Wq.heap.size Wq wn:=by rw [hX];exact X.h
         clear hX X xs xn x0 x1 x2 x3 x4 x5 x6 y0 y1 y2 y3 y4;go_wp2;go_meet;exact⟨congrArg Value.bool (by rw [HQ.o,h2];rfl),HWN⟩
        | true=>
         rw [h2] at hd2
         cases h3:inB 1 1000000 B.ps[m].am with
         | false=>
          repeat (go_big_quiet_step (
           first
           | (go_at_call 38;rename_i X;exact (Zar _ _ _ _).mono fun _ _ h=>⟨h.1,X,h.2⟩)
           | (go_at_call 37;rename_i X;exact (Zaf _ _ (by with_reducible assumption)).mono fun _ _ h=>⟨h.1,X,h.2⟩)
           | (go_at_call 36;rename_i X;exact (ZaW lo _ _ _ _ B _ _ _ (HK.o.below (HBw.o.trans (X.h.mono HBw.o.size)))).mono fun _ _ h=>⟨h.1,Up.next X h.2⟩)))
          refine wpQuiet_nil ?_;intro wn hw;obtain⟨X,hX⟩:=hw;have HWN:Below Wq.heap.size Wq wn:=by rw [hX];exact X.h
          clear hX X xs xn x0 x1 x2 x3 x4 x5 x6 y0 y1 y2 y3 y4;go_wp2;go_meet;exact⟨congrArg Value.bool (by rw [HQ.o,h2,h1,h3];rfl),HWN⟩
         | true=>
          cases h4:inB B.tick (B.tick+10) B.ps[m].un with
          | false=>
           repeat (go_big_quiet_step (
            first
            | (go_at_call 38;rename_i X;exact (Zar _ _ _ _).mono fun _ _ h=>⟨h.1,X,h.2⟩)
            | (go_at_call 37;rename_i X;exact (Zaf _ _ (by with_reducible assumption)).mono fun _ _ h=>⟨h.1,X,h.2⟩)
            | (go_at_call 36;rename_i X;exact (ZaW lo _ _ _ _ B _ _ _ (HK.o.below (HBw.o.trans (X.h.mono HBw.o.size)))).mono fun _ _ h=>⟨h.1,Up.next X h.2⟩)))
           refine wpQuiet_nil ?_;intro wn hw;obtain⟨X,hX⟩:=hw;have HWN:Below Wq.heap.size Wq wn:=by rw [hX];exact X.h
           clear hX X xs xn x0 x1 x2 x3 x4 x5 x6 y0 y1 y2 y3 y4;go_wp2;go_meet;exact⟨congrArg Value.bool (by rw [HQ.o,h2,h1,h3,h4];rfl),HWN⟩
          | true=>
           repeat (go_big_quiet_step (
            first
            | (go_at_call 38;rename_i X;exact (Zar _ _ _ _).mono fun _ _ h=>⟨h.1,X,h.2⟩)
            | (go_at_call 37;rename_i X;exact (Zaf _ _ (by with_reducible assumption)).mono fun _ _ h=>⟨h.1,X,h.2⟩)
            | (go_at_call 36;rename_i X;exact (ZaW lo _ _ _ _ B _ _ _ (HK.o.below (HBw.o.trans (X.h.mono HBw.o.size)))).mono fun _ _ h=>⟨h.1,Up.next X h.2⟩)))
           refine wpQuiet_nil ?_;intro wn hw;obtain⟨X,hX⟩:=hw;have HWN:Below Wq.heap.size Wq wn:=by rw [hX];exact X.h
           clear hX X xs xn x0 x1 x2 x3 x4 x5 x6 y0 y1 y2 y3 y4;go_wp2;go_meet;exact⟨congrArg Value.bool (by rw [HQ.o,h2,h1,h3,h4,HRI.o];rfl),HWN⟩
     . have hd0:decide (0 < m)=true:=by simp;omega
       obtain⟨k,hkm⟩:∃ k,m=k+1:=⟨m - 1,by omega⟩
       have hltk:k < B.ps.length:=by omega
       obtain⟨hsk,hck⟩:=hc k hltk;have yk0:∀ X:In (Up Wq),X.w.cell? ⟨b,off+k*5,none⟩=some (.string B.ps[k].dr):=fun X=>Up.cell X (hck.below HBw.o hbw).c0
       have yk1:∀ X:In (Up Wq),X.w.cell? ⟨b,off+k*5+1,none⟩=some (.string B.ps[k].tm):=fun X=>Up.cell X (hck.below HBw.o hbw).c1
       have yk2:∀ X:In (Up Wq),X.w.cell? ⟨b,off+k*5+2,none⟩=some (.string B.ps[k].re):=fun X=>Up.cell X (hck.below HBw.o hbw).c2
       have yk3:∀ X:In (Up Wq),X.w.cell? ⟨b,off+k*5+3,none⟩=some (.int .i64 B.ps[k].am):=fun X=>Up.cell X (hck.below HBw.o hbw).c3
       have yk4:∀ X:In (Up Wq),X.w.cell? ⟨b,off+k*5+4,none⟩=some (.int .i64 B.ps[k].un):=fun X=>Up.cell X (hck.below HBw.o hbw).c4
       have HRI0:Hd (ZcP Zgx B.ps m=decide (ZmA B.ps[k].dr B.ps[k].tm B.ps[k].re B.ps[m].dr B.ps[m].tm B.ps[m].re < 0)):=by
        subst hkm;unfold Hd;rw [Zd9 hlt]
        rfl
       have e2:IntKind.i64.wrap ((m:Int) - 1)=k:=by rw [IntWalk.i64_left];unfold wrap64;omega
       have e3:wrap64 ((m:Int) - 1)=k:=by unfold wrap64;omega
       have e4:(m:Int) - 1=k:=by omega
       have HKM:=Zab hkm;clear h0 hc hsk hck hkm;refine Zam (Up Wq) (by kernel_rfl) (by kernel_rfl) (Zb_.drew) ?_
       cases h1:Zan B.ps[m].dr with
       | false=>
        repeat (go_big_quiet_step (
         first
         | (go_at_call 38;rename_i X;exact (Zar _ _ _ _).mono fun _ _ h=>⟨h.1,X,h.2⟩)
         | (go_at_call 37;rename_i X;exact (Zaf _ _ (by with_reducible assumption)).mono fun _ _ h=>⟨h.1,X,h.2⟩)
         | (go_at_call 36;rename_i X;exact (ZaW lo _ _ _ _ B _ _ _ (HK.o.below (HBw.o.trans (X.h.mono HBw.o.size)))).mono fun _ _ h=>⟨h.1,Up.next X h.2⟩)
         | (go_at_call 99;rename_i X;exact (Zcp B.ps[k] B.ps[m] _).mono fun _ _ h=>⟨h.1,Up.next X h.2⟩)))
        refine wpQuiet_nil ?_;intro wn hw;obtain⟨X,hX⟩:=hw;have HWN:Below Wq.heap.size Wq wn:=by rw [hX];exact X.h
        clear hX X xs xn x0 x1 x2 x3 x4 x5 x6 y0 y1 y2 y3 y4 yk0 yk1 yk2 yk3 yk4;go_wp2;go_meet;exact⟨congrArg Value.bool (by rw [HQ.o,h1,Bool.and_false];rfl),HWN⟩
       | true=>
        cases h2:B.ls.any (ZbV B.ps[m].tm B.ps[m].re) with
        | false=>
         rw [h2] at hd2
         repeat (go_big_quiet_step (
          first
          | (go_at_call 38;rename_i X;exact (Zar _ _ _ _).mono fun _ _ h=>⟨h.1,X,h.2⟩)
          | (go_at_call 37;rename_i X;exact (Zaf _ _ (by with_reducible assumption)).mono fun _ _ h=>⟨h.1,X,h.2⟩)
          | (go_at_call 36;rename_i X;exact (ZaW lo _ _ _ _ B _ _ _ (HK.o.below (HBw.o.trans (X.h.mono HBw.o.size)))).mono fun _ _ h=>⟨h.1,Up.next X h.2⟩)
          | (go_at_call 99;rename_i X;exact (Zcp B.ps[k] B.ps[m] _).mono fun _ _ h=>⟨h.1,Up.next X h.2⟩)))
         refine wpQuiet_nil ?_;intro wn hw;obtain⟨X,hX⟩:=hw;have HWN:Below Wq.heap.size Wq wn:=by rw [hX];exact X.h
         clear hX X xs xn x0 x1 x2 x3 x4 x5 x6 y0 y1 y2 y3 y4 yk0 yk1 yk2 yk3 yk4;go_wp2;go_meet;exact⟨congrArg Value.bool (by rw [HQ.o,h2];rfl),HWN⟩
        | true=>
         rw [h2] at hd2
         cases h3:inB 1 1000000 B.ps[m].am with
         | false=>
          repeat (go_big_quiet_step (
           first
           | (go_at_call 38;rename_i X;exact (Zar _ _ _ _).mono fun _ _ h=>⟨h.1,X,h.2⟩)
           | (go_at_call 37;rename_i X;exact (Zaf _ _ (by with_reducible assumption)).mono fun _ _ h=>⟨h.1,X,h.2⟩)
           | (go_at_call 36;rename_i X;exact (ZaW lo _ _ _ _ B _ _ _ (HK.o.below (HBw.o.trans (X.h.mono HBw.o.size)))).mono fun _ _ h=>⟨h.1,Up.next X h.2⟩)
           | (go_at_call 99;rename_i X;exact (Zcp B.ps[k] B.ps[m] _).mono fun _ _ h=>⟨h.1,Up.next X h.2⟩)))
          refine wpQuiet_nil ?_;intro wn hw;obtain⟨X,hX⟩:=hw;have HWN:Below Wq.heap.size Wq wn:=by rw [hX];exact X.h
          clear hX X xs xn x0 x1 x2 x3 x4 x5 x6 y0 y1 y2 y3 y4 yk0 yk1 yk2 yk3 yk4;go_wp2;go_meet;exact⟨congrArg Value.bool (by rw [HQ.o,h2,h1,h3];rfl),HWN⟩
         | true=>
          cases h4:inB B.tick (B.tick+10) B.ps[m].un with
          | false=>
           repeat (go_big_quiet_step (
            first
            | (go_at_call 38;rename_i X;exact (Zar _ _ _ _).mono fun _ _ h=>⟨h.1,X,h.2⟩)
            | (go_at_call 37;rename_i X;exact (Zaf _ _ (by with_reducible assumption)).mono fun _ _ h=>⟨h.1,X,h.2⟩)
            | (go_at_call 36;rename_i X;exact (ZaW lo _ _ _ _ B _ _ _ (HK.o.below (HBw.o.trans (X.h.mono HBw.o.size)))).mono fun _ _ h=>⟨h.1,Up.next X h.2⟩)
            | (go_at_call 99;rename_i X;exact (Zcp B.ps[k] B.ps[m] _).mono fun _ _ h=>⟨h.1,Up.next X h.2⟩)))
           refine wpQuiet_nil ?_;intro wn hw;obtain⟨X,hX⟩:=hw;have HWN:Below Wq.heap.size Wq wn:=by rw [hX];exact X.h
           clear hX X xs xn x0 x1 x2 x3 x4 x5 x6 y0 y1 y2 y3 y4 yk0 yk1 yk2 yk3 yk4;go_wp2;go_meet;exact⟨congrArg Value.bool (by rw [HQ.o,h2,h1,h3,h4];rfl),HWN⟩
          | true=>
           by_cases hnu:ZmA B.ps[k].dr B.ps[k].tm B.ps[k].re B.ps[m].dr B.ps[m].tm B.ps[m].re < 0
           . have HRI:Hd (ZcP Zgx B.ps m=true):=HRI0.o.trans (decide_eq_true hnu)
             have hd1:decide (0<=ZmA B.ps[k].dr B.ps[k].tm B.ps[k].re B.ps[m].dr B.ps[m].tm B.ps[m].re)=false:=by simp;omega
             clear hnu
             repeat (go_big_quiet_step (
              first
              | (go_at_call 38;rename_i X;exact (Zar _ _ _ _).mono fun _ _ h=>⟨h.1,X,h.2⟩)
              | (go_at_call 37;rename_i X;exact (Zaf _ _ (by with_reducible assumption)).mono fun _ _ h=>⟨h.1,X,h.2⟩)
              | (go_at_call 36;rename_i X;exact (ZaW lo _ _ _ _ B _ _ _ (HK.o.below (HBw.o.trans (X.h.mono HBw.o.size)))).mono fun _ _ h=>⟨h.1,Up.next X h.2⟩)
              | (go_at_call 99;rename_i X;exact (Zcp B.ps[k] B.ps[m] _).mono fun _ _ h=>⟨h.1,Up.next X h.2⟩)))
             refine wpQuiet_nil ?_;intro wn hw;obtain⟨X,hX⟩:=hw;have HWN:Below Wq.heap.size Wq wn:=by rw [hX];exact X.h
             clear hX X xs xn x0 x1 x2 x3 x4 x5 x6 y0 y1 y2 y3 y4 yk0 yk1 yk2 yk3 yk4;go_wp2;go_meet;exact⟨congrArg Value.bool (by rw [HQ.o,h2,h1,h3,h4,HRI.o];rfl),HWN⟩
           . have HRI:Hd (ZcP Zgx B.ps m=false):=HRI0.o.trans (decide_eq_false hnu)
             have hd1:decide (0<=ZmA B.ps[k].dr B.ps[k].tm B.ps[k].re B.ps[m].dr B.ps[m].tm B.ps[m].re)=true:=by simp;omega
             clear hnu
             repeat (go_big_quiet_step (
              first
              | (go_at_call 38;rename_i X;exact (Zar _ _ _ _).mono fun _ _ h=>⟨h.1,X,h.2⟩)
              | (go_at_call 37;rename_i X;exact (Zaf _ _ (by with_reducible assumption)).mono fun _ _ h=>⟨h.1,X,h.2⟩)
              | (go_at_call 36;rename_i X;exact (ZaW lo _ _ _ _ B _ _ _ (HK.o.below (HBw.o.trans (X.h.mono HBw.o.size)))).mono fun _ _ h=>⟨h.1,Up.next X h.2⟩)
              | (go_at_call 99;rename_i X;exact (Zcp B.ps[k] B.ps[m] _).mono fun _ _ h=>⟨h.1,Up.next X h.2⟩)))
             refine wpQuiet_nil ?_;intro wn hw;obtain⟨X,hX⟩:=hw;have HWN:Below Wq.heap.size Wq wn:=by rw [hX];exact X.h
             clear hX X xs xn x0 x1 x2 x3 x4 x5 x6 y0 y1 y2 y3 y4 yk0 yk1 yk2 yk3 yk4;go_wp2;go_meet;exact⟨congrArg Value.bool (by rw [HQ.o,h2,h1,h3,h4,HRI.o];rfl),HWN⟩
    case rest=>
     obtain⟨hc75,hwn⟩:=hcut;have HWN:=Zab hwn;have HWB:Hd (Zw_ w wc):=HBw.o.trans (HWN.o.mono HBw.o.size);clear hwn hc
     cases hgn:puB B B.ps[m] with
     | false=>
      have HN:Hd (Zgk Ss Ts B=false):=ZrW (ZmT hlt hgn);rw [hgn] at hc75;subst hc75;go_wp2;go_ret;exact⟨Zaa HN.o.symm,HWB.o⟩
     | true=>
      cases hri:ZcP Zgx B.ps m with
      | false=>
       have HN:Hd (Zgk Ss Ts B=false):=ZrW (ZmQ hlt hri);rw [hgn,hri] at hc75;subst hc75;go_wp2;go_ret;exact⟨Zaa HN.o.symm,HWB.o⟩
      | true=>
       have HT:=Zab hgn;have HR:=Zab hri;rw [hgn,hri] at hc75;subst hc75;go_wp2;go_roundw
       . exact⟨m+1,by go_num,by omega,HWB.o,HXq.o.on HWN.o,HYq.o.on HWN.o,Zdq HA.o hlt HT.o,Zl7 HS.o HR.o⟩
       . simp [intOf];omega
  . have HPT:Hd (Za8 B=true):=Znv hpl (fun j hj=>HA.o j hj (by omega)) (fun j hj=>HS.o j (by omega))
    clear HA HS;go_wp2
    go_loopw [7] (fun i wr=>∃ m:Nat,i=.int .i64 m/\m<=B.ls.length/\Zw_ w wr/\Box wr w.heap.size #[.slice sa Ss.length sc,.slice ma Ms.length mc,.slice ta Ts.length tc]/\Box wr (w.heap.size+1) #[.int .i64 B.now,.int .i64 B.tick,.int .i64 B.given,.slice a0 B.os.length k0,.slice a1 B.gs.length k1,.slice a2 B.ls.length k2,.slice a3 B.ps.length k3]/\(∀ j (h:j < B.ls.length),j < m->leB Ts B.ls[j]=true)/\(∀ j,j < m->ZcP Zce B.ls j=true)/\∀ j (h:j < B.ls.length),j < m->Ze1 Ss Ts B B.ls[j]=true) (fun i _=>B.ls.length - (intOf i).toNat)
    case atStart=>exact⟨0,rfl,Nat.zero_le _,HBr.o,HXr.o,HYr.o,fun j _ h=>by omega,fun j h=>by omega,fun j _ h=>by omega⟩
    case round=>
     clear HBr HXr HYr x6 hm hlt;obtain⟨m,rfl,hm,hb,hx,hx2,hall,hris,hsum⟩:=hrel;have HBr:=Zab hb;have HXr:=Zab hx;have HYr:=Zab hx2;have HA:=Zab hall;have HS:=Zab hris;have HU:=Zab hsum;have x5:=hx2.cell 5;simp at x5;clear hb hx hx2 hall hris hsum
     by_cases hlt:m < B.ls.length
     . obtain⟨b,off,rfl,hbw,-,hc⟩:=HK.o.les.full' (by omega)
       obtain⟨hs,hcell⟩:=hc m hlt;obtain⟨c0,c1,c2,c3⟩:=hcell.below HBr.o hbw;have HZ:=Zab hs;have HQ:Hd (Ze1 Ss Ts B B.ls[m]=decide (wrap64 (ZbF Ss Ts B.os B.ls[m].tm B.ls[m].re+Zfe B.ps B.ls[m].tm B.ls[m].re+B.ls[m].fr)=B.ls[m].mo)):=rfl;have x2:=HXr.o.cell 2;simp at x2;have xlt:=HXr.o.lt;have x2:∀ o,(wr.alloc o).cell? ⟨w.heap.size,2,none⟩=some (.slice ta Ts.length tc):=fun o=>(Zak _ _ _ _ xlt).trans x2
       clear xlt;go_wp2_with fail;generalize hWq:wr.alloc _=Wq;have HBq:Hd (Below wr.heap.size wr Wq):=by rw [<- hWq];exact Zac _ _
       have HPq:Hd (Box Wq wr.heap.size #[.string B.ls[m].tm,.string B.ls[m].re,.int .i64 B.ls[m].mo,.int .i64 B.ls[m].fr]):=by rw [<- hWq];exact Box.new _ _ _ _ rfl
       clear hWq x2 x5;have HXq:=Zab (HXr.o.on HBq.o);have HYq:=Zab (HYr.o.on HBq.o);have HBw:Hd (Zw_ w Wq):=HBr.o.trans (HBq.o.mono HBr.o.size)
       have HC:Hd (∀ k (h:k < B.ls.length),w.cell? ⟨b,off+k*4,none⟩=some (.string B.ls[k].tm)/\w.cell? ⟨b,off+k*4+1,none⟩=some (.string B.ls[k].re)):=fun k hk=>by
        obtain⟨_,hck⟩:=hc k hk;exact⟨hck.c0,hck.c1⟩
       clear c0 c1 c2 c3 hcell hs hc;generalize hβ:wr.heap.size=β at*;refine (Za9 lo _ Ts _ _ (HL.o.below HBw.o).tms).mono ?_;rintro e Wq ⟨rfl,rfl⟩;have s1:=HZ.o.s1;have y0:=HPq.o.cell 0;have y1:=HPq.o.cell 1;have y2:=HPq.o.cell 2;have y3:=HPq.o.cell 3;simp at y0 y1 y2 y3
       cases h1:Zec Ts B.ls[m].tm with
       | false=>
        have HN:Hd (Zgk Ss Ts B=false):=ZkV (Zdp hlt (Zr1 h1));go_wp2;go_ret;exact⟨Zaa HN.o.symm,HBw.o⟩
       | true=>
        cases h2:Zan B.ls[m].re with
        | false=>
         have HN:Hd (Zgk Ss Ts B=false):=ZkV (Zdp hlt (ZrF h2));go_wp2_with (go_at_call 37;refine (Zaf _ _ s1).mono ?_;rintro e Wq ⟨rfl,rfl⟩);go_ret;exact⟨Zaa HN.o.symm,HBw.o⟩
        | true=>
         by_cases f0:B.ls[m].fr < 0
         case pos=>
          have df0:decide (B.ls[m].fr < 0)=true:=decide_eq_true f0;have HN:Hd (Zgk Ss Ts B=false):=ZkV (Zdp hlt (Zk2 (by omega)));go_wp2_with (go_at_call 37;refine (Zaf _ _ s1).mono ?_;rintro e Wq ⟨rfl,rfl⟩);go_ret;exact⟨Zaa HN.o.symm,HBw.o⟩
         have df0:decide (B.ls[m].fr < 0)=false:=decide_eq_false f0
         by_cases f1:B.ls[m].mo < B.ls[m].fr
         case pos=>
          have df1:decide (B.ls[m].mo < B.ls[m].fr)=true:=decide_eq_true f1;have HN:Hd (Zgk Ss Ts B=false):=ZkV (Zdp hlt (Zk2 (by omega)));go_wp2_with (go_at_call 37;refine (Zaf _ _ s1).mono ?_;rintro e Wq ⟨rfl,rfl⟩);go_ret;exact⟨Zaa HN.o.symm,HBw.o⟩
         have df1:decide (B.ls[m].mo < B.ls[m].fr)=false:=decide_eq_false f1
         by_cases f2:1000000 < B.ls[m].mo
         case pos=>
          have df2:decide (1000000 < B.ls[m].mo)=true:=decide_eq_true f2;have HN:Hd (Zgk Ss Ts B=false):=ZkV (Zdp hlt (Zk2 (by omega)));go_wp2_with (go_at_call 37;refine (Zaf _ _ s1).mono ?_;rintro e Wq ⟨rfl,rfl⟩);go_ret;exact⟨Zaa HN.o.symm,HBw.o⟩
         have df2:decide (1000000 < B.ls[m].mo)=false:=decide_eq_false f2;have HLE:Hd (leB Ts B.ls[m]=true):=Zro h1 h2 (by omega);clear f0 f1 f2;go_wp2_with (go_at_call 37;refine (Zaf _ _ s1).mono ?_;rintro e Wq ⟨rfl,rfl⟩);clear df0 df1 df2
         go_cut [140] (fun c wc=>c=.bool (!ZcP Zce B.ls m)/\Below Wq.heap.size Wq wc)
         case first=>
          have x5:=HYq.o.cell 5;simp at x5
          by_cases h0:m=0
          . have hd0:decide (0 < m)=false:=by simp;omega
            have HRI:Hd (ZcP Zce B.ls m=true):=by unfold Hd;rw [h0];rfl
            clear h0
            go_quiet ((go_at_call 73;exact (ZcO _ _ _ _ _).mono fun _ _ h=>⟨h.1,_,h.2⟩))
            go_wp2;go_meet;exact⟨congrArg Value.bool (by rw [HRI.o];rfl),below_drewN Zb_ _⟩
          . have hd0:decide (0 < m)=true:=by simp;omega
            obtain⟨k,hkm⟩:∃ k,m=k+1:=⟨m - 1,by omega⟩
            have hltk:k < B.ls.length:=by omega
            have yk0:Wq.cell? ⟨b,off+k*4,none⟩=some (.string B.ls[k].tm):=(HBw.o.cell (p:=⟨b,off+k*4,none⟩) hbw).trans (HC.o k hltk).1;have yk1:Wq.cell? ⟨b,off+k*4+1,none⟩=some (.string B.ls[k].re):=(HBw.o.cell (p:=⟨b,off+k*4+1,none⟩) hbw).trans (HC.o k hltk).2
            have HRI0:Hd (ZcP Zce B.ls m=decide (Zd0 B.ls[k].tm B.ls[k].re B.ls[m].tm B.ls[m].re < 0)):=by
             subst hkm;unfold Hd;rw [Zd9 hlt]
             rfl
            have e2:IntKind.i64.wrap ((m:Int) - 1)=k:=by rw [IntWalk.i64_left];unfold wrap64;omega
            have e3:wrap64 ((m:Int) - 1)=k:=by unfold wrap64;omega
            have e4:(m:Int) - 1=k:=by omega
            have HKM:=Zab hkm;clear h0 hkm
            by_cases hnu:Zd0 B.ls[k].tm B.ls[k].re B.ls[m].tm B.ls[m].re < 0
            . have HRI:Hd (ZcP Zce B.ls m=true):=HRI0.o.trans (decide_eq_true hnu)
              have hd1:decide (0<=Zd0 B.ls[k].tm B.ls[k].re B.ls[m].tm B.ls[m].re)=false:=by simp;omega
              clear hnu
              go_quiet ((go_at_call 73;exact (ZcO _ _ _ _ _).mono fun _ _ h=>⟨h.1,_,h.2⟩))
              go_wp2;go_meet;exact⟨congrArg Value.bool (by rw [HRI.o];rfl),below_drewN Zb_ _⟩
            . have HRI:Hd (ZcP Zce B.ls m=false):=HRI0.o.trans (decide_eq_false hnu)
              have hd1:decide (0<=Zd0 B.ls[k].tm B.ls[k].re B.ls[m].tm B.ls[m].re)=true:=by simp;omega
              clear hnu
              go_quiet ((go_at_call 73;exact (ZcO _ _ _ _ _).mono fun _ _ h=>⟨h.1,_,h.2⟩))
              go_wp2;go_meet;exact⟨congrArg Value.bool (by rw [HRI.o];rfl),below_drewN Zb_ _⟩
         case rest=>
          obtain⟨hc140,hwn⟩:=hcut;have HW1:=Zab hwn;have HB1:Hd (Zw_ w wc):=HBw.o.trans (HW1.o.mono HBw.o.size);have HX1:=Zab (HXq.o.on HW1.o);have HY1:=Zab (HYq.o.on HW1.o);have HP1:=Zab (HPq.o.on HW1.o);clear hwn y0 y1 y2 y3
          cases hri:ZcP Zce B.ls m with
          | false=>
           have HN:Hd (Zgk Ss Ts B=false):=ZkV (ZlE hlt hri);rw [hri] at hc140;subst hc140;go_wp2;go_ret;exact⟨Zaa HN.o.symm,HB1.o⟩
          | true=>
           have HR:=Zab hri;rw [hri] at hc140;subst hc140;clear hri;generalize wc=W1 at*;go_wp2
           go_cut [160] (fun c wc=>c=.bool (!Ze1 Ss Ts B B.ls[m])/\Below W1.heap.size W1 wc)
           case first=>
            have xn:Nonempty (In (Up W1)):=⟨⟨W1,Below.refl _ _⟩⟩;have xs:=fun (X:In (Up W1))=>ZbJ X
            have l0:∀ X:In (Up W1),X.w.cell? ⟨w.heap.size,0,none⟩=some (.slice sa Ss.length sc):=fun X=>Up.cell X (by rw [HX1.o.cell 0];rfl)
            have l1:∀ X:In (Up W1),X.w.cell? ⟨w.heap.size,1,none⟩=some (.slice ma Ms.length mc):=fun X=>Up.cell X (by rw [HX1.o.cell 1];rfl)
            have l2:∀ X:In (Up W1),X.w.cell? ⟨w.heap.size,2,none⟩=some (.slice ta Ts.length tc):=fun X=>Up.cell X (by rw [HX1.o.cell 2];rfl)
            have x0:∀ X:In (Up W1),X.w.cell? ⟨w.heap.size+1,0,none⟩=some (.int .i64 B.now):=fun X=>Up.cell X (by rw [HY1.o.cell 0];rfl)
            have x1:∀ X:In (Up W1),X.w.cell? ⟨w.heap.size+1,1,none⟩=some (.int .i64 B.tick):=fun X=>Up.cell X (by rw [HY1.o.cell 1];rfl)
            have x2:∀ X:In (Up W1),X.w.cell? ⟨w.heap.size+1,2,none⟩=some (.int .i64 B.given):=fun X=>Up.cell X (by rw [HY1.o.cell 2];rfl)
            have x3:∀ X:In (Up W1),X.w.cell? ⟨w.heap.size+1,3,none⟩=some (.slice a0 B.os.length k0):=fun X=>Up.cell X (by rw [HY1.o.cell 3];rfl)
            have x4:∀ X:In (Up W1),X.w.cell? ⟨w.heap.size+1,4,none⟩=some (.slice a1 B.gs.length k1):=fun X=>Up.cell X (by rw [HY1.o.cell 4];rfl)
            have x5:∀ X:In (Up W1),X.w.cell? ⟨w.heap.size+1,5,none⟩=some (.slice (some ⟨b,off,none⟩) B.ls.length k2):=fun X=>Up.cell X (by rw [HY1.o.cell 5];rfl)
            have x6:∀ X:In (Up W1),X.w.cell? ⟨w.heap.size+1,6,none⟩=some (.slice a3 B.ps.length k3):=fun X=>Up.cell X (by rw [HY1.o.cell 6];rfl)
            have y0:∀ X:In (Up W1),X.w.cell? ⟨β,0,none⟩=some (.string B.ls[m].tm):=fun X=>Up.cell X (by rw [HP1.o.cell 0];rfl)
            have y1:∀ X:In (Up W1),X.w.cell? ⟨β,1,none⟩=some (.string B.ls[m].re):=fun X=>Up.cell X (by rw [HP1.o.cell 1];rfl)
            have y2:∀ X:In (Up W1),X.w.cell? ⟨β,2,none⟩=some (.int .i64 B.ls[m].mo):=fun X=>Up.cell X (by rw [HP1.o.cell 2];rfl)
            have y3:∀ X:In (Up W1),X.w.cell? ⟨β,3,none⟩=some (.int .i64 B.ls[m].fr):=fun X=>Up.cell X (by rw [HP1.o.cell 3];rfl)
            have HV:Hd (wrap64 (wrap64 (wrap64 (ZbF Ss Ts B.os B.ls[m].tm B.ls[m].re)+wrap64 (Zfe B.ps B.ls[m].tm B.ls[m].re))+B.ls[m].fr)=wrap64 (ZbF Ss Ts B.os B.ls[m].tm B.ls[m].re+Zfe B.ps B.ls[m].tm B.ls[m].re+B.ls[m].fr)):=by unfold Hd;rw [ZgN,Zfh]
            by_cases hq:wrap64 (wrap64 (wrap64 (ZbF Ss Ts B.os B.ls[m].tm B.ls[m].re)+wrap64 (Zfe B.ps B.ls[m].tm B.ls[m].re))+B.ls[m].fr)=B.ls[m].mo
            . have HT:Hd (Ze1 Ss Ts B B.ls[m]=true):=by unfold Hd;rw [HQ.o,<- HV.o];exact decide_eq_true hq
              have hd:(wrap64 (wrap64 (wrap64 (ZbF Ss Ts B.os B.ls[m].tm B.ls[m].re)+wrap64 (Zfe B.ps B.ls[m].tm B.ls[m].re))+B.ls[m].fr) != B.ls[m].mo)=false:=by simp [hq]
              clear hq;refine Zam (Up W1) (by kernel_rfl) (by kernel_rfl) (Zb_.drew) ?_
              repeat (go_big_quiet_step (
               first
               | (go_at_call 72;rename_i X;exact (Zej lo _ _ _ _ Ss Ms Ts B.os B.now B.tick B.given _ _ _ (HL.o.below (HB1.o.trans (X.h.mono HB1.o.size))) (HK.o.below (HB1.o.trans (X.h.mono HB1.o.size))).obs HN.o _ _ _ _ _ _ _ _ _).mono fun _ _ h=>⟨h.1,Up.next X h.2⟩)
               | (go_at_call 159;rename_i X;exact (Zku lo _ _ _ _ B _ _ _ (HK.o.below (HB1.o.trans (X.h.mono HB1.o.size)))).mono fun _ _ h=>⟨h.1,Up.next X h.2⟩)))
              refine wpQuiet_nil ?_;intro wn hw;obtain⟨X,hX⟩:=hw;have HWN:Below W1.heap.size W1 wn:=by rw [hX];exact X.h
              clear hX X xs xn l0 l1 l2 x0 x1 x2 x3 x4 x5 x6 y0 y1 y2 y3;go_wp2;go_meet;exact⟨congrArg Value.bool (by rw [HT.o];rfl),HWN⟩
            . have HT:Hd (Ze1 Ss Ts B B.ls[m]=false):=by unfold Hd;rw [HQ.o,<- HV.o];exact decide_eq_false hq
              have hd:(wrap64 (wrap64 (wrap64 (ZbF Ss Ts B.os B.ls[m].tm B.ls[m].re)+wrap64 (Zfe B.ps B.ls[m].tm B.ls[m].re))+B.ls[m].fr) != B.ls[m].mo)=true:=by simp [hq]
              clear hq;refine Zam (Up W1) (by kernel_rfl) (by kernel_rfl) (Zb_.drew) ?_
              repeat (go_big_quiet_step (
               first
               | (go_at_call 72;rename_i X;exact (Zej lo _ _ _ _ Ss Ms Ts B.os B.now B.tick B.given _ _ _ (HL.o.below (HB1.o.trans (X.h.mono HB1.o.size))) (HK.o.below (HB1.o.trans (X.h.mono HB1.o.size))).obs HN.o _ _ _ _ _ _ _ _ _).mono fun _ _ h=>⟨h.1,Up.next X h.2⟩)
               | (go_at_call 159;rename_i X;exact (Zku lo _ _ _ _ B _ _ _ (HK.o.below (HB1.o.trans (X.h.mono HB1.o.size)))).mono fun _ _ h=>⟨h.1,Up.next X h.2⟩)))
              refine wpQuiet_nil ?_;intro wn hw;obtain⟨X,hX⟩:=hw;have HWN:Below W1.heap.size W1 wn:=by rw [hX];exact X.h
              clear hX X xs xn l0 l1 l2 x0 x1 x2 x3 x4 x5 x6 y0 y1 y2 y3;go_wp2;go_meet;exact⟨congrArg Value.bool (by rw [HT.o];rfl),HWN⟩
           case rest=>
            obtain⟨hc160,hwn⟩:=hcut;have HW2:=Zab hwn;have HB2:Hd (Zw_ w wc):=HB1.o.trans (HW2.o.mono HB1.o.size);clear hwn
            cases hsm:Ze1 Ss Ts B B.ls[m] with
            | false=>
             have HN:Hd (Zgk Ss Ts B=false):=ZsZ (ZcR hlt hsm);rw [hsm] at hc160;subst hc160;go_wp2;go_ret;exact⟨Zaa HN.o.symm,HB2.o⟩
            | true=>
             have HSM:=Zab hsm;rw [hsm] at hc160;subst hc160;go_wp2;go_roundw
             . exact⟨m+1,by go_num,by omega,HB2.o,HX1.o.on HW2.o,HY1.o.on HW2.o,Zdq HA.o hlt HLE.o,Zl7 HS.o HR.o,Zdq HU.o hlt HSM.o⟩
             . simp [intOf];omega
     . have HT:Hd (Zgk Ss Ts B=true):=Zr3 (Zlo hll (fun j hj=>HA.o j hj (by omega)) (fun j hj=>HS.o j (by omega))) HPT.o (Zeh (fun j hj=>HU.o j hj (by omega)))
       go_wp2;go_ret;exact⟨Zaa HT.o.symm,HBr.o⟩
end
open Go.RowKit Go.Deep Go.Shelf Go.Maps
attribute [local go_sem] Oper.semAt_some
abbrev Tie:=Nat×Int×Zy_×Zy_
def Zf9 (k:Nat) (f:Fd) (s:Zy_):List Tie:=if (f.kd == 4&&!s.toList.isEmpty)=true then [(k,f.ro,f.to,s)] else []
def ZeB (Fs:List Fd) (V:List Zy_):Nat->List Tie
 | 0=>[]
 | k+1=>ZeB Fs V k ++ (match Fs[k]?,V[k]? with | some f,some s=>Zf9 k f s | _,_=>[])
theorem Zkc {Fs:List Fd}{V:List Zy_}{k:Nat} (hf:k < Fs.length) (hv:k < V.length):ZeB Fs V (k+1)=ZeB Fs V k ++ Zf9 k Fs[k] V[k]:=by
 rw [ZeB];simp [hf,hv]
theorem ZqG (Fs:List Fd) (V:List Zy_) (k:Nat):(ZeB Fs V k).length<=k:=by
 induction k with
 | zero=>simp [ZeB]
 | succ k ih=>
  rw [ZeB,List.length_append]
  split
  . unfold Zf9
    split
    . simp;omega
    . simp;omega
  . simp;omega
abbrev Ztf (x:Tie):Array Value:=#[.agg #[.int .i64 x.1,.int .i64 x.2.1,.string (ZhJ x.2.2.1),.string (ZhJ x.2.2.2)]]
section
variable (lo:Nat) (sk:Zy_) (fv:Value) (Fs:List Fd) (kind nm team:Zy_) (vv hv:Value) (en:Bool) (ver:Int) (V Ho:List Zy_) (w:World)
theorem Zrl (F:Fence) (n:Nat) (hf:F.fn 266) (hro:F.round=none) (a:Option Addr) (ln cap:Nat) (va:Option Addr) (vn vcap:Nat) (ha:Option Addr) (hn hcap:Nat) :
 CallsIn F n prog 266 #[.agg #[.string sk,.slice a ln cap],.agg #[.string kind,.string nm,.string team,.slice va vn vcap,.bool en,.slice ha hn hcap,.int .i64 ver]] w
  fun e w'=>e=.returned (.func (.func 280) #[] #[.pointer (some ⟨w.heap.size,0,none⟩),.pointer (some ⟨w.heap.size+1,0,none⟩)])/\
   w'=(w.alloc (.cells #[.string sk,.slice a ln cap] 164)).alloc (.cells #[.string kind,.string nm,.string team,.slice va vn vcap,.bool en,.slice ha hn hcap,.int .i64 ver] 155):=by
 refine callsIn_of_wp func266 rfl hf ?_ hro;simp only [ntmps266,List.size_toArray,List.length_cons,List.length_nil,Nat.reduceAdd,Nat.reduceSub,Array.replicate_succ,Array.replicate_zero,List.push_toArray,List.append_toArray,List.nil_append,List.cons_append]
 gi_wp2
 go_ret;exact⟨rfl,rfl⟩
theorem Zmr (n:Nat) (hn:1<=n) (S:Nat->Prop) (w0:World) (B1 B2:Nat) (h0:Below w0.heap.size w0 w) (hF:Zav lo w0 fv Fs) (hV:Zag w0 vv V) (hl:Fs.length=V.length) (n1:Fs.length<=1048576)
 (s0:∀ k,k < w0.heap.size->¬ S k) (s2:¬ S B2)
 (hX1:Box w B1 #[.string sk,fv]) (hX2:Box w B2 #[.string kind,.string nm,.string team,vv,.bool en,hv,.int .i64 ver]) :
 SeqStopsK Fence.wide n prog 280 #[.pointer (some ⟨B1,0,none⟩),.pointer (some ⟨B2,0,none⟩)] Ztf (ZaO S w.heap.size) (fun xs=>xs=ZeB Fs V Fs.length) (fun xs=>∃ k,k<=Fs.length/\xs=ZeB Fs V k) Fs.length w:=by
 intro l J Jx W hW hJ hJx hY hJ0;have HF:=Zab hF;have HV:=Zab hV;obtain⟨fa,fcap,rfl⟩:=hF.form;obtain⟨va,vcap,rfl⟩:=hV.form';have H0:=Zab (h0.trans (hW.mono h0.size));have x1:=(hX1.below hW hX1.lt).cell 1;have HO:=Zab (hX2.below hW hX2.lt);have hw:w.heap.size<=W.heap.size:=hW.size;have hw0:w0.heap.size<=w.heap.size:=h0.size;have HJ:=Zab hJ;have HJX:=Zab hJx;have HY:=Zab hY;have HL:=Zab hl;have S0:=Zab s0;have S2:=Zab s2;have HJ0:=Zab hJ0;simp at x1;clear hF hV h0 hW hX1 hX2 hJ hJx hY s0 s2 hJ0 hl;refine callsIn_of_wp func280 rfl trivial ?_ rfl;simp only [ntmps280,List.size_toArray,List.length_cons,List.length_nil,Nat.reduceAdd,Nat.reduceSub,Array.replicate_succ,Array.replicate_zero,List.push_toArray,List.append_toArray,List.nil_append,List.cons_append];have o3:=HO.o.cell 3;have olt:=HO.o.lt;simp at o3
 gi_wp2
 gi_loopw [9] (fun i wr=>∃ k:Nat,i=.int .i64 k/\k<=Fs.length/\J (ZeB Fs V k) wr/\Below w0.heap.size w0 wr/\wr.cell? ⟨B2,3,none⟩=some (.slice va V.length vcap)/\B2 < wr.heap.size/\w.heap.size<=wr.heap.size)
  (fun i _=>Fs.length - (intOf i).toNat)
 case atStart=>exact⟨0,rfl,Nat.zero_le _,HJ0.o,H0.o,o3,olt,hw⟩
 case round=>
  clear o3 olt hw x1;obtain⟨k,rfl,hkl,hJk,hBk,q3,qlt,qw⟩:=hrel;have HJK:=Zab hJk;have HBK:=Zab hBk;clear hJk hBk
  by_cases hlt:k < Fs.length
  . have hlv:k < V.length:=by have:=HL.o;omega
    obtain⟨fb,foff,rfl,hfb,hfc⟩:=HF.o.full' (by omega);obtain⟨hsz,wv,hcell,hst⟩:=hfc k hlt;obtain⟨c0,c1,c2,c3,c4,c5,c6,c7,c8,c9,c10⟩:=hcell.below HBK.o hfb;obtain⟨wa,wn,wcap,rfl⟩:=hst.form;obtain⟨vb,voff,rfl,hvb,hvc,hvs⟩:=HV.o.spread (by omega);have hvk:wr.cell? ⟨vb,voff+k,none⟩=some (.string V[k]):=(HBK.o.cell (p:=⟨vb,voff+k,none⟩) hvb).trans (hvc k hlv);have hvz:V[k].size<=maxLen:=hvs _ (List.getElem_mem hlv);have hto:=hsz.s5;have HST:=Zab (Zkc hlt hlv);have HTO:Hd (Zf9 k Fs[k] V[k]=if (Fs[k].kd == 4&&!V[k].toList.isEmpty)=true then [(k,Fs[k].ro,Fs[k].to,V[k])] else []):=rfl;clear hfc hcell hst hvc hvs hsz
    obtain⟨Wb,hWb,hvk',q3',f5,f6,HA,HAB,hzb⟩:∃ Wb,Wb=wr.alloc (.cells #[.string Fs[k].nm,.int .i64 Fs[k].kd,.int .i64 Fs[k].le,.int .i64 Fs[k].mo,.slice wa wn wcap,.string Fs[k].to,.int .i64 Fs[k].ro,.bool Fs[k].mu,.bool Fs[k].fx,.string Fs[k].df,.string Fs[k].we] 218)/\
     Wb.cell? ⟨vb,voff+k,none⟩=some (.string V[k])/\Wb.cell? ⟨B2,3,none⟩=some (.slice (some ⟨vb,voff,none⟩) V.length vcap)/\Wb.cell? ⟨wr.heap.size,5,none⟩=some (.string Fs[k].to)/\Wb.cell? ⟨wr.heap.size,6,none⟩=some (.int .i64 Fs[k].ro)/\
     Hd (J (ZeB Fs V k) Wb)/\Hd (Below w0.heap.size w0 Wb)/\Wb.heap.size=wr.heap.size+1:=by
     refine⟨_,rfl,(Zak _ _ _ _ (Zk_ hvb HBK.o.size)).trans hvk,(Zak _ _ _ _ qlt).trans q3,ZbH _ _ _ _ 5 rfl,ZbH _ _ _ _ 6 rfl,Zbw HJ.o HJK.o (Zac _ _),HBK.o.trans ((Zac _ _).mono HBK.o.size),by simp⟩
    cases hk1:(Fs[k].kd == 4) with
    | false=>
     have hk1':(Fs[k].kd != 4)=true:=by simp [bne,hk1]
     have HE2:Hd (ZeB Fs V (k+1)=ZeB Fs V k):=by unfold Hd;rw [HST.o,HTO.o,hk1];simp
     gi_wp2
     rw [<- hWb];clear hWb;go_roundw
     . exact⟨k+1,by go_num,by omega,by rw [HE2.o];exact HA.o,HAB.o,q3',by omega,by omega⟩
     . simp [intOf];omega
    | true=>
     have hk1':(Fs[k].kd != 4)=false:=by simp [bne,hk1]
     cases hk2:V[k].toList.isEmpty with
     | true=>
      have HE2:Hd (ZeB Fs V (k+1)=ZeB Fs V k):=by unfold Hd;rw [HST.o,HTO.o,hk1,hk2];simp
      have hvk2:∀ o,(wr.alloc o).cell? ⟨vb,voff+k,none⟩=some (.string V[k]):=fun o=>(Zak _ _ _ _ (Zk_ hvb HBK.o.size)).trans hvk
      have q32:∀ o,(wr.alloc o).cell? ⟨B2,3,none⟩=some (.slice (some ⟨vb,voff,none⟩) V.length vcap):=fun o=>(Zak _ _ _ _ qlt).trans q3
      gi_wp2
      rw [<- hWb];clear hWb;go_roundw
      . exact⟨k+1,by go_num,by omega,by rw [HE2.o];exact HA.o,HAB.o,q3',by omega,by omega⟩
      . simp [intOf];omega
     | false=>
      have HE2:Hd (ZeB Fs V (k+1)=ZeB Fs V k ++ [(k,Fs[k].ro,Fs[k].to,V[k])]):=by unfold Hd;rw [HST.o,HTO.o,hk1,hk2];simp
      have hpl:(ZeB Fs V k).length < Fs.length:=by have:=ZqG Fs V k;omega
      have HAD:Hd (J (ZeB Fs V k) Wb.drew):=Zbw HJ.o HA.o Zb_.drew;obtain⟨fn,tmps,assign,body,hy,hR⟩:=HY.o _ (k,Fs[k].ro,Fs[k].to,V[k]) _ HAD.o hpl;dsimp only [Ztf] at hy;rw [Zew hto,Zew hvz] at hy;have HR:=Zab hR;have hvk2:∀ o,(wr.alloc o).cell? ⟨vb,voff+k,none⟩=some (.string V[k]):=fun o=>(Zak _ _ _ _ (Zk_ hvb HBK.o.size)).trans hvk
      have q32:∀ o,(wr.alloc o).cell? ⟨B2,3,none⟩=some (.slice (some ⟨vb,voff,none⟩) V.length vcap):=fun o=>(Zak _ _ _ _ qlt).trans q3
      clear hR hpl
      gi_wp2
      rw [<- hWb];clear hWb hvk2 q32 hvk
      have HR2:Hd (RoundIn Fence.wide (n - 1) prog l fn tmps assign body Wb.drew fun e W'=>∃ r:Bool,e=.returned (.bool r)/\((r=true/\J (ZeB Fs V k ++ [(k,Fs[k].ro,Fs[k].to,V[k])]) W'/\ZaO S w.heap.size Wb.drew W')\/(r=false/\Jx (ZeB Fs V k ++ [(k,Fs[k].ro,Fs[k].to,V[k])]) W'))):=by
       refine HR.o.mono ?_;rintro e W' (⟨rfl,h1,h2⟩ | ⟨rfl,h1⟩)
       . exact⟨true,rfl,.inl ⟨rfl,h1,h2⟩⟩
       . exact⟨false,rfl,.inr ⟨rfl,h1⟩⟩
      have HK0:Hd (k+1<=Fs.length/\ZeB Fs V k ++ [(k,Fs[k].ro,Fs[k].to,V[k])]=ZeB Fs V (k+1)):=⟨by omega,HE2.o.symm⟩
      gi_region_with (refine HR2.o.mono ?_;rintro e W3 ⟨r,rfl,hP⟩)
      all_goals clear HR HR2 hy HY HJ HJX hvk' f5 f6
      all_goals
       rcases hP with ⟨rfl,hJ3,hk3⟩ | ⟨rfl,hJx3⟩
       . have HJ3:=Zab hJ3
         have r3:W3.cell? ⟨B2,3,none⟩=some (.slice (some ⟨vb,voff,none⟩) V.length vcap):=hk3.cell (show Wb.drew.cell? _=_ from q3') S2.o;have rB:Hd (Below w0.heap.size w0 W3):=HAB.o.drew.trans (hk3.below HAB.o.size S0.o hw0);have rz:=hk3.size;have rz':Wb.drew.heap.size=wr.heap.size+1:=hzb;clear hk3 hJ3
         gi_wp2
         go_roundw
         . exact⟨k+1,by go_num,by omega,by rw [HE2.o];exact HJ3.o,rB.o,r3,by omega,by omega⟩
         . simp [intOf];omega
       . have HX3:=Zab hJx3
         clear hJx3
         gi_wp2
         refine bodyPost_ret (results_none rfl _ _ _) rfl ?_;exact⟨⟨_,rfl⟩,.inr ⟨_,⟨k+1,HK0.o.1,HK0.o.2⟩,HX3.o⟩⟩
  . have he:k=Fs.length:=by omega
    subst he
    gi_wp2
    go_end0
    exact⟨⟨_,rfl⟩,.inl ⟨_,rfl,HJK.o⟩⟩
end
end Go.Proofs.YtfohnageehneoaaGreat
