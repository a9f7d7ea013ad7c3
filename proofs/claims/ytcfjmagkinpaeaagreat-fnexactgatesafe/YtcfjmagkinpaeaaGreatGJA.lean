import Derived.Test.YtcfjmagkinpaeaaGreatGHC
set_option maxHeartbeats 16000000
set_option maxRecDepth 100000
open Go.Proofs.Tryz
namespace Go.Proofs.YtcfjmagkinpaeaaGreat
open Go.RowKit Go.Deep Go.Maps
theorem Zaf.max' {w:World} {v:Value} {L:List Zy_} (h:Zaf w v L):L.length≤maxLen:=by
 rcases h with ⟨_,_,_,rfl⟩ | ⟨b,off,cap,_,_,h3,_⟩
 · exact Nat.zero_le _
 · exact h3
theorem ZkE (v v':Value) (A C:List Zy_) (w:World) (hA:Zaf w v A) (hC:Zaf w v' C) :
 Calls prog 186 #[v,v'] w fun e w'=>e=.returned (.bool (decide (A=C)))∧Zw_ w w':=by
 have HA:=Zab hA;have HC:=Zab hC;obtain⟨a,cap,rfl⟩:=hA.form';obtain⟨c,ccap,rfl⟩:=hC.form';have hm:=hA.max';unfold maxLen at hm;clear hA hC
 by_cases hl:A.length=C.length
 case neg=>
  have HE:Hid (decide (A=C)=false):=decide_eq_false (fun e=>hl (by rw [e]));have hne:((A.length:Int) != (C.length:Int))=true:=by simp;omega
  go_enter func186,ntmps186;go_wp2;go_ret;exact⟨Zaa HE.out.symm,Below.refl _ _⟩
 have hne:((A.length:Int) != (C.length:Int))=false:=by rw [hl];simp
 have HLEN:=Zab hl;clear hl;go_enter func186,ntmps186;go_wp2
 go_loopw [13] (fun i wr=>∃ k:Nat,i=.int .i64 k∧k≤A.length∧Zw_ w wr∧∀ j (h:j < A.length) (h':j < C.length),j < k→A[j]=C[j]) (fun i _=>A.length - (intOf i).toNat)
 case atStart=>exact⟨0,rfl,Nat.zero_le _,Below.refl _ _,fun j _ _ h=>by omega⟩
 case round=>
  obtain⟨k,rfl,hk,hb,hall⟩:=hrel;have HB:=Zab hb;have HL:=Zab hall;clear hb hall
  by_cases hlt:k < A.length
  · have hlc:k < C.length:=by have:=HLEN.out;omega
    obtain⟨ab,aoff,rfl,hab,hac,-⟩:=HA.out.spread (by omega);obtain⟨cb,coff,rfl,hcb,hcc,-⟩:=HC.out.spread (by omega);have ca:wr.cell? ⟨ab,aoff+k,none⟩=some (.string A[k]):=(HB.out.cell (p:=⟨ab,aoff+k,none⟩) hab).trans (hac k hlt);have cc:wr.cell? ⟨cb,coff+k,none⟩=some (.string C[k]):=(HB.out.cell (p:=⟨cb,coff+k,none⟩) hcb).trans (hcc k hlc);have hkc:(k:Int) < (C.length:Int):=by omega
    clear hac hcc
    cases hq:(A[k].toList == C[k].toList) with
    | true=>
     have HT:Hid (A[k]=C[k]):=ZaY.1 hq;go_wp2
     go_quiet (fail)
     go_wp2;go_roundw
     case rel=>exact⟨k+1,by go_num,by omega,below_drewN HB.out _,fun j hj hj' hjk=>by
                by_cases e:j=k
                · subst e;exact HT.out
                · exact HL.out j hj hj' (by omega)⟩
     case measure=>simp [intOf];omega
    | false=>
     have HN:Hid (decide (A=C)=false):=decide_eq_false (fun e=>Zfa.1 hq (by simp [e]));go_wp2
     go_quiet (fail)
     go_wp2;go_ret;exact⟨Zaa HN.out.symm,below_drewN HB.out _⟩
  · have HT:Hid (decide (A=C)=true):=decide_eq_true (List.ext_getElem HLEN.out (fun i h1 h2=>HL.out i h1 h2 (by omega)))
    go_wp2;go_ret;exact⟨Zaa HT.out.symm,HB.out⟩
theorem ZiG (v v':Value) (A C:List Zy_) (w:World) (hA:Zaf w v A) (hC:Zaf w v' C) :
 Calls prog 103 #[v,v'] w fun e w'=>e=.returned (.bool (decide (A=C)))∧Zw_ w w':=by
 have HA:=Zab hA;have HC:=Zab hC;obtain⟨a,cap,rfl⟩:=hA.form';obtain⟨c,ccap,rfl⟩:=hC.form';have hm:=hA.max';unfold maxLen at hm;clear hA hC
 by_cases hl:A.length=C.length
 case neg=>
  have HE:Hid (decide (A=C)=false):=decide_eq_false (fun e=>hl (by rw [e]));have hne:((A.length:Int) != (C.length:Int))=true:=by simp;omega
  go_enter func103,ntmps103;go_wp2;go_ret;exact⟨Zaa HE.out.symm,Below.refl _ _⟩
 have hne:((A.length:Int) != (C.length:Int))=false:=by rw [hl];simp
 have HLEN:=Zab hl;clear hl;go_enter func103,ntmps103;go_wp2
 go_loopw [5] (fun i wr=>∃ k:Nat,i=.int .i64 k∧k≤A.length∧Zw_ w wr∧∀ j (h:j < A.length) (h':j < C.length),j < k→A[j]=C[j]) (fun i _=>A.length - (intOf i).toNat)
 case atStart=>exact⟨0,rfl,Nat.zero_le _,Below.refl _ _,fun j _ _ h=>by omega⟩
 case round=>
  obtain⟨k,rfl,hk,hb,hall⟩:=hrel;have HB:=Zab hb;have HL:=Zab hall;clear hb hall
  by_cases hlt:k < A.length
  · have hlc:k < C.length:=by have:=HLEN.out;omega
    obtain⟨ab,aoff,rfl,hab,hac,-⟩:=HA.out.spread (by omega);obtain⟨cb,coff,rfl,hcb,hcc,-⟩:=HC.out.spread (by omega);have ca:wr.cell? ⟨ab,aoff+k,none⟩=some (.string A[k]):=(HB.out.cell (p:=⟨ab,aoff+k,none⟩) hab).trans (hac k hlt);have cc:wr.cell? ⟨cb,coff+k,none⟩=some (.string C[k]):=(HB.out.cell (p:=⟨cb,coff+k,none⟩) hcb).trans (hcc k hlc);have hkc:(k:Int) < (C.length:Int):=by omega
    clear hac hcc
    cases hq:(A[k].toList == C[k].toList) with
    | true=>
     have HT:Hid (A[k]=C[k]):=ZaY.1 hq;go_wp2
     go_quiet (fail)
     go_wp2;go_roundw
     case rel=>exact⟨k+1,by go_num,by omega,below_drewN HB.out _,fun j hj hj' hjk=>by
                by_cases e:j=k
                · subst e;exact HT.out
                · exact HL.out j hj hj' (by omega)⟩
     case measure=>simp [intOf];omega
    | false=>
     have HN:Hid (decide (A=C)=false):=decide_eq_false (fun e=>Zfa.1 hq (by simp [e]));go_wp2
     go_quiet (fail)
     go_wp2;go_ret;exact⟨Zaa HN.out.symm,below_drewN HB.out _⟩
  · have HT:Hid (decide (A=C)=true):=decide_eq_true (List.ext_getElem HLEN.out (fun i h1 h2=>HL.out i h1 h2 (by omega)))
    go_wp2;go_ret;exact⟨Zaa HT.out.symm,HB.out⟩
def Zf9 (k n:Zy_) (x:Ob):Bool:=x.kd.toList == k.toList&&x.nm.toList == n.toList
def obP (Os:List Ob) (k n:Zy_):Int:=if Os.findIdx (Zf9 k n) < Os.length then (Os.findIdx (Zf9 k n):Int) else -1
theorem ZrE {Os:List Ob} {k n:Zy_} {i:Nat} (hi:i < Os.length) (h:Zf9 k n Os[i]=true) (hall:∀ j (h:j < Os.length),j < i→Zf9 k n Os[j]=false):obP Os k n=i:=by
 have e:Os.findIdx (Zf9 k n)=i:=by
  rw [List.findIdx_eq hi];exact⟨h,fun j hj=>hall j (by omega) hj⟩
 unfold obP;rw [e,if_pos hi]
theorem ZsJ {Os:List Ob} {k n:Zy_} (hall:∀ j (h:j < Os.length),Zf9 k n Os[j]=false):obP Os k n= -1:=by
 have e:Os.findIdx (Zf9 k n)=Os.length:=by
  rw [List.findIdx_eq_length];intro x hx;obtain⟨i,hi,rfl⟩:=List.getElem_of_mem hx;exact hall i hi
 unfold obP;rw [e,if_neg (Nat.lt_irrefl _)]
theorem ZrD (Os:List Ob) (k n:Zy_):decide (obP Os k n < 0)=!Os.any (Zf9 k n):=by
 unfold obP
 cases h:Os.any (Zf9 k n) with
 | true=>
  obtain⟨x,hx,hp⟩:=List.any_eq_true.1 h;rw [if_pos (List.findIdx_lt_length_of_exists ⟨x,hx,hp⟩)];simp
 | false=>
  have e:Os.findIdx (Zf9 k n)=Os.length:=List.findIdx_eq_length.2 (fun x hx=>by
   have:=List.any_eq_false.1 h x hx
   simpa using this)
  rw [e,if_neg (Nat.lt_irrefl _)]
  rfl
section
variable (lo:Nat) (ov gv lv pv:Value) (B:Bk) (t r:Zy_) (w:World)
theorem Zf7 (h:ZaH lo w ov gv lv pv B) :
 Calls prog 106 #[.agg #[.int .i64 B.now,.int .i64 B.tick,.int .i64 B.given,ov,gv,lv,pv],.string t,.string r] w fun e w'=>e=.returned (.int .i64 (obP B.os t r))∧Zw_ w w':=by
 have HL:=Zab h.obs;have hm:=h.obs.max;unfold maxLen at hm;obtain⟨a0,k0,rfl⟩:=h.obs.form;obtain⟨a1,k1,rfl⟩:=h.grs.form;obtain⟨a2,k2,rfl⟩:=h.les.form;obtain⟨a3,k3,rfl⟩:=h.pus.form;clear h;go_enter func106,ntmps106;go_wp2_with fail;generalize hWa:w.alloc _=Wa;have HB:Hid (Zw_ w Wa):=by rw [← hWa];exact Zac w _
 have HX:Hid (Box Wa w.heap.size #[.int .i64 B.now,.int .i64 B.tick,.int .i64 B.given,.slice a0 B.os.length k0,.slice a1 B.gs.length k1,.slice a2 B.ls.length k2,.slice a3 B.ps.length k3]):=by rw [← hWa];exact Box.new _ _ _ _ rfl
 clear hWa;have x5:=HX.out.cell 3;simp at x5
 go_loop [7] (fun i=>∃ k:Nat,i=.int .i64 k∧k≤B.os.length∧∀ j (h:j < B.os.length),j < k→Zf9 t r B.os[j]=false) (fun i=>B.os.length - (intOf i).toNat)
 case atStart=>exact⟨0,rfl,Nat.zero_le _,fun j _ h=>by omega⟩
 case round=>
  obtain⟨k,rfl,hk,hall⟩:=hrel;have HA:=Zab hall;clear hall
  by_cases hlt:k < B.os.length
  · obtain⟨b,off,rfl,hbw,-,hc⟩:=HL.out.full' (by omega)
    obtain⟨hs,vv0,vv1,hcell,-,-⟩:=hc k hlt;obtain⟨c0,c1,c2,c3,c4,c5,c6⟩:=hcell.below HB.out hbw;have HI:Hid (Zf9 t r B.os[k]=(B.os[k].kd.toList == t.toList&&B.os[k].nm.toList == r.toList)):=rfl;clear hc hcell hs
    cases h1:(B.os[k].kd.toList == t.toList) with
    | false=>
     have HE:Hid (Zf9 t r B.os[k]=false):=by unfold Hid;rw [HI.out,h1];rfl
     go_wp2
     go_round
     case rel=>exact⟨k+1,by go_num,by omega,fun j hj hjk=>by
                by_cases e:j=k
                · subst e;exact HE.out
                · exact HA.out j hj (by omega)⟩
     case measure=>simp [intOf];omega
    | true=>
     cases h2:(B.os[k].nm.toList == r.toList) with
     | false=>
      have HE:Hid (Zf9 t r B.os[k]=false):=by unfold Hid;rw [HI.out,h1,h2];rfl
      go_wp2
      go_round
      case rel=>exact⟨k+1,by go_num,by omega,fun j hj hjk=>by
                 by_cases e:j=k
                 · subst e;exact HE.out
                 · exact HA.out j hj (by omega)⟩
      case measure=>simp [intOf];omega
     | true=>
      have HE:Hid (obP B.os t r=k):=ZrE hlt (by rw [HI.out,h1,h2];rfl) HA.out;go_wp2;go_ret;exact⟨Zaz HE.out.symm,HB.out⟩
  · have HE:Hid (obP B.os t r= -1):=ZsJ (fun i hi=>HA.out i hi (by omega))
    go_wp2;go_ret;exact⟨Zaz HE.out.symm,HB.out⟩
end
theorem Zk4:ZeH prog 268 9:=
 ⟨⟨_,_,underlying268,rfl,rfl,rfl,rfl,by decide,by decide⟩,by kernel_rfl,by kernel_rfl,underlying9,by kernel_rfl,of_decide_eq_true (by kernel_rfl)⟩
theorem ZsA:(268:TypeId) < prog.types.size:=of_decide_eq_true (by kernel_rfl)
theorem Ztm:prog.keyTypeAt 2 268=true:=by kernel_rfl
theorem ZqO:WideMaps.KeyLaw prog 268:=deep_law_laid Zm3 (by decide) ZsA Ztm Zk4.wide
theorem Zk3:Keyed prog 268:=Keyed.of_law ZqO
structure Zps {H:Type} (Os:List Ob) (D:DataW H):Prop where
 isMap:IsMap D
 has:∀ a b:Zy_,a.size≤maxLen→b.size≤maxLen→Maps.has D (Ze4 a b)=Os.any (Zf9 a b)
theorem Zps.start {H:Type}:Zps [] (.map []:DataW H):=⟨⟨[],rfl⟩,fun _ _ _ _=>rfl⟩
theorem Zps.step {H:Type} {Os:List Ob} {D:DataW H} (h:Zps Os D) (o:Ob) (hz:ZdY o) (d:DataW H):Zps (Os ++ [o]) (D.put (Ze4 o.kd o.nm) d):=by
 refine⟨h.isMap.put _ _,fun a b ha hb=>?_⟩;rw [List.any_append]
 by_cases e:a=o.kd∧b=o.nm
 · obtain⟨rfl,rfl⟩:=e
   rw [has_put_same h.isMap (ZgC _ _)];unfold Zf9;simp
 · have hne:Ze4 a b≠Ze4 o.kd o.nm:=fun e'=>e (Zk4.inj ZqO ha hb hz.s0 hz.s1 e')
   have hn:Zf9 a b o=false:=by
    unfold Zf9
    cases h1:(o.kd.toList == a.toList) with
    | false=>rfl
    | true=>
     cases h2:(o.nm.toList == b.toList) with
     | false=>rfl
     | true=>exact absurd ⟨(ZaY.1 h1).symm,(ZaY.1 h2).symm⟩ e
   rw [has_put_other hne,h.has a b ha hb];simp [hn]
theorem ZnD (x:Ob) (va:Option Addr) (vn vc:Nat) (ha:Option Addr) (hn hc:Nat) (w:World) :
 Calls prog 184 #[.agg #[.string x.kd,.string x.nm,.string x.tm,.slice va vn vc,.bool x.en,.slice ha hn hc,.int .i64 x.ver]] w
  fun e w'=>e=.returned (.agg #[.string x.kd,.string x.nm])∧Zw_ w w':=by
 go_enter func184,ntmps184;go_wp2;refine bodyPost_ret (v:=.agg #[.string x.kd,.string x.nm]) (by simp [results,results184,go_sem]) rfl ⟨rfl,?_⟩
 repeat (refine Below.setCell ?_ (by simp) _)
 exact (Zb_.alloc Zl_ _).alloc (by simp) _
theorem Zmi (lo:Nat) (v:Value) (Os:List Ob) (w:World) (hv:ZbC lo w v Os) (hn:Os.length≤1048576) :
 Calls prog 133 #[v] w
  fun e w'=>e=.returned (.map (some w.heap.size))∧Zw_ w w'∧∃ D:DataW Unit,w'.ownsMap prog 268 (plainElem prog 3) w.heap.size Os.length D∧Zps Os D:=by
 have HV:=Zab hv;obtain⟨a,cap,rfl⟩:=hv.form;clear hv;have hmm:∀ (n:Nat) (w:World),(Instr.makeMap 211 (some (.int .i64 n))).run prog w=.ok (.map (some w.heap.size)) (w.alloc (.map #[] 0)):=fun n w=>by simp [Instr.makeMap,go_sem,run_underlying underlying211,Result.andThen]
 go_enter func133,ntmps133;go_wp2;clear hmm
 go_loopw [11] (fun i wr=>∃ k:Nat,i=.int .i64 k∧k≤Os.length∧Zw_ w wr∧∃ D:DataW Unit,wr.ownsMap prog 268 (plainElem prog 3) w.heap.size k D∧Zps (Os.take k) D) (fun i _=>Os.length - (intOf i).toNat)
 case atStart=>exact⟨0,rfl,Nat.zero_le _,Zac _ _,.map [],World.ownsMap_made _ _ _ _,Zps.start⟩
 case round=>
  obtain⟨k,rfl,hk,hb,D,ho,hsum⟩:=hrel;have HB:=Zab hb;have HSUM:=Zab hsum;clear hb hsum
  by_cases hlt:k < Os.length
  · obtain⟨b,off,rfl,hbw,-,hc⟩:=HV.out.full' (by omega)
    obtain⟨hs,vv0,vv1,hcell,hv0,hv1⟩:=hc k hlt;obtain⟨c0,c1,c2,c3,c4,c5,c6⟩:=hcell.below HB.out hbw;obtain⟨va,vc,rfl⟩:=hv0.at.form';obtain⟨ha,hc',rfl⟩:=hv1.at.form';have HZ:=Zab hs;have HO:=Zab ho;have HTK:=Zab (List.take_succ_eq_append_getElem hlt);clear hc hcell hs hv0 hv1 ho;go_wp2_with fail;refine (ZnD Os[k] _ _ _ _ _ _ _).mono ?_;rintro e w1 ⟨rfl,hb1⟩;have HB1:Hid (Zw_ w w1):=(HB.out.trans ((Zac _ _).mono HB.out.size)).trans (hb1.mono (HB.out.trans ((Zac _ _).mono HB.out.size)).size);have ho1:w1.ownsMap prog 268 (plainElem prog 3) w.heap.size k D:=(HO.out.alloc _).kept (ZaI hb1) (by simp);clear hb1
    go_wp2_with (at_mapUpdate;refine wpList_mapUpdate_own _ rfl _ _ _ 211 rfl 268 3 Zk3 underlying211 _ w.heap.size k _ rfl ho1 (by unfold maxLen;omega) _ _ _ rfl rfl (Zk4.mk' HZ.out.s0 HZ.out.s1) _ [] (plainElem_int underlying3 (WalkArith.wf_i64 (by omega))) ?_;intro w2 ho2 hg2;have HO2:=Zab ho2;have HG2:=Zab hg2;clear ho2 hg2);go_roundw
    case rel=>exact⟨k+1,by go_num,by omega,Zcs HB1.out HG2.out Zl_,_,HO2.out,by rw [HTK.out];exact HSUM.out.step _ HZ.out _⟩
    case measure=>simp [intOf];omega
  · have he:k=Os.length:=by omega
    subst he;have HT:Hid (Os.take Os.length=Os):=List.take_length;have HO:=Zab ho;clear ho;go_wp2;go_ret;exact⟨rfl,HB.out,D,HO.out,HT.out ▸ HSUM.out⟩
theorem Zmj {B:Bk} {m:Nat} (hm:m < B.ps.length) (h:puB B B.ps[m]=false):Za8 B=false:=by
 unfold Za8;rw [Zba hm h,Bool.and_false]
theorem Zmk {B:Bk} {m:Nat} (hm:m < B.ps.length) (h:Zce Zgm B.ps m=false):Za8 B=false:=by
 unfold Za8;rw [show Zcz Zgm B.ps=false from ZaW hm h,Bool.and_false,Bool.false_and]
theorem Zml {B:Bk} (hl:B.ps.length≤24) (h1:∀ j (h:j < B.ps.length),puB B B.ps[j]=true) (h2:∀ j,j < B.ps.length→Zce Zgm B.ps j=true):Za8 B=true:=by
 unfold Za8;rw [decide_eq_true hl,Zb0 h1,show Zcz Zgm B.ps=true from Za0 h2]
 rfl
theorem Zc6 {Ts:List Tm} {Ls:List Le} {m:Nat} (hm:m < Ls.length) (h:leB Ts Ls[m]=false):ZaQ Ts Ls=false:=by
 unfold ZaQ;rw [Zba hm h,Bool.and_false]
theorem Zkk {Ts:List Tm} {Ls:List Le} {m:Nat} (hm:m < Ls.length) (h:Zce Zdh Ls m=false):ZaQ Ts Ls=false:=by
 unfold ZaQ;rw [show Zcz Zdh Ls=false from ZaW hm h,Bool.and_false,Bool.false_and]
theorem Zkm {Ts:List Tm} {Ls:List Le} (hl:Ls.length≤10) (h1:∀ j (h:j < Ls.length),leB Ts Ls[j]=true) (h2:∀ j,j < Ls.length→Zce Zdh Ls j=true):ZaQ Ts Ls=true:=by
 unfold ZaQ;rw [decide_eq_true hl,Zb0 h1,show Zcz Zdh Ls=true from Za0 h2]
 rfl
def Zf8 (Ss:List Sh) (Ts:List Tm) (B:Bk):Bool:=ZaQ Ts B.ls&&(Za8 B&&ZjE Ss Ts B)
theorem Zko {Ss:List Sh} {Ts:List Tm} {B:Bk} (h:ZaQ Ts B.ls=false):Zf8 Ss Ts B=false:=by unfold Zf8;rw [h];rfl
theorem ZrA {Ss:List Sh} {Ts:List Tm} {B:Bk} (h:Za8 B=false):Zf8 Ss Ts B=false:=by unfold Zf8;rw [h,Bool.false_and,Bool.and_false]
theorem Ztp {Ss:List Sh} {Ts:List Tm} {B:Bk} (h:ZjE Ss Ts B=false):Zf8 Ss Ts B=false:=by unfold Zf8;rw [h,Bool.and_false,Bool.and_false]
theorem ZrB {Ss:List Sh} {Ts:List Tm} {B:Bk} (h:ZaQ Ts B.ls=true) (h1:Za8 B=true) (h2:ZjE Ss Ts B=true):Zf8 Ss Ts B=true:=by unfold Zf8;rw [h,h1,h2];rfl
theorem Zlp {X:Type} {c:X→X→Int} {L:List X} {m:Nat} (h:∀ j,j < m→Zce c L j=true) (hm:Zce c L m=true):∀ j,j < m+1→Zce c L j=true:=fun j hj=>by
 by_cases e:j=m
 · subst e;exact hm
 · exact h j (by omega)
theorem Zrv {Ts:List Tm} {g:Le} (h:ZeL Ts g.tm=false):leB Ts g=false:=by unfold leB;rw [h];rfl
theorem Zrw {Ts:List Tm} {g:Le} (h:Zaj g.re=false):leB Ts g=false:=by unfold leB;rw [h,Bool.and_false];rfl
theorem Zki {Ts:List Tm} {g:Le} (h:¬ (0≤g.fr∧g.fr≤g.mo∧g.mo≤1000000)):leB Ts g=false:=by
 unfold leB inB
 by_cases h1:0≤g.mo∧g.mo≤1000000
 · rw [show decide (0≤g.fr∧g.fr≤g.mo)=false from decide_eq_false (by omega),Bool.and_false]
 · rw [decide_eq_false h1,Bool.and_false,Bool.false_and]
theorem Zrx {Ts:List Tm} {g:Le} (h1:ZeL Ts g.tm=true) (h2:Zaj g.re=true) (h:0≤g.fr∧g.fr≤g.mo∧g.mo≤1000000):leB Ts g=true:=by
 unfold leB inB;rw [h1,h2,decide_eq_true (by omega),decide_eq_true (by omega)]
 rfl
section
variable (lo:Nat) (sv mv tv ov gv lv pv:Value) (Ss:List Sh) (Ms:List Md) (Ts:List Tm) (B:Bk) (w:World)
theorem ZjD (hl:ZaO lo w sv mv tv Ss Ms Ts) (h:ZaH lo w ov gv lv pv B) (hn:ZcO B.os) (ht:inB 0 1000000 B.tick=true) :
 Calls prog 57 #[.agg #[sv,mv,tv],.agg #[.int .i64 B.now,.int .i64 B.tick,.int .i64 B.given,ov,gv,lv,pv]] w fun e w'=>e=.returned (.bool (Zf8 Ss Ts B))∧Zw_ w w':=by
 have HL:=Zab hl;have HK:=Zab h;have HN:=Zab hn
 have hti:wrap64 (B.tick+10)=B.tick+10:=by
  have:=of_decide_eq_true ht;unfold wrap64
  omega
 obtain⟨sa,sc,rfl⟩:=hl.shs.form;obtain⟨ma,mc,rfl⟩:=hl.mds.form;obtain⟨ta,tc,rfl⟩:=hl.tms.form;obtain⟨a0,k0,rfl⟩:=h.obs.form;obtain⟨a1,k1,rfl⟩:=h.grs.form;obtain⟨a2,k2,rfl⟩:=h.les.form;obtain⟨a3,k3,rfl⟩:=h.pus.form;clear hl h hn ht
 by_cases hll:B.ls.length≤10
 case neg=>
  have HE:Hid (Zf8 Ss Ts B=false):=Zko (by unfold ZaQ;rw [decide_eq_false hll];rfl);have hgt:decide ((10:Int) < (B.ls.length:Int))=true:=by simp;omega
  go_enter func57,ntmps57;go_wp2;go_ret;exact⟨Zaa HE.out.symm,(Zac w _).alloc (by simp) _⟩
 have hgt:decide ((10:Int) < (B.ls.length:Int))=false:=by simp;omega
 by_cases hpl:B.ps.length≤24
 case neg=>
  have HE:Hid (Zf8 Ss Ts B=false):=ZrA (by unfold Za8;rw [decide_eq_false hpl];rfl);have hgt':decide ((24:Int) < (B.ps.length:Int))=true:=by simp;omega
  go_enter func57,ntmps57;go_wp2;go_ret;exact⟨Zaa HE.out.symm,(Zac w _).alloc (by simp) _⟩
 have hgt':decide ((24:Int) < (B.ps.length:Int))=false:=by simp;omega
 go_enter func57,ntmps57;go_wp2;generalize hWa:(World.alloc (w.alloc _) _)=Wa;have HB:Hid (Zw_ w Wa):=by rw [← hWa];exact (Zac w _).alloc (by simp) _
 have HX:Hid (Box Wa w.heap.size #[.slice sa Ss.length sc,.slice ma Ms.length mc,.slice ta Ts.length tc]):=by rw [← hWa];exact (Box.new _ _ _ _ rfl).on (Zac _ _)
 have HY:Hid (Box Wa (w.heap.size+1) #[.int .i64 B.now,.int .i64 B.tick,.int .i64 B.given,.slice a0 B.os.length k0,.slice a1 B.gs.length k1,.slice a2 B.ls.length k2,.slice a3 B.ps.length k3]):=by rw [← hWa];exact Box.new _ _ _ _ (by simp)
 clear hWa hgt hgt'
 go_loopw [5] (fun i wr=>∃ m:Nat,i=.int .i64 m∧m≤B.ps.length∧Zw_ w wr∧Box wr w.heap.size #[.slice sa Ss.length sc,.slice ma Ms.length mc,.slice ta Ts.length tc]∧Box wr (w.heap.size+1) #[.int .i64 B.now,.int .i64 B.tick,.int .i64 B.given,.slice a0 B.os.length k0,.slice a1 B.gs.length k1,.slice a2 B.ls.length k2,.slice a3 B.ps.length k3]∧(∀ j (h:j < B.ps.length),j < m→puB B B.ps[j]=true)∧∀ j,j < m→Zce Zgm B.ps j=true) (fun i _=>B.ps.length - (intOf i).toNat)
 case atStart=>exact⟨0,rfl,Nat.zero_le _,HB.out,HX.out,HY.out,fun j _ h=>by omega,fun j h=>by omega⟩
 case round=>
  obtain⟨m,rfl,hm,hb,hx,hx2,hall,hris⟩:=hrel;have HBr:=Zab hb;have HXr:=Zab hx;have HYr:=Zab hx2;have HA:=Zab hall;have HS:=Zab hris;have x6:=hx2.cell 6;simp at x6;clear hb hx hx2 hall hris HB HX HY
  by_cases hlt:m < B.ps.length
  · obtain⟨b,off,rfl,hbw,-,hc⟩:=HK.out.pus.full' (by omega)
    obtain⟨hs,hcell⟩:=hc m hlt;obtain⟨c0,c1,c2,c3,c4⟩:=hcell.below HBr.out hbw;have HZ:=Zab hs;have HQ:Hid (puB B B.ps[m]=(B.ls.any (Zdt B.ps[m].tm B.ps[m].re)&&Zaj B.ps[m].dr&&inB 1 1000000 B.ps[m].am&&inB B.tick (B.tick+10) B.ps[m].un)):=rfl;go_wp2;generalize hWq:wr.alloc _=Wq;have HBq:Hid (Below wr.heap.size wr Wq):=by rw [← hWq];exact Zac _ _
    have HPq:Hid (Box Wq wr.heap.size #[.string B.ps[m].dr,.string B.ps[m].tm,.string B.ps[m].re,.int .i64 B.ps[m].am,.int .i64 B.ps[m].un]):=by rw [← hWq];exact Box.new _ _ _ _ rfl
    clear hWq;have HXq:=Zab (HXr.out.on HBq.out);have HYq:=Zab (HYr.out.on HBq.out);have HBw:Hid (Zw_ w Wq):=HBr.out.trans (HBq.out.mono HBr.out.size);clear c0 c1 c2 c3 c4 hcell hs x6;generalize hβ:wr.heap.size=β at*
    go_cut [75] (fun c wc=>c=.bool (!(puB B B.ps[m]&&Zce Zgm B.ps m))∧Below Wq.heap.size Wq wc)
    case first=>
     have xn:Nonempty (In (Up Wq)):=⟨⟨Wq,Below.refl _ _⟩⟩;have xs:=fun (X:In (Up Wq))=>ZcH X
     have x0:∀ X:In (Up Wq),X.w.cell? ⟨w.heap.size+1,0,none⟩=some (.int .i64 B.now):=fun X=>Up.cell X (by rw [HYq.out.cell 0];rfl)
     have x1:∀ X:In (Up Wq),X.w.cell? ⟨w.heap.size+1,1,none⟩=some (.int .i64 B.tick):=fun X=>Up.cell X (by rw [HYq.out.cell 1];rfl)
     have x2:∀ X:In (Up Wq),X.w.cell? ⟨w.heap.size+1,2,none⟩=some (.int .i64 B.given):=fun X=>Up.cell X (by rw [HYq.out.cell 2];rfl)
     have x3:∀ X:In (Up Wq),X.w.cell? ⟨w.heap.size+1,3,none⟩=some (.slice a0 B.os.length k0):=fun X=>Up.cell X (by rw [HYq.out.cell 3];rfl)
     have x4:∀ X:In (Up Wq),X.w.cell? ⟨w.heap.size+1,4,none⟩=some (.slice a1 B.gs.length k1):=fun X=>Up.cell X (by rw [HYq.out.cell 4];rfl)
     have x5:∀ X:In (Up Wq),X.w.cell? ⟨w.heap.size+1,5,none⟩=some (.slice a2 B.ls.length k2):=fun X=>Up.cell X (by rw [HYq.out.cell 5];rfl)
     have x6:∀ X:In (Up Wq),X.w.cell? ⟨w.heap.size+1,6,none⟩=some (.slice (some ⟨b,off,none⟩) B.ps.length k3):=fun X=>Up.cell X (by rw [HYq.out.cell 6];rfl)
     have y0:∀ X:In (Up Wq),X.w.cell? ⟨β,0,none⟩=some (.string B.ps[m].dr):=fun X=>Up.cell X (by rw [HPq.out.cell 0];rfl)
     have y1:∀ X:In (Up Wq),X.w.cell? ⟨β,1,none⟩=some (.string B.ps[m].tm):=fun X=>Up.cell X (by rw [HPq.out.cell 1];rfl)
     have y2:∀ X:In (Up Wq),X.w.cell? ⟨β,2,none⟩=some (.string B.ps[m].re):=fun X=>Up.cell X (by rw [HPq.out.cell 2];rfl)
     have y3:∀ X:In (Up Wq),X.w.cell? ⟨β,3,none⟩=some (.int .i64 B.ps[m].am):=fun X=>Up.cell X (by rw [HPq.out.cell 3];rfl)
     have y4:∀ X:In (Up Wq),X.w.cell? ⟨β,4,none⟩=some (.int .i64 B.ps[m].un):=fun X=>Up.cell X (by rw [HPq.out.cell 4];rfl)
     have sw0:=HZ.out.s0;have sw1:=HZ.out.s1;have sw2:=HZ.out.s2;have hd2:=ZpE B.ls B.ps[m].tm B.ps[m].re
     by_cases h0:m=0
     · have hd0:decide (0 < m)=false:=by simp;omega
       have HRI:Hid (Zce Zgm B.ps m=true):=by unfold Hid;rw [h0];rfl
       clear h0 hc;refine Zae (Up Wq) (by kernel_rfl) (by kernel_rfl) (Zb_.drew) ?_
       cases h1:Zaj B.ps[m].dr with
       | false=>
        repeat (go_big_quiet_step (
         first
         | (go_at_call 54;rename_i X;exact (Zal _ _ _ _).mono fun _ _ h=>⟨h.1,X,h.2⟩)
         | (go_at_call 58;rename_i X;exact (Zad _ _ (by with_reducible assumption)).mono fun _ _ h=>⟨h.1,X,h.2⟩)
         | (go_at_call 108;rename_i X;exact (Za3 lo _ _ _ _ B _ _ _ (HK.out.below (HBw.out.trans (X.h.mono HBw.out.size)))).mono fun _ _ h=>⟨h.1,Up.next X h.2⟩)))
        refine wpQuiet_nil ?_;intro wn hw;obtain⟨X,hX⟩:=hw;have HWN:Below Wq.heap.size Wq wn:=by rw [hX];exact X.h
        clear hX X xs xn x0 x1 x2 x3 x4 x5 x6 y0 y1 y2 y3 y4;go_wp2;go_meet;exact⟨congrArg Value.bool (by rw [HQ.out,h1,Bool.and_false];rfl),HWN⟩
       | true=>
        cases h2:B.ls.any (Zdt B.ps[m].tm B.ps[m].re) with
        | false=>
         rw [h2] at hd2
         repeat (go_big_quiet_step (
          first
          | (go_at_call 54;rename_i X;exact (Zal _ _ _ _).mono fun _ _ h=>⟨h.1,X,h.2⟩)
          | (go_at_call 58;rename_i X;exact (Zad _ _ (by with_reducible assumption)).mono fun _ _ h=>⟨h.1,X,h.2⟩)
          | (go_at_call 108;rename_i X;exact (Za3 lo _ _ _ _ B _ _ _ (HK.out.below (HBw.out.trans (X.h.mono HBw.out.size)))).mono fun _ _ h=>⟨h.1,Up.next X h.2⟩)))
         refine wpQuiet_nil ?_;intro wn hw;obtain⟨X,hX⟩:=hw;have HWN:Below Wq.heap.size Wq wn:=by rw [hX];exact X.h
         clear hX X xs xn x0 x1 x2 x3 x4 x5 x6 y0 y1 y2 y3 y4;go_wp2;go_meet;exact⟨congrArg Value.bool (by rw [HQ.out,h2];rfl),HWN⟩
        | true=>
         rw [h2] at hd2
         cases h3:inB 1 1000000 B.ps[m].am with
         | false=>
          repeat (go_big_quiet_step (
           first
           | (go_at_call 54;rename_i X;exact (Zal _ _ _ _).mono fun _ _ h=>⟨h.1,X,h.2⟩)
           | (go_at_call 58;rename_i X;exact (Zad _ _ (by with_reducible assumption)).mono fun _ _ h=>⟨h.1,X,h.2⟩)
           | (go_at_call 108;rename_i X;exact (Za3 lo _ _ _ _ B _ _ _ (HK.out.below (HBw.out.trans (X.h.mono HBw.out.size)))).mono fun _ _ h=>⟨h.1,Up.next X h.2⟩)))
          refine wpQuiet_nil ?_;intro wn hw;obtain⟨X,hX⟩:=hw;have HWN:Below Wq.heap.size Wq wn:=by rw [hX];exact X.h
          clear hX X xs xn x0 x1 x2 x3 x4 x5 x6 y0 y1 y2 y3 y4;go_wp2;go_meet;exact⟨congrArg Value.bool (by rw [HQ.out,h2,h1,h3];rfl),HWN⟩
         | true=>
          cases h4:inB B.tick (B.tick+10) B.ps[m].un with
          | false=>
           repeat (go_big_quiet_step (
            first
            | (go_at_call 54;rename_i X;exact (Zal _ _ _ _).mono fun _ _ h=>⟨h.1,X,h.2⟩)
            | (go_at_call 58;rename_i X;exact (Zad _ _ (by with_reducible assumption)).mono fun _ _ h=>⟨h.1,X,h.2⟩)
            | (go_at_call 108;rename_i X;exact (Za3 lo _ _ _ _ B _ _ _ (HK.out.below (HBw.out.trans (X.h.mono HBw.out.size)))).mono fun _ _ h=>⟨h.1,Up.next X h.2⟩)))
           refine wpQuiet_nil ?_;intro wn hw;obtain⟨X,hX⟩:=hw;have HWN:Below Wq.heap.size Wq wn:=by rw [hX];exact X.h
           clear hX X xs xn x0 x1 x2 x3 x4 x5 x6 y0 y1 y2 y3 y4;go_wp2;go_meet;exact⟨congrArg Value.bool (by rw [HQ.out,h2,h1,h3,h4];rfl),HWN⟩
          | true=>
           repeat (go_big_quiet_step (
            first
            | (go_at_call 54;rename_i X;exact (Zal _ _ _ _).mono fun _ _ h=>⟨h.1,X,h.2⟩)
            | (go_at_call 58;rename_i X;exact (Zad _ _ (by with_reducible assumption)).mono fun _ _ h=>⟨h.1,X,h.2⟩)
            | (go_at_call 108;rename_i X;exact (Za3 lo _ _ _ _ B _ _ _ (HK.out.below (HBw.out.trans (X.h.mono HBw.out.size)))).mono fun _ _ h=>⟨h.1,Up.next X h.2⟩)))
           refine wpQuiet_nil ?_;intro wn hw;obtain⟨X,hX⟩:=hw;have HWN:Below Wq.heap.size Wq wn:=by rw [hX];exact X.h
           clear hX X xs xn x0 x1 x2 x3 x4 x5 x6 y0 y1 y2 y3 y4;go_wp2;go_meet;exact⟨congrArg Value.bool (by rw [HQ.out,h2,h1,h3,h4,HRI.out];rfl),HWN⟩
     · have hd0:decide (0 < m)=true:=by simp;omega
       obtain⟨k,hkm⟩:∃ k,m=k+1:=⟨m - 1,by omega⟩
       have hltk:k < B.ps.length:=by omega
       obtain⟨hsk,hck⟩:=hc k hltk;have yk0:∀ X:In (Up Wq),X.w.cell? ⟨b,off+k*5,none⟩=some (.string B.ps[k].dr):=fun X=>Up.cell X (hck.below HBw.out hbw).c0
       have yk1:∀ X:In (Up Wq),X.w.cell? ⟨b,off+k*5+1,none⟩=some (.string B.ps[k].tm):=fun X=>Up.cell X (hck.below HBw.out hbw).c1
       have yk2:∀ X:In (Up Wq),X.w.cell? ⟨b,off+k*5+2,none⟩=some (.string B.ps[k].re):=fun X=>Up.cell X (hck.below HBw.out hbw).c2
       have yk3:∀ X:In (Up Wq),X.w.cell? ⟨b,off+k*5+3,none⟩=some (.int .i64 B.ps[k].am):=fun X=>Up.cell X (hck.below HBw.out hbw).c3
       have yk4:∀ X:In (Up Wq),X.w.cell? ⟨b,off+k*5+4,none⟩=some (.int .i64 B.ps[k].un):=fun X=>Up.cell X (hck.below HBw.out hbw).c4
       have HRI0:Hid (Zce Zgm B.ps m=decide (ZlE B.ps[k].dr B.ps[k].tm B.ps[k].re B.ps[m].dr B.ps[m].tm B.ps[m].re < 0)):=by
        subst hkm;unfold Hid;rw [Zdb hlt]
        rfl
       have e2:IntKind.i64.wrap ((m:Int) - 1)=k:=by rw [IntWalk.i64_left];unfold wrap64;omega
       have e3:wrap64 ((m:Int) - 1)=k:=by unfold wrap64;omega
       have e4:(m:Int) - 1=k:=by omega
       have HKM:=Zab hkm;clear h0 hc hsk hck hkm;refine Zae (Up Wq) (by kernel_rfl) (by kernel_rfl) (Zb_.drew) ?_
       cases h1:Zaj B.ps[m].dr with
       | false=>
        repeat (go_big_quiet_step (
         first
         | (go_at_call 54;rename_i X;exact (Zal _ _ _ _).mono fun _ _ h=>⟨h.1,X,h.2⟩)
         | (go_at_call 58;rename_i X;exact (Zad _ _ (by with_reducible assumption)).mono fun _ _ h=>⟨h.1,X,h.2⟩)
         | (go_at_call 108;rename_i X;exact (Za3 lo _ _ _ _ B _ _ _ (HK.out.below (HBw.out.trans (X.h.mono HBw.out.size)))).mono fun _ _ h=>⟨h.1,Up.next X h.2⟩)
         | (go_at_call 109;rename_i X;exact (Zcc B.ps[k] B.ps[m] _).mono fun _ _ h=>⟨h.1,Up.next X h.2⟩)))
        refine wpQuiet_nil ?_;intro wn hw;obtain⟨X,hX⟩:=hw;have HWN:Below Wq.heap.size Wq wn:=by rw [hX];exact X.h
        clear hX X xs xn x0 x1 x2 x3 x4 x5 x6 y0 y1 y2 y3 y4 yk0 yk1 yk2 yk3 yk4;go_wp2;go_meet;exact⟨congrArg Value.bool (by rw [HQ.out,h1,Bool.and_false];rfl),HWN⟩
       | true=>
        cases h2:B.ls.any (Zdt B.ps[m].tm B.ps[m].re) with
        | false=>
         rw [h2] at hd2
         repeat (go_big_quiet_step (
          first
          | (go_at_call 54;rename_i X;exact (Zal _ _ _ _).mono fun _ _ h=>⟨h.1,X,h.2⟩)
          | (go_at_call 58;rename_i X;exact (Zad _ _ (by with_reducible assumption)).mono fun _ _ h=>⟨h.1,X,h.2⟩)
          | (go_at_call 108;rename_i X;exact (Za3 lo _ _ _ _ B _ _ _ (HK.out.below (HBw.out.trans (X.h.mono HBw.out.size)))).mono fun _ _ h=>⟨h.1,Up.next X h.2⟩)
          | (go_at_call 109;rename_i X;exact (Zcc B.ps[k] B.ps[m] _).mono fun _ _ h=>⟨h.1,Up.next X h.2⟩)))
         refine wpQuiet_nil ?_;intro wn hw;obtain⟨X,hX⟩:=hw;have HWN:Below Wq.heap.size Wq wn:=by rw [hX];exact X.h
         clear hX X xs xn x0 x1 x2 x3 x4 x5 x6 y0 y1 y2 y3 y4 yk0 yk1 yk2 yk3 yk4;go_wp2;go_meet;exact⟨congrArg Value.bool (by rw [HQ.out,h2];rfl),HWN⟩
        | true=>
         rw [h2] at hd2
         cases h3:inB 1 1000000 B.ps[m].am with
         | false=>
          repeat (go_big_quiet_step (
           first
           | (go_at_call 54;rename_i X;exact (Zal _ _ _ _).mono fun _ _ h=>⟨h.1,X,h.2⟩)
           | (go_at_call 58;rename_i X;exact (Zad _ _ (by with_reducible assumption)).mono fun _ _ h=>⟨h.1,X,h.2⟩)
           | (go_at_call 108;rename_i X;exact (Za3 lo _ _ _ _ B _ _ _ (HK.out.below (HBw.out.trans (X.h.mono HBw.out.size)))).mono fun _ _ h=>⟨h.1,Up.next X h.2⟩)
           | (go_at_call 109;rename_i X;exact (Zcc B.ps[k] B.ps[m] _).mono fun _ _ h=>⟨h.1,Up.next X h.2⟩)))
          refine wpQuiet_nil ?_;intro wn hw;obtain⟨X,hX⟩:=hw;have HWN:Below Wq.heap.size Wq wn:=by rw [hX];exact X.h
          clear hX X xs xn x0 x1 x2 x3 x4 x5 x6 y0 y1 y2 y3 y4 yk0 yk1 yk2 yk3 yk4;go_wp2;go_meet;exact⟨congrArg Value.bool (by rw [HQ.out,h2,h1,h3];rfl),HWN⟩
         | true=>
          cases h4:inB B.tick (B.tick+10) B.ps[m].un with
          | false=>
           repeat (go_big_quiet_step (
            first
            | (go_at_call 54;rename_i X;exact (Zal _ _ _ _).mono fun _ _ h=>⟨h.1,X,h.2⟩)
            | (go_at_call 58;rename_i X;exact (Zad _ _ (by with_reducible assumption)).mono fun _ _ h=>⟨h.1,X,h.2⟩)
            | (go_at_call 108;rename_i X;exact (Za3 lo _ _ _ _ B _ _ _ (HK.out.below (HBw.out.trans (X.h.mono HBw.out.size)))).mono fun _ _ h=>⟨h.1,Up.next X h.2⟩)
            | (go_at_call 109;rename_i X;exact (Zcc B.ps[k] B.ps[m] _).mono fun _ _ h=>⟨h.1,Up.next X h.2⟩)))
           refine wpQuiet_nil ?_;intro wn hw;obtain⟨X,hX⟩:=hw;have HWN:Below Wq.heap.size Wq wn:=by rw [hX];exact X.h
           clear hX X xs xn x0 x1 x2 x3 x4 x5 x6 y0 y1 y2 y3 y4 yk0 yk1 yk2 yk3 yk4;go_wp2;go_meet;exact⟨congrArg Value.bool (by rw [HQ.out,h2,h1,h3,h4];rfl),HWN⟩
          | true=>
           by_cases hnu:ZlE B.ps[k].dr B.ps[k].tm B.ps[k].re B.ps[m].dr B.ps[m].tm B.ps[m].re < 0
           · have HRI:Hid (Zce Zgm B.ps m=true):=HRI0.out.trans (decide_eq_true hnu)
             have hd1:decide (0≤ZlE B.ps[k].dr B.ps[k].tm B.ps[k].re B.ps[m].dr B.ps[m].tm B.ps[m].re)=false:=by simp;omega
             clear hnu
             repeat (go_big_quiet_step (
              first
              | (go_at_call 54;rename_i X;exact (Zal _ _ _ _).mono fun _ _ h=>⟨h.1,X,h.2⟩)
              | (go_at_call 58;rename_i X;exact (Zad _ _ (by with_reducible assumption)).mono fun _ _ h=>⟨h.1,X,h.2⟩)
              | (go_at_call 108;rename_i X;exact (Za3 lo _ _ _ _ B _ _ _ (HK.out.below (HBw.out.trans (X.h.mono HBw.out.size)))).mono fun _ _ h=>⟨h.1,Up.next X h.2⟩)
              | (go_at_call 109;rename_i X;exact (Zcc B.ps[k] B.ps[m] _).mono fun _ _ h=>⟨h.1,Up.next X h.2⟩)))
             refine wpQuiet_nil ?_;intro wn hw;obtain⟨X,hX⟩:=hw;have HWN:Below Wq.heap.size Wq wn:=by rw [hX];exact X.h
             clear hX X xs xn x0 x1 x2 x3 x4 x5 x6 y0 y1 y2 y3 y4 yk0 yk1 yk2 yk3 yk4;go_wp2;go_meet;exact⟨congrArg Value.bool (by rw [HQ.out,h2,h1,h3,h4,HRI.out];rfl),HWN⟩
           · have HRI:Hid (Zce Zgm B.ps m=false):=HRI0.out.trans (decide_eq_false hnu)
             have hd1:decide (0≤ZlE B.ps[k].dr B.ps[k].tm B.ps[k].re B.ps[m].dr B.ps[m].tm B.ps[m].re)=true:=by simp;omega
             clear hnu
             repeat (go_big_quiet_step (
              first
              | (go_at_call 54;rename_i X;exact (Zal _ _ _ _).mono fun _ _ h=>⟨h.1,X,h.2⟩)
              | (go_at_call 58;rename_i X;exact (Zad _ _ (by with_reducible assumption)).mono fun _ _ h=>⟨h.1,X,h.2⟩)
              | (go_at_call 108;rename_i X;exact (Za3 lo _ _ _ _ B _ _ _ (HK.out.below (HBw.out.trans (X.h.mono HBw.out.size)))).mono fun _ _ h=>⟨h.1,Up.next X h.2⟩)
              | (go_at_call 109;rename_i X;exact (Zcc B.ps[k] B.ps[m] _).mono fun _ _ h=>⟨h.1,Up.next X h.2⟩)))
             refine wpQuiet_nil ?_;intro wn hw;obtain⟨X,hX⟩:=hw;have HWN:Below Wq.heap.size Wq wn:=by rw [hX];exact X.h
             clear hX X xs xn x0 x1 x2 x3 x4 x5 x6 y0 y1 y2 y3 y4 yk0 yk1 yk2 yk3 yk4;go_wp2;go_meet;exact⟨congrArg Value.bool (by rw [HQ.out,h2,h1,h3,h4,HRI.out];rfl),HWN⟩
    case rest=>
     obtain⟨hc75,hwn⟩:=hcut;have HWN:=Zab hwn;have HWB:Hid (Zw_ w wc):=HBw.out.trans (HWN.out.mono HBw.out.size);clear hwn hc
     cases hgn:puB B B.ps[m] with
     | false=>
      have HN:Hid (Zf8 Ss Ts B=false):=ZrA (Zmj hlt hgn);rw [hgn] at hc75;subst hc75;go_wp2;go_ret;exact⟨Zaa HN.out.symm,HWB.out⟩
     | true=>
      cases hri:Zce Zgm B.ps m with
      | false=>
       have HN:Hid (Zf8 Ss Ts B=false):=ZrA (Zmk hlt hri);rw [hgn,hri] at hc75;subst hc75;go_wp2;go_ret;exact⟨Zaa HN.out.symm,HWB.out⟩
      | true=>
       have HT:=Zab hgn;have HR:=Zab hri;rw [hgn,hri] at hc75;subst hc75;go_wp2;go_roundw
       case rel=>exact⟨m+1,by go_num,by omega,HWB.out,HXq.out.on HWN.out,HYq.out.on HWN.out,Zbn HA.out hlt HT.out,Zlp HS.out HR.out⟩
       case measure=>simp [intOf];omega
  · have HPT:Hid (Za8 B=true):=Zml hpl (fun j hj=>HA.out j hj (by omega)) (fun j hj=>HS.out j (by omega))
    clear HA HS;go_wp2
    go_loopw [7] (fun i wr=>∃ m:Nat,i=.int .i64 m∧m≤B.ls.length∧Zw_ w wr∧Box wr w.heap.size #[.slice sa Ss.length sc,.slice ma Ms.length mc,.slice ta Ts.length tc]∧Box wr (w.heap.size+1) #[.int .i64 B.now,.int .i64 B.tick,.int .i64 B.given,.slice a0 B.os.length k0,.slice a1 B.gs.length k1,.slice a2 B.ls.length k2,.slice a3 B.ps.length k3]∧(∀ j (h:j < B.ls.length),j < m→leB Ts B.ls[j]=true)∧(∀ j,j < m→Zce Zdh B.ls j=true)∧∀ j (h:j < B.ls.length),j < m→ZeO Ss Ts B B.ls[j]=true) (fun i _=>B.ls.length - (intOf i).toNat)
    case atStart=>exact⟨0,rfl,Nat.zero_le _,HBr.out,HXr.out,HYr.out,fun j _ h=>by omega,fun j h=>by omega,fun j _ h=>by omega⟩
    case round=>
     clear HBr HXr HYr x6 hm hlt;obtain⟨m,rfl,hm,hb,hx,hx2,hall,hris,hsum⟩:=hrel;have HBr:=Zab hb;have HXr:=Zab hx;have HYr:=Zab hx2;have HA:=Zab hall;have HS:=Zab hris;have HU:=Zab hsum;have x5:=hx2.cell 5;simp at x5;clear hb hx hx2 hall hris hsum
     by_cases hlt:m < B.ls.length
     · obtain⟨b,off,rfl,hbw,-,hc⟩:=HK.out.les.full' (by omega)
       obtain⟨hs,hcell⟩:=hc m hlt;obtain⟨c0,c1,c2,c3⟩:=hcell.below HBr.out hbw;have HZ:=Zab hs;have HQ:Hid (ZeO Ss Ts B B.ls[m]=decide (wrap64 (Zdi Ss Ts B.os B.ls[m].tm B.ls[m].re+Ze5 B.ps B.ls[m].tm B.ls[m].re+B.ls[m].fr)=B.ls[m].mo)):=rfl;have x2:=HXr.out.cell 2;simp at x2;have xlt:=HXr.out.lt;have x2:∀ o,(wr.alloc o).cell? ⟨w.heap.size,2,none⟩=some (.slice ta Ts.length tc):=fun o=>(Zah _ _ _ _ xlt).trans x2
       clear xlt;go_wp2_with fail;generalize hWq:wr.alloc _=Wq;have HBq:Hid (Below wr.heap.size wr Wq):=by rw [← hWq];exact Zac _ _
       have HPq:Hid (Box Wq wr.heap.size #[.string B.ls[m].tm,.string B.ls[m].re,.int .i64 B.ls[m].mo,.int .i64 B.ls[m].fr]):=by rw [← hWq];exact Box.new _ _ _ _ rfl
       clear hWq x2 x5;have HXq:=Zab (HXr.out.on HBq.out);have HYq:=Zab (HYr.out.on HBq.out);have HBw:Hid (Zw_ w Wq):=HBr.out.trans (HBq.out.mono HBr.out.size)
       have HC:Hid (∀ k (h:k < B.ls.length),w.cell? ⟨b,off+k*4,none⟩=some (.string B.ls[k].tm)∧w.cell? ⟨b,off+k*4+1,none⟩=some (.string B.ls[k].re)):=fun k hk=>by
        obtain⟨_,hck⟩:=hc k hk;exact⟨hck.c0,hck.c1⟩
       clear c0 c1 c2 c3 hcell hs hc;generalize hβ:wr.heap.size=β at*;refine (ZaG lo _ Ts _ _ (HL.out.below HBw.out).tms).mono ?_;rintro e Wq ⟨rfl,rfl⟩;have s1:=HZ.out.s1;have y0:=HPq.out.cell 0;have y1:=HPq.out.cell 1;have y2:=HPq.out.cell 2;have y3:=HPq.out.cell 3;simp at y0 y1 y2 y3
       cases h1:ZeL Ts B.ls[m].tm with
       | false=>
        have HN:Hid (Zf8 Ss Ts B=false):=Zko (Zc6 hlt (Zrv h1));go_wp2;go_ret;exact⟨Zaa HN.out.symm,HBw.out⟩
       | true=>
        cases h2:Zaj B.ls[m].re with
        | false=>
         have HN:Hid (Zf8 Ss Ts B=false):=Zko (Zc6 hlt (Zrw h2));go_wp2_with (go_at_call 58;refine (Zad _ _ s1).mono ?_;rintro e Wq ⟨rfl,rfl⟩);go_ret;exact⟨Zaa HN.out.symm,HBw.out⟩
        | true=>
         by_cases f0:B.ls[m].fr < 0
         case pos=>
          have df0:decide (B.ls[m].fr < 0)=true:=decide_eq_true f0;have HN:Hid (Zf8 Ss Ts B=false):=Zko (Zc6 hlt (Zki (by omega)));go_wp2_with (go_at_call 58;refine (Zad _ _ s1).mono ?_;rintro e Wq ⟨rfl,rfl⟩);go_ret;exact⟨Zaa HN.out.symm,HBw.out⟩
         have df0:decide (B.ls[m].fr < 0)=false:=decide_eq_false f0
         by_cases f1:B.ls[m].mo < B.ls[m].fr
         case pos=>
          have df1:decide (B.ls[m].mo < B.ls[m].fr)=true:=decide_eq_true f1;have HN:Hid (Zf8 Ss Ts B=false):=Zko (Zc6 hlt (Zki (by omega)));go_wp2_with (go_at_call 58;refine (Zad _ _ s1).mono ?_;rintro e Wq ⟨rfl,rfl⟩);go_ret;exact⟨Zaa HN.out.symm,HBw.out⟩
         have df1:decide (B.ls[m].mo < B.ls[m].fr)=false:=decide_eq_false f1
         by_cases f2:1000000 < B.ls[m].mo
         case pos=>
          have df2:decide (1000000 < B.ls[m].mo)=true:=decide_eq_true f2;have HN:Hid (Zf8 Ss Ts B=false):=Zko (Zc6 hlt (Zki (by omega)));go_wp2_with (go_at_call 58;refine (Zad _ _ s1).mono ?_;rintro e Wq ⟨rfl,rfl⟩);go_ret;exact⟨Zaa HN.out.symm,HBw.out⟩
         have df2:decide (1000000 < B.ls[m].mo)=false:=decide_eq_false f2;have HLE:Hid (leB Ts B.ls[m]=true):=Zrx h1 h2 (by omega);clear f0 f1 f2;go_wp2_with (go_at_call 58;refine (Zad _ _ s1).mono ?_;rintro e Wq ⟨rfl,rfl⟩);clear df0 df1 df2
         go_cut [140] (fun c wc=>c=.bool (!Zce Zdh B.ls m)∧Below Wq.heap.size Wq wc)
         case first=>
          have x5:=HYq.out.cell 5;simp at x5
          by_cases h0:m=0
          · have hd0:decide (0 < m)=false:=by simp;omega
            have HRI:Hid (Zce Zdh B.ls m=true):=by unfold Hid;rw [h0];rfl
            clear h0
            go_quiet ((go_at_call 102;exact (Zc5 _ _ _ _ _).mono fun _ _ h=>⟨h.1,_,h.2⟩))
            go_wp2;go_meet;exact⟨congrArg Value.bool (by rw [HRI.out];rfl),below_drewN Zb_ _⟩
          · have hd0:decide (0 < m)=true:=by simp;omega
            obtain⟨k,hkm⟩:∃ k,m=k+1:=⟨m - 1,by omega⟩
            have hltk:k < B.ls.length:=by omega
            have yk0:Wq.cell? ⟨b,off+k*4,none⟩=some (.string B.ls[k].tm):=(HBw.out.cell (p:=⟨b,off+k*4,none⟩) hbw).trans (HC.out k hltk).1;have yk1:Wq.cell? ⟨b,off+k*4+1,none⟩=some (.string B.ls[k].re):=(HBw.out.cell (p:=⟨b,off+k*4+1,none⟩) hbw).trans (HC.out k hltk).2
            have HRI0:Hid (Zce Zdh B.ls m=decide (ZeK B.ls[k].tm B.ls[k].re B.ls[m].tm B.ls[m].re < 0)):=by
             subst hkm;unfold Hid;rw [Zdb hlt]
             rfl
            have e2:IntKind.i64.wrap ((m:Int) - 1)=k:=by rw [IntWalk.i64_left];unfold wrap64;omega
            have e3:wrap64 ((m:Int) - 1)=k:=by unfold wrap64;omega
            have e4:(m:Int) - 1=k:=by omega
            have HKM:=Zab hkm;clear h0 hkm
            by_cases hnu:ZeK B.ls[k].tm B.ls[k].re B.ls[m].tm B.ls[m].re < 0
            · have HRI:Hid (Zce Zdh B.ls m=true):=HRI0.out.trans (decide_eq_true hnu)
              have hd1:decide (0≤ZeK B.ls[k].tm B.ls[k].re B.ls[m].tm B.ls[m].re)=false:=by simp;omega
              clear hnu
              go_quiet ((go_at_call 102;exact (Zc5 _ _ _ _ _).mono fun _ _ h=>⟨h.1,_,h.2⟩))
              go_wp2;go_meet;exact⟨congrArg Value.bool (by rw [HRI.out];rfl),below_drewN Zb_ _⟩
            · have HRI:Hid (Zce Zdh B.ls m=false):=HRI0.out.trans (decide_eq_false hnu)
              have hd1:decide (0≤ZeK B.ls[k].tm B.ls[k].re B.ls[m].tm B.ls[m].re)=true:=by simp;omega
              clear hnu
              go_quiet ((go_at_call 102;exact (Zc5 _ _ _ _ _).mono fun _ _ h=>⟨h.1,_,h.2⟩))
              go_wp2;go_meet;exact⟨congrArg Value.bool (by rw [HRI.out];rfl),below_drewN Zb_ _⟩
         case rest=>
          obtain⟨hc140,hwn⟩:=hcut;have HW1:=Zab hwn;have HB1:Hid (Zw_ w wc):=HBw.out.trans (HW1.out.mono HBw.out.size);have HX1:=Zab (HXq.out.on HW1.out);have HY1:=Zab (HYq.out.on HW1.out);have HP1:=Zab (HPq.out.on HW1.out);clear hwn y0 y1 y2 y3
          cases hri:Zce Zdh B.ls m with
          | false=>
           have HN:Hid (Zf8 Ss Ts B=false):=Zko (Zkk hlt hri);rw [hri] at hc140;subst hc140;go_wp2;go_ret;exact⟨Zaa HN.out.symm,HB1.out⟩
          | true=>
           have HR:=Zab hri;rw [hri] at hc140;subst hc140;clear hri;generalize wc=W1 at*;go_wp2
           go_cut [160] (fun c wc=>c=.bool (!ZeO Ss Ts B B.ls[m])∧Below W1.heap.size W1 wc)
           case first=>
            have xn:Nonempty (In (Up W1)):=⟨⟨W1,Below.refl _ _⟩⟩;have xs:=fun (X:In (Up W1))=>ZcH X
            have l0:∀ X:In (Up W1),X.w.cell? ⟨w.heap.size,0,none⟩=some (.slice sa Ss.length sc):=fun X=>Up.cell X (by rw [HX1.out.cell 0];rfl)
            have l1:∀ X:In (Up W1),X.w.cell? ⟨w.heap.size,1,none⟩=some (.slice ma Ms.length mc):=fun X=>Up.cell X (by rw [HX1.out.cell 1];rfl)
            have l2:∀ X:In (Up W1),X.w.cell? ⟨w.heap.size,2,none⟩=some (.slice ta Ts.length tc):=fun X=>Up.cell X (by rw [HX1.out.cell 2];rfl)
            have x0:∀ X:In (Up W1),X.w.cell? ⟨w.heap.size+1,0,none⟩=some (.int .i64 B.now):=fun X=>Up.cell X (by rw [HY1.out.cell 0];rfl)
            have x1:∀ X:In (Up W1),X.w.cell? ⟨w.heap.size+1,1,none⟩=some (.int .i64 B.tick):=fun X=>Up.cell X (by rw [HY1.out.cell 1];rfl)
            have x2:∀ X:In (Up W1),X.w.cell? ⟨w.heap.size+1,2,none⟩=some (.int .i64 B.given):=fun X=>Up.cell X (by rw [HY1.out.cell 2];rfl)
            have x3:∀ X:In (Up W1),X.w.cell? ⟨w.heap.size+1,3,none⟩=some (.slice a0 B.os.length k0):=fun X=>Up.cell X (by rw [HY1.out.cell 3];rfl)
            have x4:∀ X:In (Up W1),X.w.cell? ⟨w.heap.size+1,4,none⟩=some (.slice a1 B.gs.length k1):=fun X=>Up.cell X (by rw [HY1.out.cell 4];rfl)
            have x5:∀ X:In (Up W1),X.w.cell? ⟨w.heap.size+1,5,none⟩=some (.slice (some ⟨b,off,none⟩) B.ls.length k2):=fun X=>Up.cell X (by rw [HY1.out.cell 5];rfl)
            have x6:∀ X:In (Up W1),X.w.cell? ⟨w.heap.size+1,6,none⟩=some (.slice a3 B.ps.length k3):=fun X=>Up.cell X (by rw [HY1.out.cell 6];rfl)
            have y0:∀ X:In (Up W1),X.w.cell? ⟨β,0,none⟩=some (.string B.ls[m].tm):=fun X=>Up.cell X (by rw [HP1.out.cell 0];rfl)
            have y1:∀ X:In (Up W1),X.w.cell? ⟨β,1,none⟩=some (.string B.ls[m].re):=fun X=>Up.cell X (by rw [HP1.out.cell 1];rfl)
            have y2:∀ X:In (Up W1),X.w.cell? ⟨β,2,none⟩=some (.int .i64 B.ls[m].mo):=fun X=>Up.cell X (by rw [HP1.out.cell 2];rfl)
            have y3:∀ X:In (Up W1),X.w.cell? ⟨β,3,none⟩=some (.int .i64 B.ls[m].fr):=fun X=>Up.cell X (by rw [HP1.out.cell 3];rfl)
            have HV:Hid (wrap64 (wrap64 (wrap64 (Zdi Ss Ts B.os B.ls[m].tm B.ls[m].re)+wrap64 (Ze5 B.ps B.ls[m].tm B.ls[m].re))+B.ls[m].fr)=wrap64 (Zdi Ss Ts B.os B.ls[m].tm B.ls[m].re+Ze5 B.ps B.ls[m].tm B.ls[m].re+B.ls[m].fr)):=by unfold Hid;rw [Zg6,Zfr]
            by_cases hq:wrap64 (wrap64 (wrap64 (Zdi Ss Ts B.os B.ls[m].tm B.ls[m].re)+wrap64 (Ze5 B.ps B.ls[m].tm B.ls[m].re))+B.ls[m].fr)=B.ls[m].mo
            · have HT:Hid (ZeO Ss Ts B B.ls[m]=true):=by unfold Hid;rw [HQ.out,← HV.out];exact decide_eq_true hq
              have hd:(wrap64 (wrap64 (wrap64 (Zdi Ss Ts B.os B.ls[m].tm B.ls[m].re)+wrap64 (Ze5 B.ps B.ls[m].tm B.ls[m].re))+B.ls[m].fr) != B.ls[m].mo)=false:=by simp [hq]
              clear hq;refine Zae (Up W1) (by kernel_rfl) (by kernel_rfl) (Zb_.drew) ?_
              repeat (go_big_quiet_step (
               first
               | (go_at_call 110;rename_i X;exact (ZfS lo _ _ _ _ Ss Ms Ts B.os B.now B.tick B.given _ _ _ (HL.out.below (HB1.out.trans (X.h.mono HB1.out.size))) (HK.out.below (HB1.out.trans (X.h.mono HB1.out.size))).obs HN.out _ _ _ _ _ _ _ _ _).mono fun _ _ h=>⟨h.1,Up.next X h.2⟩)
               | (go_at_call 111;rename_i X;exact (Zjl lo _ _ _ _ B _ _ _ (HK.out.below (HB1.out.trans (X.h.mono HB1.out.size)))).mono fun _ _ h=>⟨h.1,Up.next X h.2⟩)))
              refine wpQuiet_nil ?_;intro wn hw;obtain⟨X,hX⟩:=hw;have HWN:Below W1.heap.size W1 wn:=by rw [hX];exact X.h
              clear hX X xs xn l0 l1 l2 x0 x1 x2 x3 x4 x5 x6 y0 y1 y2 y3;go_wp2;go_meet;exact⟨congrArg Value.bool (by rw [HT.out];rfl),HWN⟩
            · have HT:Hid (ZeO Ss Ts B B.ls[m]=false):=by unfold Hid;rw [HQ.out,← HV.out];exact decide_eq_false hq
              have hd:(wrap64 (wrap64 (wrap64 (Zdi Ss Ts B.os B.ls[m].tm B.ls[m].re)+wrap64 (Ze5 B.ps B.ls[m].tm B.ls[m].re))+B.ls[m].fr) != B.ls[m].mo)=true:=by simp [hq]
              clear hq;refine Zae (Up W1) (by kernel_rfl) (by kernel_rfl) (Zb_.drew) ?_
              repeat (go_big_quiet_step (
               first
               | (go_at_call 110;rename_i X;exact (ZfS lo _ _ _ _ Ss Ms Ts B.os B.now B.tick B.given _ _ _ (HL.out.below (HB1.out.trans (X.h.mono HB1.out.size))) (HK.out.below (HB1.out.trans (X.h.mono HB1.out.size))).obs HN.out _ _ _ _ _ _ _ _ _).mono fun _ _ h=>⟨h.1,Up.next X h.2⟩)
               | (go_at_call 111;rename_i X;exact (Zjl lo _ _ _ _ B _ _ _ (HK.out.below (HB1.out.trans (X.h.mono HB1.out.size)))).mono fun _ _ h=>⟨h.1,Up.next X h.2⟩)))
              refine wpQuiet_nil ?_;intro wn hw;obtain⟨X,hX⟩:=hw;have HWN:Below W1.heap.size W1 wn:=by rw [hX];exact X.h
              clear hX X xs xn l0 l1 l2 x0 x1 x2 x3 x4 x5 x6 y0 y1 y2 y3;go_wp2;go_meet;exact⟨congrArg Value.bool (by rw [HT.out];rfl),HWN⟩
           case rest=>
            obtain⟨hc160,hwn⟩:=hcut;have HW2:=Zab hwn;have HB2:Hid (Zw_ w wc):=HB1.out.trans (HW2.out.mono HB1.out.size);clear hwn
            cases hsm:ZeO Ss Ts B B.ls[m] with
            | false=>
             have HN:Hid (Zf8 Ss Ts B=false):=Ztp (Zba hlt hsm);rw [hsm] at hc160;subst hc160;go_wp2;go_ret;exact⟨Zaa HN.out.symm,HB2.out⟩
            | true=>
             have HSM:=Zab hsm;rw [hsm] at hc160;subst hc160;go_wp2;go_roundw
             case rel=>exact⟨m+1,by go_num,by omega,HB2.out,HX1.out.on HW2.out,HY1.out.on HW2.out,Zbn HA.out hlt HLE.out,Zlp HS.out HR.out,Zbn HU.out hlt HSM.out⟩
             case measure=>simp [intOf];omega
     · have HT:Hid (Zf8 Ss Ts B=true):=ZrB (Zkm hll (fun j hj=>HA.out j hj (by omega)) (fun j hj=>HS.out j (by omega))) HPT.out (Zb0 (fun j hj=>HU.out j hj (by omega)))
       go_wp2;go_ret;exact⟨Zaa HT.out.symm,HBr.out⟩
end
end Go.Proofs.YtcfjmagkinpaeaaGreat
namespace Go.Proofs.YtcfjmagkinpaeaaGreat
open Go.RowKit Go.Deep Go.Shelf Go.Maps
attribute [local go_sem] Oper.semAt_some
abbrev Tie:=Nat×Int×Zy_×Zy_
def ZfV (k:Nat) (f:Fd) (s:Zy_):List Tie:=if (f.kd == 4&&!s.toList.isEmpty)=true then [(k,f.ro,f.to,s)] else []
def Zei (Fs:List Fd) (V:List Zy_):Nat→List Tie
 | 0=>[]
 | k+1=>Zei Fs V k ++ (match Fs[k]?,V[k]? with | some f,some s=>ZfV k f s | _,_=>[])
theorem ZjI {Fs:List Fd} {V:List Zy_} {k:Nat} (hf:k < Fs.length) (hv:k < V.length):Zei Fs V (k+1)=Zei Fs V k ++ ZfV k Fs[k] V[k]:=by
 rw [Zei];simp [hf,hv]
theorem Zqs (Fs:List Fd) (V:List Zy_) (k:Nat):(Zei Fs V k).length≤k:=by
 induction k with
 | zero=>simp [Zei]
 | succ k ih=>
  rw [Zei,List.length_append]
  split
  · unfold ZfV
    split
    · simp;omega
    · simp;omega
  · simp;omega
abbrev ZtA (x:Tie):Array Value:=#[.agg #[.int .i64 x.1,.int .i64 x.2.1,.string (Zha x.2.2.1),.string (Zha x.2.2.2)]]
section
variable (lo:Nat) (sk:Zy_) (fv:Value) (Fs:List Fd) (kind nm team:Zy_) (vv hv:Value) (en:Bool) (ver:Int) (V Ho:List Zy_) (w:World)
theorem Zr9 (F:Fence) (n:Nat) (hf:F.fn 188) (hro:F.round=none) (a:Option Addr) (ln cap:Nat) (va:Option Addr) (vn vcap:Nat) (ha:Option Addr) (hn hcap:Nat) :
 CallsIn F n prog 188 #[.agg #[.string sk,.slice a ln cap],.agg #[.string kind,.string nm,.string team,.slice va vn vcap,.bool en,.slice ha hn hcap,.int .i64 ver]] w
  fun e w'=>e=.returned (.func (.func 227) #[] #[.pointer (some ⟨w.heap.size,0,none⟩),.pointer (some ⟨w.heap.size+1,0,none⟩)])∧
   w'=(w.alloc (.cells #[.string sk,.slice a ln cap] 128)).alloc (.cells #[.string kind,.string nm,.string team,.slice va vn vcap,.bool en,.slice ha hn hcap,.int .i64 ver] 160):=by
 refine callsIn_of_wp func188 rfl hf ?_ hro;simp only [ntmps188,List.size_toArray,List.length_cons,List.length_nil,Nat.reduceAdd,Nat.reduceSub,Array.replicate_succ,Array.replicate_zero,List.push_toArray,List.append_toArray,List.nil_append,List.cons_append]
 gi_wp2
 go_ret;exact⟨rfl,rfl⟩
theorem ZmF (n:Nat) (hn:1≤n) (S:Nat→Prop) (w0:World) (B1 B2:Nat) (h0:Below w0.heap.size w0 w) (hF:Zav lo w0 fv Fs) (hV:Zaf w0 vv V) (hl:Fs.length=V.length) (n1:Fs.length≤1048576)
 (s0:∀ k,k < w0.heap.size→¬ S k) (s2:¬ S B2)
 (hX1:Box w B1 #[.string sk,fv]) (hX2:Box w B2 #[.string kind,.string nm,.string team,vv,.bool en,hv,.int .i64 ver]) :
 SeqStopsK Fence.wide n prog 227 #[.pointer (some ⟨B1,0,none⟩),.pointer (some ⟨B2,0,none⟩)] ZtA (ZaT S w.heap.size) (fun xs=>xs=Zei Fs V Fs.length) (fun xs=>∃ k,k≤Fs.length∧xs=Zei Fs V k) Fs.length w:=by
 intro l J Jx W hW hJ hJx hY hJ0;have HF:=Zab hF;have HV:=Zab hV;obtain⟨fa,fcap,rfl⟩:=hF.form;obtain⟨va,vcap,rfl⟩:=hV.form';have H0:=Zab (h0.trans (hW.mono h0.size));have x1:=(hX1.below hW hX1.lt).cell 1;have HO:=Zab (hX2.below hW hX2.lt);have hw:w.heap.size≤W.heap.size:=hW.size;have hw0:w0.heap.size≤w.heap.size:=h0.size;have HJ:=Zab hJ;have HJX:=Zab hJx;have HY:=Zab hY;have HL:=Zab hl;have S0:=Zab s0;have S2:=Zab s2;have HJ0:=Zab hJ0;simp at x1;clear hF hV h0 hW hX1 hX2 hJ hJx hY s0 s2 hJ0 hl;refine callsIn_of_wp func227 rfl trivial ?_ rfl;simp only [ntmps227,List.size_toArray,List.length_cons,List.length_nil,Nat.reduceAdd,Nat.reduceSub,Array.replicate_succ,Array.replicate_zero,List.push_toArray,List.append_toArray,List.nil_append,List.cons_append];have o3:=HO.out.cell 3;have olt:=HO.out.lt;simp at o3
 gi_wp2
 gi_loopw [9] (fun i wr=>∃ k:Nat,i=.int .i64 k∧k≤Fs.length∧J (Zei Fs V k) wr∧Below w0.heap.size w0 wr∧wr.cell? ⟨B2,3,none⟩=some (.slice va V.length vcap)∧B2 < wr.heap.size∧w.heap.size≤wr.heap.size)
  (fun i _=>Fs.length - (intOf i).toNat)
 case atStart=>exact⟨0,rfl,Nat.zero_le _,HJ0.out,H0.out,o3,olt,hw⟩
 case round=>
  clear o3 olt hw x1;obtain⟨k,rfl,hkl,hJk,hBk,q3,qlt,qw⟩:=hrel;have HJK:=Zab hJk;have HBK:=Zab hBk;clear hJk hBk
  by_cases hlt:k < Fs.length
  · have hlv:k < V.length:=by have:=HL.out;omega
    obtain⟨fb,foff,rfl,hfb,hfc⟩:=HF.out.full' (by omega);obtain⟨hsz,wv,hcell,hst⟩:=hfc k hlt;obtain⟨c0,c1,c2,c3,c4,c5,c6,c7,c8,c9,c10⟩:=hcell.below HBK.out hfb;obtain⟨wa,wn,wcap,rfl⟩:=hst.form;obtain⟨vb,voff,rfl,hvb,hvc,hvs⟩:=HV.out.spread (by omega);have hvk:wr.cell? ⟨vb,voff+k,none⟩=some (.string V[k]):=(HBK.out.cell (p:=⟨vb,voff+k,none⟩) hvb).trans (hvc k hlv);have hvz:V[k].size≤maxLen:=hvs _ (List.getElem_mem hlv);have hto:=hsz.s5;have HST:=Zab (ZjI hlt hlv);have HTO:Hid (ZfV k Fs[k] V[k]=if (Fs[k].kd == 4&&!V[k].toList.isEmpty)=true then [(k,Fs[k].ro,Fs[k].to,V[k])] else []):=rfl;clear hfc hcell hst hvc hvs hsz
    obtain⟨Wb,hWb,hvk',q3',f5,f6,HA,HAB,hzb⟩:∃ Wb,Wb=wr.alloc (.cells #[.string Fs[k].nm,.int .i64 Fs[k].kd,.int .i64 Fs[k].le,.int .i64 Fs[k].mo,.slice wa wn wcap,.string Fs[k].to,.int .i64 Fs[k].ro,.bool Fs[k].mu,.bool Fs[k].fx,.string Fs[k].df,.string Fs[k].we] 187)∧
     Wb.cell? ⟨vb,voff+k,none⟩=some (.string V[k])∧Wb.cell? ⟨B2,3,none⟩=some (.slice (some ⟨vb,voff,none⟩) V.length vcap)∧Wb.cell? ⟨wr.heap.size,5,none⟩=some (.string Fs[k].to)∧Wb.cell? ⟨wr.heap.size,6,none⟩=some (.int .i64 Fs[k].ro)∧
     Hid (J (Zei Fs V k) Wb)∧Hid (Below w0.heap.size w0 Wb)∧Wb.heap.size=wr.heap.size+1:=by
     refine⟨_,rfl,(Zah _ _ _ _ (Zk_ hvb HBK.out.size)).trans hvk,(Zah _ _ _ _ qlt).trans q3,Zb8 _ _ _ _ 5 rfl,Zb8 _ _ _ _ 6 rfl,Zbs HJ.out HJK.out (Zac _ _),HBK.out.trans ((Zac _ _).mono HBK.out.size),by simp⟩
    cases hk1:(Fs[k].kd == 4) with
    | false=>
     have hk1':(Fs[k].kd != 4)=true:=by simp [bne,hk1]
     have HE2:Hid (Zei Fs V (k+1)=Zei Fs V k):=by unfold Hid;rw [HST.out,HTO.out,hk1];simp
     gi_wp2
     rw [← hWb];clear hWb;go_roundw
     case rel=>exact⟨k+1,by go_num,by omega,by rw [HE2.out];exact HA.out,HAB.out,q3',by omega,by omega⟩
     case measure=>simp [intOf];omega
    | true=>
     have hk1':(Fs[k].kd != 4)=false:=by simp [bne,hk1]
     cases hk2:V[k].toList.isEmpty with
     | true=>
      have HE2:Hid (Zei Fs V (k+1)=Zei Fs V k):=by unfold Hid;rw [HST.out,HTO.out,hk1,hk2];simp
      have hvk2:∀ o,(wr.alloc o).cell? ⟨vb,voff+k,none⟩=some (.string V[k]):=fun o=>(Zah _ _ _ _ (Zk_ hvb HBK.out.size)).trans hvk
      have q32:∀ o,(wr.alloc o).cell? ⟨B2,3,none⟩=some (.slice (some ⟨vb,voff,none⟩) V.length vcap):=fun o=>(Zah _ _ _ _ qlt).trans q3
      gi_wp2
      rw [← hWb];clear hWb;go_roundw
      case rel=>exact⟨k+1,by go_num,by omega,by rw [HE2.out];exact HA.out,HAB.out,q3',by omega,by omega⟩
      case measure=>simp [intOf];omega
     | false=>
      have HE2:Hid (Zei Fs V (k+1)=Zei Fs V k ++ [(k,Fs[k].ro,Fs[k].to,V[k])]):=by unfold Hid;rw [HST.out,HTO.out,hk1,hk2];simp
      have hpl:(Zei Fs V k).length < Fs.length:=by have:=Zqs Fs V k;omega
      have HAD:Hid (J (Zei Fs V k) Wb.drew):=Zbs HJ.out HA.out Zb_.drew;obtain⟨fn,tmps,assign,body,hy,hR⟩:=HY.out _ (k,Fs[k].ro,Fs[k].to,V[k]) _ HAD.out hpl;dsimp only [ZtA] at hy;rw [Zd9 hto,Zd9 hvz] at hy;have HR:=Zab hR;have hvk2:∀ o,(wr.alloc o).cell? ⟨vb,voff+k,none⟩=some (.string V[k]):=fun o=>(Zah _ _ _ _ (Zk_ hvb HBK.out.size)).trans hvk
      have q32:∀ o,(wr.alloc o).cell? ⟨B2,3,none⟩=some (.slice (some ⟨vb,voff,none⟩) V.length vcap):=fun o=>(Zah _ _ _ _ qlt).trans q3
      clear hR hpl
      gi_wp2
      rw [← hWb];clear hWb hvk2 q32 hvk
      have HR2:Hid (RoundIn Fence.wide (n - 1) prog l fn tmps assign body Wb.drew fun e W'=>∃ r:Bool,e=.returned (.bool r)∧((r=true∧J (Zei Fs V k ++ [(k,Fs[k].ro,Fs[k].to,V[k])]) W'∧ZaT S w.heap.size Wb.drew W')∨(r=false∧Jx (Zei Fs V k ++ [(k,Fs[k].ro,Fs[k].to,V[k])]) W'))):=by
       refine HR.out.mono ?_;rintro e W' (⟨rfl,h1,h2⟩ | ⟨rfl,h1⟩)
       · exact⟨true,rfl,.inl ⟨rfl,h1,h2⟩⟩
       · exact⟨false,rfl,.inr ⟨rfl,h1⟩⟩
      have HK0:Hid (k+1≤Fs.length∧Zei Fs V k ++ [(k,Fs[k].ro,Fs[k].to,V[k])]=Zei Fs V (k+1)):=⟨by omega,HE2.out.symm⟩
      gi_region_with (refine HR2.out.mono ?_;rintro e W3 ⟨r,rfl,hP⟩)
      all_goals clear HR HR2 hy HY HJ HJX hvk' f5 f6
      all_goals
       rcases hP with ⟨rfl,hJ3,hk3⟩ | ⟨rfl,hJx3⟩
       · have HJ3:=Zab hJ3
         have r3:W3.cell? ⟨B2,3,none⟩=some (.slice (some ⟨vb,voff,none⟩) V.length vcap):=hk3.cell (show Wb.drew.cell? _=_ from q3') S2.out;have rB:Hid (Below w0.heap.size w0 W3):=HAB.out.drew.trans (hk3.below HAB.out.size S0.out hw0);have rz:=hk3.size;have rz':Wb.drew.heap.size=wr.heap.size+1:=hzb;clear hk3 hJ3
         gi_wp2
         go_roundw
         case rel=>exact⟨k+1,by go_num,by omega,by rw [HE2.out];exact HJ3.out,rB.out,r3,by omega,by omega⟩
         case measure=>simp [intOf];omega
       · have HX3:=Zab hJx3
         clear hJx3
         gi_wp2
         refine bodyPost_ret (results_none rfl _ _ _) rfl ?_;exact⟨⟨_,rfl⟩,.inr ⟨_,⟨k+1,HK0.out.1,HK0.out.2⟩,HX3.out⟩⟩
  · have he:k=Fs.length:=by omega
    subst he
    gi_wp2
    go_end0
    exact⟨⟨_,rfl⟩,.inl ⟨_,rfl,HJK.out⟩⟩
end
end Go.Proofs.YtcfjmagkinpaeaaGreat
