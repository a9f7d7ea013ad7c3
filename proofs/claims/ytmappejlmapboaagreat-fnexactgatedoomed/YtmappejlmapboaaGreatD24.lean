import Derived.Test.YtmappejlmapboaaGreatD23
set_option maxHeartbeats 16000000
set_option maxRecDepth 100000
open Go.Proofs.Tryz
namespace Go.Proofs.YtmappejlmapboaaGreat
section
open Go.RowKit Go.Deep Go.Maps
variable {Os:List Ob}
theorem Zaf.max' {w:World}{v:Value}{L:List Zy_} (h:Zaf w v L):L.length<=maxLen:=by
 rcases h with ⟨_,_,_,rfl⟩ | ⟨b,off,cap,_,_,h3,_⟩
 . exact Nat.zero_le _
 . exact h3
theorem ZmC (v v':Value) (A C:List Zy_) (w:World) (hA:Zaf w v A) (hC:Zaf w v' C) :
 Calls prog 242 #[v,v'] w fun e w'=>e=.returned (.bool (decide (A=C)))/\Zw_ w w':=by
 have HA:=Zab hA;have HC:=Zab hC;obtain⟨a,cap,rfl⟩:=hA.form';obtain⟨c,ccap,rfl⟩:=hC.form';have hm:=hA.max';unfold maxLen at hm;clear hA hC
 by_cases hl:A.length=C.length
 case neg=>
  have HE:Hd (decide (A=C)=false):=decide_eq_false (fun e=>hl (by rw [e]));have hne:((A.length:Int) != (C.length:Int))=true:=by simp;omega
  go_enter func242,ntmps242;go_wp2;go_ret;exact⟨Zaa HE.o.symm,Below.refl _ _⟩
 have hne:((A.length:Int) != (C.length:Int))=false:=by rw [hl];simp
 have HLEN:=Zab hl;clear hl;go_enter func242,ntmps242;go_wp2
 go_loopw [13] (fun i wr=>∃ k:Nat,i=.int .i64 k/\k<=A.length/\Zw_ w wr/\∀ j (h:j < A.length) (h':j < C.length),j < k->A[j]=C[j]) (fun i _=>A.length - (intOf i).toNat)
 case atStart=>exact⟨0,rfl,Nat.zero_le _,Below.refl _ _,fun j _ _ h=>by omega⟩
 case round=>
  obtain⟨k,rfl,hk,hb,hall⟩:=hrel;have HB:=Zab hb;have HL:=Zab hall;clear hb hall
  by_cases hlt:k < A.length
  . have hlc:k < C.length:=by have:=HLEN.o;omega
    obtain⟨ab,aoff,rfl,hab,hac,-⟩:=HA.o.spread (by omega);obtain⟨cb,coff,rfl,hcb,hcc,-⟩:=HC.o.spread (by omega);have ca:wr.cell? ⟨ab,aoff+k,none⟩=some (.string A[k]):=(HB.o.cell (p:=⟨ab,aoff+k,none⟩) hab).trans (hac k hlt);have cc:wr.cell? ⟨cb,coff+k,none⟩=some (.string C[k]):=(HB.o.cell (p:=⟨cb,coff+k,none⟩) hcb).trans (hcc k hlc);have hkc:(k:Int) < (C.length:Int):=by omega
    clear hac hcc
    cases hq:(A[k].toList == C[k].toList) with
    | true=>
     have HT:Hd (A[k]=C[k]):=Zaz.1 hq;go_wp2
     go_quiet (fail)
     go_wp2;go_roundw
     case rel=>exact⟨k+1,by go_num,by omega,below_drewN HB.o _,fun j hj hj' hjk=>by
                by_cases e:j=k
                . subst e;exact HT.o
                . exact HL.o j hj hj' (by omega)⟩
     . simp [intOf];omega
    | false=>
     have HN:Hd (decide (A=C)=false):=decide_eq_false (fun e=>Zf2.1 hq (by simp [e]));go_wp2
     go_quiet (fail)
     go_wp2;go_ret;exact⟨Zaa HN.o.symm,below_drewN HB.o _⟩
  . have HT:Hd (decide (A=C)=true):=decide_eq_true (List.ext_getElem HLEN.o (fun i h1 h2=>HL.o i h1 h2 (by omega)))
    go_wp2;go_ret;exact⟨Zaa HT.o.symm,HB.o⟩
theorem Zkd (v v':Value) (A C:List Zy_) (w:World) (hA:Zaf w v A) (hC:Zaf w v' C) :
 Calls prog 129 #[v,v'] w fun e w'=>e=.returned (.bool (decide (A=C)))/\Zw_ w w':=by
 have HA:=Zab hA;have HC:=Zab hC;obtain⟨a,cap,rfl⟩:=hA.form';obtain⟨c,ccap,rfl⟩:=hC.form';have hm:=hA.max';unfold maxLen at hm;clear hA hC
 by_cases hl:A.length=C.length
 case neg=>
  have HE:Hd (decide (A=C)=false):=decide_eq_false (fun e=>hl (by rw [e]));have hne:((A.length:Int) != (C.length:Int))=true:=by simp;omega
  go_enter func129,ntmps129;go_wp2;go_ret;exact⟨Zaa HE.o.symm,Below.refl _ _⟩
 have hne:((A.length:Int) != (C.length:Int))=false:=by rw [hl];simp
 have HLEN:=Zab hl;clear hl;go_enter func129,ntmps129;go_wp2
 go_loopw [5] (fun i wr=>∃ k:Nat,i=.int .i64 k/\k<=A.length/\Zw_ w wr/\∀ j (h:j < A.length) (h':j < C.length),j < k->A[j]=C[j]) (fun i _=>A.length - (intOf i).toNat)
 case atStart=>exact⟨0,rfl,Nat.zero_le _,Below.refl _ _,fun j _ _ h=>by omega⟩
 case round=>
  obtain⟨k,rfl,hk,hb,hall⟩:=hrel;have HB:=Zab hb;have HL:=Zab hall;clear hb hall
  by_cases hlt:k < A.length
  . have hlc:k < C.length:=by have:=HLEN.o;omega
    obtain⟨ab,aoff,rfl,hab,hac,-⟩:=HA.o.spread (by omega);obtain⟨cb,coff,rfl,hcb,hcc,-⟩:=HC.o.spread (by omega);have ca:wr.cell? ⟨ab,aoff+k,none⟩=some (.string A[k]):=(HB.o.cell (p:=⟨ab,aoff+k,none⟩) hab).trans (hac k hlt);have cc:wr.cell? ⟨cb,coff+k,none⟩=some (.string C[k]):=(HB.o.cell (p:=⟨cb,coff+k,none⟩) hcb).trans (hcc k hlc);have hkc:(k:Int) < (C.length:Int):=by omega
    clear hac hcc
    cases hq:(A[k].toList == C[k].toList) with
    | true=>
     have HT:Hd (A[k]=C[k]):=Zaz.1 hq;go_wp2
     go_quiet (fail)
     go_wp2;go_roundw
     case rel=>exact⟨k+1,by go_num,by omega,below_drewN HB.o _,fun j hj hj' hjk=>by
                by_cases e:j=k
                . subst e;exact HT.o
                . exact HL.o j hj hj' (by omega)⟩
     . simp [intOf];omega
    | false=>
     have HN:Hd (decide (A=C)=false):=decide_eq_false (fun e=>Zf2.1 hq (by simp [e]));go_wp2
     go_quiet (fail)
     go_wp2;go_ret;exact⟨Zaa HN.o.symm,below_drewN HB.o _⟩
  . have HT:Hd (decide (A=C)=true):=decide_eq_true (List.ext_getElem HLEN.o (fun i h1 h2=>HL.o i h1 h2 (by omega)))
    go_wp2;go_ret;exact⟨Zaa HT.o.symm,HB.o⟩
def Zhj (k n:Zy_) (x:Ob):Bool:=x.kd.toList == k.toList&&x.nm.toList == n.toList
def obP (Os:List Ob) (k n:Zy_):Int:=if Os.findIdx (Zhj k n) < Os.length then (Os.findIdx (Zhj k n):Int) else -1
theorem Ztc {k n:Zy_}{i:Nat} (hi:i < Os.length) (h:Zhj k n Os[i]=true) (hall:∀ j (h:j < Os.length),j < i->Zhj k n Os[j]=false):obP Os k n=i:=by
 have e:Os.findIdx (Zhj k n)=i:=by
  rw [List.findIdx_eq hi];exact⟨h,fun j hj=>hall j (by omega) hj⟩
 unfold obP;rw [e,if_pos hi]
theorem ZtZ {k n:Zy_} (hall:∀ j (h:j < Os.length),Zhj k n Os[j]=false):obP Os k n= -1:=by
 have e:Os.findIdx (Zhj k n)=Os.length:=by
  rw [List.findIdx_eq_length];intro x hx;obtain⟨i,hi,rfl⟩:=List.getElem_of_mem hx;exact hall i hi
 unfold obP;rw [e,if_neg (Nat.lt_irrefl _)]
theorem Ztb (Os:List Ob) (k n:Zy_):decide (obP Os k n < 0)=!Os.any (Zhj k n):=by
 unfold obP
 cases h:Os.any (Zhj k n) with
 | true=>
  obtain⟨x,hx,hp⟩:=List.any_eq_true.1 h;rw [if_pos (List.findIdx_lt_length_of_exists ⟨x,hx,hp⟩)];simp
 | false=>
  have e:Os.findIdx (Zhj k n)=Os.length:=List.findIdx_eq_length.2 (fun x hx=>by
   have:=List.any_eq_false.1 h x hx
   simpa using this)
  rw [e,if_neg (Nat.lt_irrefl _)]
  rfl
section
variable (lo:Nat) (ov gv lv pv:Value) (B:Bk) (t r:Zy_) (w:World)
theorem Zhp (h:ZaU lo w ov gv lv pv B) :
 Calls prog 131 #[.agg #[.int .i64 B.now,.int .i64 B.tick,.int .i64 B.given,ov,gv,lv,pv],.string t,.string r] w fun e w'=>e=.returned (.int .i64 (obP B.os t r))/\Zw_ w w':=by
 have HL:=Zab h.obs;have hm:=h.obs.max;unfold maxLen at hm;obtain⟨a0,k0,rfl⟩:=h.obs.form;obtain⟨a1,k1,rfl⟩:=h.grs.form;obtain⟨a2,k2,rfl⟩:=h.les.form;obtain⟨a3,k3,rfl⟩:=h.pus.form;clear h;go_enter func131,ntmps131;go_wp2_with fail;generalize hWa:w.alloc _=Wa;have HB:Hd (Zw_ w Wa):=by rw [<- hWa];exact Zac w _
 have HX:Hd (Box Wa w.heap.size #[.int .i64 B.now,.int .i64 B.tick,.int .i64 B.given,.slice a0 B.os.length k0,.slice a1 B.gs.length k1,.slice a2 B.ls.length k2,.slice a3 B.ps.length k3]):=by rw [<- hWa];exact Box.new _ _ _ _ rfl
 clear hWa;have x5:=HX.o.cell 3;simp at x5
 go_loop [7] (fun i=>∃ k:Nat,i=.int .i64 k/\k<=B.os.length/\∀ j (h:j < B.os.length),j < k->Zhj t r B.os[j]=false) (fun i=>B.os.length - (intOf i).toNat)
 case atStart=>exact⟨0,rfl,Nat.zero_le _,fun j _ h=>by omega⟩
 case round=>
  obtain⟨k,rfl,hk,hall⟩:=hrel;have HA:=Zab hall;clear hall
  by_cases hlt:k < B.os.length
  . obtain⟨b,off,rfl,hbw,-,hc⟩:=HL.o.full' (by omega)
    obtain⟨hs,vv0,vv1,hcell,-,-⟩:=hc k hlt;obtain⟨c0,c1,c2,c3,c4,c5,c6⟩:=hcell.below HB.o hbw;have HI:Hd (Zhj t r B.os[k]=(B.os[k].kd.toList == t.toList&&B.os[k].nm.toList == r.toList)):=rfl;clear hc hcell hs
    cases h1:(B.os[k].kd.toList == t.toList) with
    | false=>
     have HE:Hd (Zhj t r B.os[k]=false):=by unfold Hd;rw [HI.o,h1];rfl
     go_wp2
     go_round
     case rel=>exact⟨k+1,by go_num,by omega,fun j hj hjk=>by
                by_cases e:j=k
                . subst e;exact HE.o
                . exact HA.o j hj (by omega)⟩
     . simp [intOf];omega
    | true=>
     cases h2:(B.os[k].nm.toList == r.toList) with
     | false=>
      have HE:Hd (Zhj t r B.os[k]=false):=by unfold Hd;rw [HI.o,h1,h2];rfl
      go_wp2
      go_round
      case rel=>exact⟨k+1,by go_num,by omega,fun j hj hjk=>by
                 by_cases e:j=k
                 . subst e;exact HE.o
                 . exact HA.o j hj (by omega)⟩
      . simp [intOf];omega
     | true=>
      have HE:Hd (obP B.os t r=k):=Ztc hlt (by rw [HI.o,h1,h2];rfl) HA.o;go_wp2;go_ret;exact⟨ZaE HE.o.symm,HB.o⟩
  . have HE:Hd (obP B.os t r= -1):=ZtZ (fun i hi=>HA.o i hi (by omega))
    go_wp2;go_ret;exact⟨ZaE HE.o.symm,HB.o⟩
end
end
section
open Go.RowKit Go.Deep Go.Maps
theorem Zc1:Zes prog 153 9:=
 ⟨⟨_,_,underlying153,rfl,rfl,rfl,rfl,by decide,by decide⟩,by kernel_rfl,by kernel_rfl,underlying9,by kernel_rfl,of_decide_eq_true (by kernel_rfl)⟩
theorem ZtS:(153:TypeId) < prog.types.size:=of_decide_eq_true (by kernel_rfl)
theorem Zuo:prog.keyTypeAt 2 153=true:=by kernel_rfl
theorem Zi4:WideMaps.KeyLaw prog 153:=deep_law_laid ZpE (by decide) ZtS Zuo Zc1.wide
theorem ZcJ:Keyed prog 153:=Keyed.of_law Zi4
structure ZrE {H:Type} (Os:List Ob) (D:DataW H):Prop where
 isMap:IsMap D
 has:∀ a b:Zy_,a.size<=maxLen->b.size<=maxLen->Maps.has D (ZbI a b)=Os.any (Zhj a b)
theorem ZrE.start {H:Type}:ZrE [] (.map []:DataW H):=⟨⟨[],rfl⟩,fun _ _ _ _=>rfl⟩
theorem ZrE.step {H:Type}{Os:List Ob}{D:DataW H} (h:ZrE Os D) (o:Ob) (hz:Zdg o) (d:DataW H):ZrE (Os ++ [o]) (D.put (ZbI o.kd o.nm) d):=by
 refine⟨h.isMap.put _ _,fun a b ha hb=>?_⟩;rw [List.any_append]
 by_cases e:a=o.kd/\b=o.nm
 . obtain⟨rfl,rfl⟩:=e
   rw [has_put_same h.isMap (ZeW _ _)];unfold Zhj;simp
 . have hne:ZbI a b≠ZbI o.kd o.nm:=fun e'=>e (Zc1.inj Zi4 ha hb hz.s0 hz.s1 e')
   have hn:Zhj a b o=false:=by
    unfold Zhj
    cases h1:(o.kd.toList == a.toList) with
    | false=>rfl
    | true=>
     cases h2:(o.nm.toList == b.toList) with
     | false=>rfl
     | true=>exact absurd ⟨(Zaz.1 h1).symm,(Zaz.1 h2).symm⟩ e
   rw [has_put_other hne,h.has a b ha hb];simp [hn]
theorem Zcb (x:Ob) (va:Option Addr) (vn vc:Nat) (ha:Option Addr) (hn hc:Nat) (w:World) :
 Calls prog 96 #[.agg #[.string x.kd,.string x.nm,.string x.tm,.slice va vn vc,.bool x.en,.slice ha hn hc,.int .i64 x.ver]] w
  fun e w'=>e=.returned (.agg #[.string x.kd,.string x.nm])/\Zw_ w w':=by
 go_enter func96,ntmps96;go_wp2;refine bodyPost_ret (v:=.agg #[.string x.kd,.string x.nm]) (by simp [results,results96,go_sem]) rfl ⟨rfl,?_⟩
 repeat (refine Below.setCell ?_ (by simp) _)
 exact (Zb_.alloc Zl_ _).alloc (by simp) _
theorem ZoG (lo:Nat) (v:Value) (Os:List Ob) (w:World) (hv:Za3 lo w v Os) (hn:Os.length<=1048576) :
 Calls prog 192 #[v] w
  fun e w'=>e=.returned (.map (some w.heap.size))/\Zw_ w w'/\∃ D:DataW Unit,w'.ownsMap prog 153 (plainElem prog 3) w.heap.size Os.length D/\ZrE Os D:=by
 have HV:=Zab hv;obtain⟨a,cap,rfl⟩:=hv.form;clear hv;have hmm:∀ (n:Nat) (w:World),(Instr.makeMap 146 (some (.int .i64 n))).run prog w=.ok (.map (some w.heap.size)) (w.alloc (.map #[] 0)):=fun n w=>by simp [Instr.makeMap,go_sem,run_underlying underlying146,Result.andThen]
 go_enter func192,ntmps192;go_wp2;clear hmm
 go_loopw [11] (fun i wr=>∃ k:Nat,i=.int .i64 k/\k<=Os.length/\Zw_ w wr/\∃ D:DataW Unit,wr.ownsMap prog 153 (plainElem prog 3) w.heap.size k D/\ZrE (Os.take k) D) (fun i _=>Os.length - (intOf i).toNat)
 case atStart=>exact⟨0,rfl,Nat.zero_le _,Zac _ _,.map [],World.ownsMap_made _ _ _ _,ZrE.start⟩
 case round=>
  obtain⟨k,rfl,hk,hb,D,ho,hsum⟩:=hrel;have HB:=Zab hb;have HSUM:=Zab hsum;clear hb hsum
  by_cases hlt:k < Os.length
  . obtain⟨b,off,rfl,hbw,-,hc⟩:=HV.o.full' (by omega)
    obtain⟨hs,vv0,vv1,hcell,hv0,hv1⟩:=hc k hlt;obtain⟨c0,c1,c2,c3,c4,c5,c6⟩:=hcell.below HB.o hbw;obtain⟨va,vc,rfl⟩:=hv0.at.form';obtain⟨ha,hc',rfl⟩:=hv1.at.form';have HZ:=Zab hs;have HO:=Zab ho;have HTK:=Zab (List.take_succ_eq_append_getElem hlt);clear hc hcell hs hv0 hv1 ho;go_wp2_with fail;refine (Zcb Os[k] _ _ _ _ _ _ _).mono ?_;rintro e w1 ⟨rfl,hb1⟩;have HB1:Hd (Zw_ w w1):=(HB.o.trans ((Zac _ _).mono HB.o.size)).trans (hb1.mono (HB.o.trans ((Zac _ _).mono HB.o.size)).size);have ho1:w1.ownsMap prog 153 (plainElem prog 3) w.heap.size k D:=(HO.o.alloc _).kept (ZaC hb1) (by simp);clear hb1
    go_wp2_with (at_mapUpdate;refine wpList_mapUpdate_own _ rfl _ _ _ 146 rfl 153 3 ZcJ underlying146 _ w.heap.size k _ rfl ho1 (by unfold maxLen;omega) _ _ _ rfl rfl (Zc1.mk' HZ.o.s0 HZ.o.s1) _ [] (plainElem_int underlying3 (WalkArith.wf_i64 (by omega))) ?_;intro w2 ho2 hg2;have HO2:=Zab ho2;have HG2:=Zab hg2;clear ho2 hg2);go_roundw
    . exact⟨k+1,by go_num,by omega,ZbT HB1.o HG2.o Zl_,_,HO2.o,by rw [HTK.o];exact HSUM.o.step _ HZ.o _⟩
    . simp [intOf];omega
  . have he:k=Os.length:=by omega
    subst he;have HT:Hd (Os.take Os.length=Os):=List.take_length;have HO:=Zab ho;clear ho;go_wp2;go_ret;exact⟨rfl,HB.o,D,HO.o,HT.o ▸ HSUM.o⟩
end
section
open Go.RowKit Go.Deep
theorem ZiU {a b c:Zy_} (h:ZcM a b < 0) (h':ZcM b c < 0):ZcM a c < 0:=ZjE.2 (Zov (ZjE.1 h) (ZjE.1 h'))
theorem Ztl {a b:Int}:orI a b < 0↔a < 0\/(a=0/\b < 0):=by unfold orI;split <;> omega
theorem ZrK {a b c d:Zy_}:Zfs a b c d < 0↔ZcM a c < 0\/(a=c/\ZcM b d < 0):=by
 unfold Zfs;rw [Ztl,ZeM]
theorem ZhF {a b c d:Zy_}:Zfs a b c d=0↔a=c/\b=d:=by
 unfold Zfs;rw [Zr9,ZeM,ZeM]
theorem ZiT {a b c d e f:Zy_} (h:Zfs a b c d < 0) (h':Zfs c d e f < 0):Zfs a b e f < 0:=by
 rw [ZrK] at*
 rcases h with h | ⟨rfl,h⟩
 . rcases h' with h' | ⟨rfl,h'⟩
   . exact Or.inl (ZiU h h')
   . exact Or.inl h
 . rcases h' with h' | ⟨rfl,h'⟩
   . exact Or.inl h'
   . exact Or.inr ⟨rfl,ZiU h h'⟩
theorem ZiR (x y z:Le) (h:Zdt x y < 0) (h':Zdt y z < 0):Zdt x z < 0:=ZiT h h'
theorem Zng {X:Type}{c:X->X->Int}{L:List X} (h:ZdN c L=true) {j:Nat} (hj:j+1 < L.length):c L[j] L[j+1] < 0:=by
 have:=Zhr hj h;rw [Zek hj] at this;exact of_decide_eq_true this
theorem Zsz {X:Type}{c:X->X->Int}{L:List X} (tr:∀ x y z,c x y < 0->c y z < 0->c x z < 0) (h:ZdN c L=true) (i:Nat):∀ (d:Nat) (hj:i+d+1 < L.length),c (L[i]'(by omega)) L[i+d+1] < 0
 | 0,hj=>Zng h hj
 | d+1,hj=>tr _ _ _ (Zsz tr h i d (by omega)) (Zng (j:=i+d+1) h hj)
theorem Zkb {X:Type}{c:X->X->Int}{L:List X} (tr:∀ x y z,c x y < 0->c y z < 0->c x z < 0) (h:ZdN c L=true) {i j:Nat} (hi:i < L.length) (hj:j < L.length) (hij:i < j):c L[i] L[j] < 0:=by
 obtain⟨d,rfl⟩:∃ d,j=i+d+1:=⟨j - i - 1,by omega⟩
 exact Zsz tr h i d hj
theorem ZqQ {X:Type}{c:X->X->Int}{L:List X} (tr:∀ x y z,c x y < 0->c y z < 0->c x z < 0) (h:ZdN c L=true) (t:X):ZtH c L t:=
 fun _ _ hi hj hij h'=>tr _ _ _ (Zkb tr h hi hj hij) h'
theorem Zsh {X:Type}{c:X->X->Int}{L:List X}{t:X}{p:Nat} (tr:∀ x y z,c x y < 0->c y z < 0->c x z < 0) (sub:∀ x y,c x y < 0->c y t=0->c x t < 0) (h:ZdN c L=true) (hp:Zub c L t p) :
 Zsv c L t p=L.any fun x=>decide (c x t=0):=by
 unfold Zsv
 cases hx:L[p]? with
 | some x=>
  obtain⟨hl,rfl⟩:=List.getElem?_eq_some_iff.1 hx
  show decide (c L[p] t=0)=_
  by_cases h0:c L[p] t=0
  . rw [decide_eq_true h0]
    exact (List.any_eq_true.2 ⟨L[p],List.getElem_mem hl,decide_eq_true h0⟩).symm
  . rw [decide_eq_false h0]
    refine (List.any_eq_false.2 fun y hy hc=>?_).symm;obtain⟨i,hi,rfl⟩:=List.getElem_of_mem hy;have hc':=of_decide_eq_true hc
    by_cases e:i < p
    . have:=hp.less i hi e
      omega
    . by_cases e2:i=p
      . subst e2;exact h0 hc'
      . have h1:=sub _ _ (Zkb tr h hl hi (by omega)) hc'
        have h2:=hp.more p hl Zl_
        omega
 | none=>
  have hl:L.length<=p:=List.getElem?_eq_none_iff.1 hx;refine (List.any_eq_false.2 fun y hy hc=>?_).symm;obtain⟨i,hi,rfl⟩:=List.getElem_of_mem hy;have:=hp.less i hi (by omega);have:=of_decide_eq_true hc
  omega
theorem Zs7 (Ls:List Le) (t r:Zy_):(Ls.any fun x=>decide (Zdt x ⟨t,r,0,0⟩=0))=Ls.any (ZdK t r):=by
 congr 1
 funext x
 unfold ZdK Zdt;rw [Bool.eq_iff_iff,Bool.and_eq_true,Zaz,Zaz,decide_eq_true_iff,ZhF]
theorem Zh0 (lo:Nat) (v:Value) (Ls:List Le) (t r:Zy_) (w:World) (hv:ZbJ lo w v Ls) (hn:Ls.length<=1048576) (hr:ZdN Zdt Ls=true) :
 Calls prog 222 #[v,.string t,.string r] w
  fun e w'=>(∃ p:Nat,Zub Zdt Ls ⟨t,r,0,0⟩ p/\e=.returned (.tuple #[.int .i64 p,.bool (Ls.any (ZdK t r))]))/\Zw_ w w':=by
 have HV:=Zab hv;have HR:=Zab hr;obtain⟨a,cap,rfl⟩:=hv.form;clear hv hr;go_enter func222,ntmps222;go_wp2_with fail;refine (Zke lo _ Ls ⟨t,r,0,0⟩ _ HV.o hn (ZqQ ZiR HR.o _)).mono ?_;rintro e w1 ⟨⟨p,hp,rfl⟩,hb⟩;have HP:=Zab hp;have HB:=Zab hb
 have HE:Hd (Zsv Zdt Ls ⟨t,r,0,0⟩ p=Ls.any (ZdK t r)):=(Zsh ZiR (fun x y h h0=>by
  obtain⟨e1,e2⟩:=ZhF.1 h0;unfold Zdt at h |-;simp only at e1 e2 |-;rw [<- e1,<- e2];exact h) HR.o hp).trans (Zs7 Ls t r)
 clear hp hb;go_wp2
 go_ret2
 exact⟨⟨p,HP.o,by rw [HE.o];rfl⟩,HB.o⟩
end
open Go.RowKit Go.Deep
section
variable (nm tt df we:Zy_) (kd le mo ro:Int) (mu fx:Bool) (wv:Value) (w:World)
theorem ZpN (s:Zy_) (B:Nat) (hB:B < w.heap.size) (hs:w.cell? ⟨B,0,none⟩=some (.string s)) :
 Calls prog 295 #[.agg #[.string nm,.int .i64 kd,.int .i64 le,.int .i64 mo,wv,.string tt,.int .i64 ro,.bool mu,.bool fx,.string df,.string we],.pointer (some ⟨B,0,none⟩)] w
  fun e w'=>e=.returned (.bool (nm.toList == s.toList))/\Zw_ w w':=by
 go_enter func295,ntmps295;go_wp2;go_ret;exact⟨rfl,Zb_.alloc Zl_ _⟩
end
theorem Ziz (lo:Nat) (v:Value) (Fs:List Fd) (s:Zy_) (B:Nat) (w:World) (hv:Zau lo w v Fs) (hB:B < w.heap.size) (hs:w.cell? ⟨B,0,none⟩=some (.string s)) :
 Calls prog 294 #[v,.func (.func 295) #[] #[.pointer (some ⟨B,0,none⟩)]] w fun e w'=>e=.returned (.int .i64 (Zcc Fs s))/\Zw_ w w':=by
 by_cases hL:Fs=[]
 . subst hL
   obtain⟨a,cap,rfl⟩:=Zdz hv;clear hv;go_enter func294,ntmps294;go_wp2
   go_loop [8] (fun i=>i=.int .i64 0) (fun _=>0)
   case atStart=>rfl
   case round=>
    subst hrel;go_wp2;go_ret;exact⟨rfl,Below.refl _ _⟩
 . obtain⟨b,off,cap,rfl,hm,hbw,_,hc⟩:=hv.full hL
   clear hv;unfold maxLen at hm;go_enter func294,ntmps294;go_wp2
   go_loopw [8] (fun i wr=>∃ k:Nat,i=.int .i64 k/\k<=Fs.length/\Zw_ w wr/\∀ j (hj:j < Fs.length),j < k->(Fs[j].nm.toList == s.toList)=false) (fun i _=>Fs.length - (intOf i).toNat)
   case atStart=>exact⟨0,rfl,by omega,Below.refl _ _,fun j _ h=>by omega⟩
   case round=>
    obtain⟨k,rfl,hk,hb,hall⟩:=hrel;have HA:=Zab hall;have HB:=Zab hb;clear hall hb
    by_cases hlt:k < Fs.length
    . obtain⟨_,wv,hcell,_⟩:=hc k hlt
      obtain⟨c0,c1,c2,c3,c4,c5,c6,c7,c8,c9,c10⟩:=hcell.below HB.o hbw;clear hcell;go_wp2_with fail;refine (ZpN _ _ _ _ _ _ _ _ _ _ _ _ s B (Zk_ hB HB.o.size) (by rw [HB.o.cell (p:=⟨B,0,none⟩) hB];exact hs)).mono ?_;rintro e w1 ⟨rfl,hb1⟩;have HB1:Hd (Zw_ w w1):=HB.o.trans (hb1.mono HB.o.size);clear hb1 c0 c1 c2 c3 c4 c5 c6 c7 c8 c9 c10
      cases he:(Fs[k].nm.toList == s.toList) with
      | true=>
       go_wp2;go_ret;exact⟨by rw [Zjd hlt he HA.o];rfl,HB1.o⟩
      | false=>
       go_wp2;go_roundw
       case rel=>exact⟨k+1,by go_num,by omega,HB1.o,fun j hj h=>by
                  by_cases e:j=k
                  . subst e;exact he
                  . exact HA.o j hj (by omega)⟩
       . simp [intOf];omega
    . go_wp2
      go_ret;exact⟨by rw [Zlg fun j hj=>HA.o j hj (by omega)];rfl,HB.o⟩
theorem ZfI (lo:Nat) (kind:Zy_) (v:Value) (Fs:List Fd) (s:Zy_) (w:World) (hv:Zau lo w v Fs) :
 Calls prog 283 #[.agg #[.string kind,v],.string s] w fun e w'=>e=.returned (.int .i64 (Zcc Fs s))/\Zw_ w w':=by
 have HV:=Zab hv;obtain⟨a,cap,rfl⟩:=hv.form;clear hv;have HW:∀ o o',Hd (Zw_ w ((w.alloc o).alloc o')):=fun o o'=>(Zb_.alloc Zl_ _).alloc (by simp) _
 go_enter func283,ntmps283;go_wp2_with fail;refine (Ziz lo _ Fs s _ _ (HV.o.below (HW _ _).o) (by simp) (by simp)).mono ?_;rintro e w1 ⟨rfl,hb⟩;have HB:Hd (Zw_ w w1):=(HW _ _).o.trans (hb.mono (by simp;omega));clear hb;go_wp2;go_ret;exact⟨rfl,HB.o⟩
def ZpB (lo:Nat) (Fs:List Fd) (s:Zy_) (e:Ending) (w:World):Prop:=
 (∃ (f:Fd) (wv:Value),Fs[ZaP Fs s]?=some f/\Zbj Fs s=true/\e=.returned (.tuple #[.agg #[.string f.nm,.int .i64 f.kd,.int .i64 f.le,.int .i64 f.mo,wv,.string f.to,.int .i64 f.ro,.bool f.mu,.bool f.fx,.string f.df,.string f.we],.bool true])/\Zaq lo w wv f.words)\/
 (Zbj Fs s=false/\e=.returned (.tuple #[.agg #[.string ⟨#[]⟩,.int .i64 0,.int .i64 0,.int .i64 0,.slice none 0 0,.string ⟨#[]⟩,.int .i64 0,.bool false,.bool false,.string ⟨#[]⟩,.string ⟨#[]⟩],.bool false]))
theorem Zg8 (lo:Nat) (kind:Zy_) (v:Value) (Fs:List Fd) (s:Zy_) (w0 w:World) (hv:Zau lo w0 v Fs) (h0:Below w0.heap.size w0 w) :
 Calls prog 264 #[.agg #[.string kind,v],.string s] w fun e w'=>Zw_ w w'/\ZpB lo Fs s e w0:=by
 have HV:=Zab hv;have H0:=Zab h0;obtain⟨a,cap,rfl⟩:=hv.form;clear hv h0;go_enter func264,ntmps264;go_wp2_with fail;generalize hWa:w.alloc _=Wa;have hza:Wa.heap.size=w.heap.size+1:=by rw [<- hWa];simp
 have HBa:Hd (Zw_ w Wa):=by rw [<- hWa];exact Zac _ _
 have FS:Hd (Box Wa w.heap.size #[.string kind,.slice a Fs.length cap]):=by rw [<- hWa];exact Box.new _ _ _ _ rfl
 clear hWa;generalize hWb:Wa.alloc _=Wb;have hbb:Below Wa.heap.size Wa Wb:=by rw [<- hWb];exact Zac _ _
 have HBb:Hd (Zw_ w Wb):=HBa.o.trans (hbb.mono (by omega));have FS:=Zab (FS.o.on hbb);have FR:Hd (Box Wb (w.heap.size+1) #[.string ⟨#[]⟩,.int .i64 0,.int .i64 0,.int .i64 0,.slice none 0 0,.string ⟨#[]⟩,.int .i64 0,.bool false,.bool false,.string ⟨#[]⟩,.string ⟨#[]⟩]):=by rw [<- hWb];exact Box.new _ _ _ _ hza
 clear hWb hbb HBa hza;refine (ZfI lo _ _ Fs s _ (HV.o.below (H0.o.trans (HBb.o.mono H0.o.size)))).mono ?_;rintro e w1 ⟨rfl,hb1⟩;have FS:=Zab (FS.o.on hb1);have FR:=Zab (FR.o.on hb1);have HB1:Hd (Zw_ w w1):=HBb.o.trans (hb1.mono HBb.o.size);clear hb1 HBb;have g1:=FS.o.cell;have gl:=FS.o.lt;have r:=FR.o.cell;have rf:=FR.o.free;have rl:=FR.o.lt;have r0:w1.cell? ⟨w.heap.size+1,0,none⟩=some (.string ⟨#[]⟩):=r 0;have r1:w1.cell? ⟨w.heap.size+1,1,none⟩=some (.int .i64 0):=r 1;have r2:w1.cell? ⟨w.heap.size+1,2,none⟩=some (.int .i64 0):=r 2;have r3:w1.cell? ⟨w.heap.size+1,3,none⟩=some (.int .i64 0):=r 3;have r4:w1.cell? ⟨w.heap.size+1,4,none⟩=some (.slice none 0 0):=r 4;have r5:w1.cell? ⟨w.heap.size+1,5,none⟩=some (.string ⟨#[]⟩):=r 5;have r6:w1.cell? ⟨w.heap.size+1,6,none⟩=some (.int .i64 0):=r 6
 have r7:w1.cell? ⟨w.heap.size+1,7,none⟩=some (.bool false):=r 7;have r8:w1.cell? ⟨w.heap.size+1,8,none⟩=some (.bool false):=r 8;have r9:w1.cell? ⟨w.heap.size+1,9,none⟩=some (.string ⟨#[]⟩):=r 9;have r10:w1.cell? ⟨w.heap.size+1,10,none⟩=some (.string ⟨#[]⟩):=r 10
 have HST:∀ (u0 u1 u2 u3 u4 u5 u6 u7 u8 u9 u10:Value),Hd (Zw_ w (((((((((((w1.setCell ⟨w.heap.size+1,0,none⟩ u0).setCell ⟨w.heap.size+1,1,none⟩ u1).setCell ⟨w.heap.size+1,2,none⟩ u2).setCell ⟨w.heap.size+1,3,none⟩ u3).setCell ⟨w.heap.size+1,4,none⟩ u4).setCell ⟨w.heap.size+1,5,none⟩ u5).setCell ⟨w.heap.size+1,6,none⟩ u6).setCell ⟨w.heap.size+1,7,none⟩ u7).setCell ⟨w.heap.size+1,8,none⟩ u8).setCell ⟨w.heap.size+1,9,none⟩ u9).setCell ⟨w.heap.size+1,10,none⟩ u10)):=fun u0 u1 u2 u3 u4 u5 u6 u7 u8 u9 u10=>by
  have q:∀ (i:Nat),w.heap.size<=(⟨w.heap.size+1,i,none⟩:Addr).block:=fun i=>Nat.le_succ _
  exact (((((((((((HB1.o.setCell (q 0) _).setCell (q 1) _).setCell (q 2) _).setCell (q 3) _).setCell (q 4) _).setCell (q 5) _).setCell (q 6) _).setCell (q 7) _).setCell (q 8) _).setCell (q 9) _).setCell (q 10) _)
 clear r
 by_cases hp:ZaP Fs s < Fs.length
 . rw [ZbO hp]
   obtain⟨b,off,rfl,hbw0,hc⟩:=HV.o.full' (by omega);have hbw:b < w.heap.size:=Zk_ hbw0 H0.o.size
   obtain⟨_,wv,hcell,hwd⟩:=hc _ hp;have HWD:=Zab hwd;obtain⟨wa,wn,wcap,rfl⟩:=hwd.form;obtain⟨c0,c1,c2,c3,c4,c5,c6,c7,c8,c9,c10⟩:=hcell.below (H0.o.trans (HB1.o.mono H0.o.size)) hbw0;have HQ:Hd (Zbj Fs s=!(Fs[ZaP Fs s].kd == 4)):=Zm8 hp;have HFF:Hd (Fs[ZaP Fs s]?=some Fs[ZaP Fs s]):=List.getElem?_eq_getElem hp
   have hpm:(Fs.length:Int)<=9223372036854775807:=by
    rcases HV.o with ⟨_,_,h,_⟩ | ⟨_,_,_,_,_,h,_⟩
    . injection h;omega
    . unfold maxLen at h;omega
   clear hc hwd hcell;generalize hpp:ZaP Fs s=p at*
   cases hk:(Fs[p].kd == 4) with
   | true=>
    have HN:Hd (Zbj Fs s=false):=by unfold Hd;rw [HQ.o,hk];rfl
    have e4:Fs[p].kd=4:=by simpa using hk
    rw [e4] at c1;clear hk;go_wp2;refine bodyPost_ret (v:=.tuple #[.agg #[.string ⟨#[]⟩,.int .i64 0,.int .i64 0,.int .i64 0,.slice none 0 0,.string ⟨#[]⟩,.int .i64 0,.bool false,.bool false,.string ⟨#[]⟩,.string ⟨#[]⟩],.bool false]) (by simp [results,results264,go_sem,r0,r1,r2,r3,r4,r5,r6,r7,r8,r9,r10]) rfl ⟨?_,Or.inr ⟨HN.o,rfl⟩⟩;exact (HST _ _ _ _ _ _ _ _ _ _ _).o
   | false=>
    have HN:Hd (Zbj Fs s=true):=by unfold Hd;rw [HQ.o,hk];rfl
    have e4:¬ Fs[p].kd=4:=by simpa using hk
    go_wp2;refine bodyPost_ret (v:=.tuple #[.agg #[.string Fs[p].nm,.int .i64 Fs[p].kd,.int .i64 Fs[p].le,.int .i64 Fs[p].mo,(.slice wa wn wcap),.string Fs[p].to,.int .i64 Fs[p].ro,.bool Fs[p].mu,.bool Fs[p].fx,.string Fs[p].df,.string Fs[p].we],.bool true]) (by simp [results,results264,go_sem,r0,r1,r2,r3,r4,r5,r6,r7,r8,r9,r10]) rfl ⟨?_,Or.inl ⟨Fs[p],_,by rw [hpp];exact HFF.o,HN.o,rfl,HWD.o⟩⟩;exact (HST _ _ _ _ _ _ _ _ _ _ _).o
 . rw [Zlf hp]
   have HN:Hd (Zbj Fs s=false):=Zm9 hp;go_wp2;refine bodyPost_ret (v:=.tuple #[.agg #[.string ⟨#[]⟩,.int .i64 0,.int .i64 0,.int .i64 0,.slice none 0 0,.string ⟨#[]⟩,.int .i64 0,.bool false,.bool false,.string ⟨#[]⟩,.string ⟨#[]⟩],.bool false]) (by simp [results,results264,go_sem,r0,r1,r2,r3,r4,r5,r6,r7,r8,r9,r10]) rfl ⟨?_,Or.inr ⟨HN.o,rfl⟩⟩;exact (HST _ _ _ _ _ _ _ _ _ _ _).o
end Go.Proofs.YtmappejlmapboaaGreat
