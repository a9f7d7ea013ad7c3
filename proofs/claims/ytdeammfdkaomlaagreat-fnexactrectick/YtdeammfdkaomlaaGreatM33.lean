import Derived.Test.YtdeammfdkaomlaaGreatM23
import Derived.Test.YtdeammfdkaomlaaGreatM29
set_option maxHeartbeats 16000000
set_option maxRecDepth 100000
open Go.Proofs.Tryz
namespace Go.Proofs.YtdeammfdkaomlaaGreat
open Go.RowKit Go.Deep
variable {n lo c m:Nat} {w:World} {ao:Option Addr} {A:List Int}
def ZdK (L:List Int) (n:Int):Nat:=(L.takeWhile (fun x=>decide (x < n))).length
def ZbD (L:List Int) (n:Int):List Int:=if L[ZdK L n]?=some n then L else L.take (ZdK L n) ++ [n] ++ L.drop (ZdK L n)
theorem Zif (L:List Int) (n:Int):ZdK L n<=L.length:=by
 unfold ZdK
 induction L with
 | nil=>simp
 | cons x r ih=>rw [List.takeWhile_cons];split <;> simp <;> omega
theorem Zgb {L:List Int}{n:Int}{k:Nat} (hk:k<=L.length) (hlt:∀ j (hj:j < L.length),j < k->L[j] < n) (hge:∀ (h:k < L.length),¬ L[k] < n):ZdK L n=k:=by
 unfold ZdK
 induction L generalizing k with
 | nil=>simp at hk;simp [hk]
 | cons x r ih=>
  cases k with
  | zero=>
   have:=hge (by simp);rw [List.takeWhile_cons];simp at this;rw [if_neg (by simpa using this)]
   rfl
  | succ k=>
   have h0:=hlt 0 (by simp) (by omega);rw [List.takeWhile_cons,if_pos (by simpa using h0),List.length_cons,ih (k:=k) (by simpa using hk) (fun j hj hjk=>by have:=hlt (j+1) (by simpa using hj) (by omega);simpa using this) (fun h=>by have:=hge (by simpa using h);simpa using this)]
def Zg4 (ao:Option Addr) (c m:Nat):Option Addr:=if c=m then ao else ao.map (·.add (m*1))
theorem ZaR.from (h:ZaR lo w (.slice ao n c) A) (hn:n=A.length) (hm:m<=A.length):∀ ad,Zg4 ao c m=some ad->∀ j u,(Zai inL (A.drop m))[j]?=some u->w.cell? (ad.add j)=some u:=by
 subst hn;intro ad hc j u hu;have hj:=(List.getElem?_eq_some_iff.1 hu).1;rw [Zaw ZaE,List.length_drop] at hj;have h0:0 < A.length:=by omega
 have hcap:A.length<=c:=by
  rcases h with ⟨_,_,_,e⟩ | ⟨_,_,_,h1,_,_,_,_,h6,_⟩
  . rw [e] at h0;simp at h0
  . injection h1 with e1 e2 e3
    omega
 obtain⟨b,off,rfl,-,-,-⟩:=h.full' h0;unfold Zg4 at hc;rw [if_neg (by omega)] at hc;simp only [Option.map_some,Option.some.injEq] at hc;subst hc;have hu':=Zdq ZaE hm hu;have:=h.src _ rfl _ _ hu';rw [Addr.add_lit] at this |-;rw [Addr.add_lit];simp only [Nat.add_assoc] at this |-;exact this
theorem ZaR.cutN (h:ZaR lo w (.slice ao n c) A) (hn:n=A.length):Zg4 ao c m=none->n - m=0:=by
 intro hc
 have:ao=none:=by
  unfold Zg4 at hc
  split at hc
  . exact hc
  . cases ao with
    | none=>rfl
    | some x=>simp at hc
 have:=h.nilN this
 omega
theorem ZaR.takeS (h:ZaR lo w (.slice ao n c) A) (m:Nat):∀ ad,ao=some ad->∀ j u,(Zai inL (A.take m))[j]?=some u->w.cell? (ad.add j)=some u:=by
 intro ad e j u hu;refine h.src ad e j u ?_;have:Zai inL A=Zai inL (A.take m) ++ Zai inL (A.drop m):=by rw [<- Zbg,List.take_append_drop]
 rw [this];have hj:=(List.getElem?_eq_some_iff.1 hu).1;rw [List.getElem?_append_left hj];exact hu
theorem ZdP {ops:Array Oper}{C:World->Prop}{o:Oper}{a:Act} (hgd:o.guard=none) (x y:Operand) (ho:o.op=.slice 51 x (some y) none none)
 (ao:Option Addr) (n c m:Nat) (hx:a.eval x=.slice ao n c) (hy:a.eval y=.int .i64 m) (hm:m<=n):YieldsIf prog ops C o (.slice (Zg4 ao c m) (n - m) (c - m)) a:=by
 refine Or.inl ⟨by simp [Region.wanted,hgd],fun w _=>?_⟩;have hr:=run_slice_l (P:=prog) w 51 ao n c underlying51 .i64 m (by omega) (by omega);have hs:=run_sliceAt_slice (P:=prog) w 51 (.slice ao n c) (some (.int .i64 m)) none none underlying51;obtain⟨i0,hi,hz0,hz1,hz2⟩:=info_parts Zbe;have hsz:(sizeOf 3).run prog w=.ok 1 w:=by simp [sizeOf,typeInfo,hi,hz1]
 unfold execOp;simp only [ho,Option.map_some,Option.map_none,hx,hy,Sem.run_bind,Sem.run_pure,Result.andThen_ok,hs,hr,show prog.elem 51=3 from rfl,hsz,sliced,Int.toNat_natCast]
 rfl
theorem ZdT (lo:Nat) (v:Value) (L:List Int) (n:Int) (w:World) (hv:ZaR lo w v L) (hL:L.length<=1000000) :
 Calls prog 128 #[v,.int .i64 n] w fun e w'=>∃ v',e=.returned v'/\Zw_ w w'/\((v'=v/\ZbD L n=L)\/ZaH inL 1 w' w.heap.size w'.heap.size v' (ZbD L n)):=by
 have HV:=Zaa hv;obtain⟨a,cap,rfl⟩:=hv.form
 have hcap:L.length<=cap:=by
  rcases hv with ⟨_,_,h1,h2⟩ | ⟨_,_,_,h1,_,_,_,_,h6,_⟩
  . rw [h2];simp
  . injection h1 with e1 e2 e3
    omega
 clear hv;go_enter func128,ntmps128;go_wp2
 go_loop [5] (fun i=>∃ k:Nat,i=.int .i64 k/\k<=L.length/\∀ j (hj:j < L.length),j < k->L[j] < n) (fun i=>L.length - (intOf i).toNat)
 case atStart=>exact⟨0,rfl,by omega,fun j _ h=>by omega⟩
 case round=>
  obtain⟨k,rfl,hk,hall⟩:=hrel;have HAL:=Zaa hall;clear hall
  by_cases hlt:k < L.length
  . obtain⟨b,off,rfl,hbw,-,hc⟩:=HV.o.full' (by omega)
    obtain⟨y,hy⟩:∃ y,y=L[k]:=⟨_,rfl⟩
    have e0:w.cell? ⟨b,off+k,none⟩=some (.int .i64 y):=by rw [hy];exact (hc k hlt).2
    have HY:=Zaa hy;have i0:(0:Int)<=(k:Int):=by omega
    have i1:(k:Int) < (L.length:Int):=by omega
    clear hc hy
    cases q:decide (y < n) with
    | true=>
     have HQ:=Zaa (of_decide_eq_true q);go_wp2
     go_round
     case rel=>exact⟨k+1,by go_num,by omega,fun j hj hjk=>by
                by_cases e:j=k
                . subst e;rw [<- HY.o];exact HQ.o
                . exact HAL.o j hj (by omega)⟩
     . simp [intOf];omega
    | false=>
     have hp:ZdK L n=k:=Zgb (by omega) HAL.o (fun h=>by rw [<- HY.o];exact of_decide_eq_false q);have HP:=Zaa hp;have HLk:Hd (L[k]?=some y):=by unfold Hd;rw [HY.o];exact List.getElem?_eq_getElem hlt
     clear hp
     cases q2:(y == n) with
     | true=>
      have HE:Hd (ZbD L n=L):=by unfold Hd ZbD;rw [HP.o,HLk.o,eq_of_beq q2,if_pos rfl]
      go_wp2;go_ret;exact⟨_,rfl,Below.refl _ _,Or.inl ⟨rfl,HE.o⟩⟩
     | false=>
      have HE:Hd (ZbD L n=L.take k ++ [n] ++ L.drop k):=by unfold Hd ZbD;rw [HP.o,HLk.o,if_neg (fun e=>by injection e with e;rw [e] at q2;simp at q2)]
      go_upto_region 6 with fail
      clear e0 q q2;have hkc:k<=cap:=by omega
      refine Code.wp_mono NoPanic.imp ?_;refine Zan (S:=fun _=>True) [12] (by kernel_rfl) trivial (fun hHeld=>?_);refine tB 1 (.slice (some ⟨b,off,none⟩) L.length cap) [3,4,7,11,12] rfl hHeld ?_
      try simp only [Act.put,sLs]
      refine tB 2 (.int .i64 (k:Int)) [3,4,7,11,12] rfl hHeld ?_
      try simp only [Act.put,sLs]
      refine tB 3 (.slice (some ⟨b,off,none⟩) k cap) [4,7,11,12] rfl hHeld ?_
      try simp only [Act.put,sLs]
      refine tB 5 (.int .i64 n) [6,7,11,12] rfl hHeld ?_
      try simp only [Act.put,sLs]
      refine tB 8 (.slice (some ⟨b,off,none⟩) L.length cap) [10,11,12] rfl hHeld ?_
      try simp only [Act.put,sLs]
      refine tB 9 (.int .i64 (k:Int)) [10,11,12] rfl hHeld ?_
      try simp only [Act.put,sLs]
      refine tB 10 (.slice (Zg4 (some ⟨b,off,none⟩) cap k) (L.length - k) (cap - k)) [11,12] rfl hHeld ?_ (hy:=ZdP (by rfl) (.tmp 41) (.tmp 42) rfl _ L.length cap k rfl rfl (by omega))
      try simp only [Act.put,sLs]
      have HBW:Hd (Zw_ w w):=Below.refl _ _;refine ZbG (i:=0) (i':=6) (by kernel_rfl) rfl rfl (fun K hK=>?_) (fun K hK=>?_)
      . skip
        go_simp
        obtain⟨y1,hy⟩:∃ y,y=(w.alloc (.cells #[] 3)).drew:=⟨_,rfl⟩
        have hb:Zw_ w y1:=by rw [hy];exact (Zab _ _).drew
        have hf:FR inL 1 y1 w.heap.size (w.heap.size+1) w.heap.size 0 []:=by rw [hy];exact (Zbb inL 1 w #[] 3 0 rfl Zz_).below (Zb_.drew)
        have hzy1:w.heap.size < y1.heap.size:=hf.lt
        rw [<- hy];clear hy;replace HBW:Hd (Zw_ w y1):=bt HBW.o hb;have HN:Hd (NRS inL 1 y1 (fun k=>k=w.heap.size) (.slice (some ⟨w.heap.size,0,none⟩) 0 0) []):=Or.inr ⟨_,rfl,_,0,rfl,hf⟩;have HSS:Hd (∀ k,(fun k=>k=w.heap.size) k->w.heap.size<=k/\k < y1.heap.size):=fun k hk=>by dsimp only at hk;subst hk;exact⟨by omega,hzy1⟩
        clear hf hb;refine hK.out _ _ (fun _=>trivial) (fun _=>?_);clear hK K
        try simp only [Act.put,sLs]
        refine ZbG (i:=4) (i':=6) (by kernel_rfl) rfl rfl (fun K hK=>?_) (fun K hK=>?_)
        . skip
          obtain⟨v4,y2,hrun,ht,hrow⟩:=ZaK ZaE (by decide) underlying51 Zbe rfl (L:=[]) (M:=L.take k) 51 HN.o ((some ⟨b,off,none⟩)) k cap (by simp;omega) (fun e=>by have:=(HV.o.nilN e);omega) ((HV.o.below HBW.o).takeS k) (ZaO _) (by simp;omega) (by decide);refine Zae rfl (.tmp 33) (.tmp 36) 51 rfl rfl rfl hrun ?_;have hzy2:=ht.size;have HBX:=Zaa (bwT HBW.o ht fun k h=>(HSS.o k h).1);replace HSS:=Zaa (bwR HBW.o ht HSS.o);replace HBW:=HBX;replace HN:=Zaa hrow;clear HBX hrow ht hrun;refine hK.out _ _ (fun _=>trivial) (fun _=>?_);clear hK K
          try simp only [Act.put,sLs]
          refine oB 6 rfl (fun K hK=>?_)
          go_simp
          obtain⟨y3,hy⟩:∃ y,y=y2.alloc (.cells #[.int .i64 n] 3):=⟨_,rfl⟩
          have hb:Below y2.heap.size y2 y3:=by rw [hy];exact Zab _ _
          obtain⟨p6,hp6⟩:∃ p,p=y2.heap.size:=⟨_,rfl⟩
          have B6:Hd (Box y3 p6 #[.int .i64 n]):=by unfold Hd;rw [hp6,hy];exact Box.new _ _ _ _ rfl
          have hzy3:y2.heap.size < y3.heap.size:=by have:=B6.o.lt;omega
          rw [<- hy];rw [<- hp6];have h6n:p6 < y3.heap.size:=B6.o.lt
          replace HN:=Zaa (HN.o.kept (Zag.below hb (fun _ h=>h)) (fun k hk=>(HSS.o k hk).2));have HSS2:Hd (∀ k,(Gr (fun k=>k=w.heap.size) y1 y2) k->w.heap.size<=k/\k < y3.heap.size/\k≠p6):=fun k hk=>by have:=HSS.o k hk;omega
          clear HSS;have HSS:=HSS2;clear HSS2;clear hy hp6;replace HBW:Hd (Zw_ w y3):=bt HBW.o hb;clear hb;refine hK.out _ _ (fun _=>trivial) (fun _=>?_);clear hK K
          try simp only [Act.put,sLs]
          refine oB 7 rfl (fun K hK=>?_);have B6old:p6 < y3.heap.size:=B6.o.lt
          obtain⟨v7,y4,hrun,ht,hrow⟩:=ZaK ZaE (by decide) underlying51 Zbe rfl (L:=([] ++ L.take k)) (M:=[n]) 51 HN.o (some ⟨p6,0,none⟩) 1 1 rfl (fun e=>by cases e) (fun ad e j u hu=>by injection e with e;subst e;rw [Addr.add_lit,Nat.zero_add,B6.o.cell j];simpa [Zai,inL] using hu) (ZaO _) (by simp;omega) (by decide);refine Zae rfl (.tmp 37) (.tmp 39) 51 rfl rfl rfl hrun ?_;have hzy4:=ht.size;replace B6:=Zaa (b6T B6.o ht HSS.o);have HBX:=Zaa (bwT HBW.o ht fun k h=>(HSS.o k h).1);replace HSS:=Zaa (bwS HBW.o ht HSS.o B6old);replace HBW:=HBX;replace HN:=Zaa hrow;clear HBX hrow ht hrun B6old;refine hK.out _ _ (fun _=>trivial) (fun _=>?_);clear hK K
          try simp only [Act.put,sLs]
          refine oB 11 rfl (fun K hK=>?_);have B6old:p6 < y4.heap.size:=B6.o.lt
          obtain⟨v11,y5,hrun,ht,hrow⟩:=ZaK ZaE (by decide) underlying51 Zbe rfl (L:=([] ++ L.take k ++ [n])) (M:=L.drop k) 51 HN.o (Zg4 ((some ⟨b,off,none⟩)) cap k) (L.length - k) (cap - k) (by simp) (fun e=>HV.o.cutN rfl e) ((HV.o.below HBW.o).from rfl (by omega)) (ZaO _) (by simp;omega) (by decide);refine Zae rfl (.tmp 40) (.tmp 43) 51 rfl rfl rfl hrun ?_;have hzy5:=ht.size;replace B6:=Zaa (b6T B6.o ht HSS.o);have HBX:=Zaa (bwT HBW.o ht fun k h=>(HSS.o k h).1);replace HSS:=Zaa (bwS HBW.o ht HSS.o B6old);replace HBW:=HBX;replace HN:=Zaa hrow;clear HBX hrow ht hrun B6old;refine hK.out _ _ (fun _=>trivial) (fun _=>?_);clear hK K
          try simp only [Act.put,sLs]
          refine oB 12 rfl (fun K hK=>?_)
          go_simp
          refine hK.out _ _ (fun h=>absurd (by decide) h) (fun _=>?_);clear hK K
          try simp only [Act.put,sLs]
          refine Zak (by kernel_rfl) ?_ _;refine NoPanic.normal ?_
          have HFin:Hd (ZaH inL 1 y5 w.heap.size y5.heap.size v11 (ZbD L n)):=by
           unfold Hd;rw [HE.o]
           rcases HN.o with ⟨_,h⟩ | ⟨g,hg,g',c',e1,e2⟩
           . simp at h
           . have:=HSS.o g hg
             have a1:=e2.bs;have a2:=e2.up;exact⟨g',c',e1,⟨by omega,e2.lt,e2.lt,e2.le,e2.mx,e2.th,e2.fz,e2.rg⟩⟩
          go_wp2;go_ret;exact⟨_,rfl,HBW.o,Or.inr HFin.o⟩
        . skip
          go_simp
          obtain⟨y2,hy⟩:∃ y,y=y1.alloc (.cells #[.int .i64 n] 3):=⟨_,rfl⟩
          have hb:Below y1.heap.size y1 y2:=by rw [hy];exact Zab _ _
          obtain⟨p6,hp6⟩:∃ p,p=y1.heap.size:=⟨_,rfl⟩
          have B6:Hd (Box y2 p6 #[.int .i64 n]):=by unfold Hd;rw [hp6,hy];exact Box.new _ _ _ _ rfl
          have hzy2:y1.heap.size < y2.heap.size:=by have:=B6.o.lt;omega
          rw [<- hy];rw [<- hp6];have h6n:p6 < y2.heap.size:=B6.o.lt
          replace HN:=Zaa (HN.o.kept (Zag.below hb (fun _ h=>h)) (fun k hk=>(HSS.o k hk).2));have HSS2:Hd (∀ k,(fun k=>k=w.heap.size) k->w.heap.size<=k/\k < y2.heap.size/\k≠p6):=fun k hk=>by have:=HSS.o k hk;omega
          clear HSS;have HSS:=HSS2;clear HSS2;clear hy hp6;replace HBW:Hd (Zw_ w y2):=bt HBW.o hb;clear hb;refine hK.out _ _ (fun _=>trivial) (fun _=>?_);clear hK K
          try simp only [Act.put,sLs]
          refine oB 4 rfl (fun K hK=>?_);have B6old:p6 < y2.heap.size:=B6.o.lt
          obtain⟨v4,y3,hrun,ht,hrow⟩:=ZaK ZaE (by decide) underlying51 Zbe rfl (L:=[]) (M:=L.take k) 51 HN.o ((some ⟨b,off,none⟩)) k cap (by simp;omega) (fun e=>by have:=(HV.o.nilN e);omega) ((HV.o.below HBW.o).takeS k) (ZaO _) (by simp;omega) (by decide);refine Zae rfl (.tmp 33) (.tmp 36) 51 rfl rfl rfl hrun ?_;have hzy3:=ht.size;replace B6:=Zaa (b6T B6.o ht HSS.o);have HBX:=Zaa (bwT HBW.o ht fun k h=>(HSS.o k h).1);replace HSS:=Zaa (bwS HBW.o ht HSS.o B6old);replace HBW:=HBX;replace HN:=Zaa hrow;clear HBX hrow ht hrun B6old;refine hK.out _ _ (fun _=>trivial) (fun _=>?_);clear hK K
          try simp only [Act.put,sLs]
          refine oB 7 rfl (fun K hK=>?_);have B6old:p6 < y3.heap.size:=B6.o.lt
          obtain⟨v7,y4,hrun,ht,hrow⟩:=ZaK ZaE (by decide) underlying51 Zbe rfl (L:=([] ++ L.take k)) (M:=[n]) 51 HN.o (some ⟨p6,0,none⟩) 1 1 rfl (fun e=>by cases e) (fun ad e j u hu=>by injection e with e;subst e;rw [Addr.add_lit,Nat.zero_add,B6.o.cell j];simpa [Zai,inL] using hu) (ZaO _) (by simp;omega) (by decide);refine Zae rfl (.tmp 37) (.tmp 39) 51 rfl rfl rfl hrun ?_;have hzy4:=ht.size;replace B6:=Zaa (b6T B6.o ht HSS.o);have HBX:=Zaa (bwT HBW.o ht fun k h=>(HSS.o k h).1);replace HSS:=Zaa (bwS HBW.o ht HSS.o B6old);replace HBW:=HBX;replace HN:=Zaa hrow;clear HBX hrow ht hrun B6old;refine hK.out _ _ (fun _=>trivial) (fun _=>?_);clear hK K
          try simp only [Act.put,sLs]
          refine oB 11 rfl (fun K hK=>?_);have B6old:p6 < y4.heap.size:=B6.o.lt
          obtain⟨v11,y5,hrun,ht,hrow⟩:=ZaK ZaE (by decide) underlying51 Zbe rfl (L:=([] ++ L.take k ++ [n])) (M:=L.drop k) 51 HN.o (Zg4 ((some ⟨b,off,none⟩)) cap k) (L.length - k) (cap - k) (by simp) (fun e=>HV.o.cutN rfl e) ((HV.o.below HBW.o).from rfl (by omega)) (ZaO _) (by simp;omega) (by decide);refine Zae rfl (.tmp 40) (.tmp 43) 51 rfl rfl rfl hrun ?_;have hzy5:=ht.size;replace B6:=Zaa (b6T B6.o ht HSS.o);have HBX:=Zaa (bwT HBW.o ht fun k h=>(HSS.o k h).1);replace HSS:=Zaa (bwS HBW.o ht HSS.o B6old);replace HBW:=HBX;replace HN:=Zaa hrow;clear HBX hrow ht hrun B6old;refine hK.out _ _ (fun _=>trivial) (fun _=>?_);clear hK K
          try simp only [Act.put,sLs]
          refine oB 12 rfl (fun K hK=>?_)
          go_simp
          refine hK.out _ _ (fun h=>absurd (by decide) h) (fun _=>?_);clear hK K
          try simp only [Act.put,sLs]
          refine Zak (by kernel_rfl) ?_ _;refine NoPanic.normal ?_
          have HFin:Hd (ZaH inL 1 y5 w.heap.size y5.heap.size v11 (ZbD L n)):=by
           unfold Hd;rw [HE.o]
           rcases HN.o with ⟨_,h⟩ | ⟨g,hg,g',c',e1,e2⟩
           . simp at h
           . have:=HSS.o g hg
             have a1:=e2.bs;have a2:=e2.up;exact⟨g',c',e1,⟨by omega,e2.lt,e2.lt,e2.le,e2.mx,e2.th,e2.fz,e2.rg⟩⟩
          go_wp2;go_ret;exact⟨_,rfl,HBW.o,Or.inr HFin.o⟩
      . skip
        go_simp
        obtain⟨y1,hy⟩:∃ y,y=(w.alloc (.cells #[.int .i64 n] 3)).drew:=⟨_,rfl⟩
        have hb:Zw_ w y1:=by rw [hy];exact (Zab _ _).drew
        obtain⟨p6,hp6⟩:∃ p,p=w.heap.size:=⟨_,rfl⟩
        have B6:Hd (Box y1 p6 #[.int .i64 n]):=by unfold Hd;rw [hp6,hy];exact (Box.new w _ _ _ rfl).drew
        have hzy1:w.heap.size < y1.heap.size:=by have:=B6.o.lt;omega
        rw [<- hy];rw [<- hp6];have h6n:p6 < y1.heap.size:=B6.o.lt
        clear hy hp6;replace HBW:Hd (Zw_ w y1):=bt HBW.o hb;clear hb;refine hK.out _ _ (fun _=>trivial) (fun _=>?_);clear hK K
        try simp only [Act.put,sLs]
        refine oB 0 rfl (fun K hK=>?_)
        go_simp
        obtain⟨y2,hy⟩:∃ y,y=y1.alloc (.cells #[] 3):=⟨_,rfl⟩
        have hb:Below y1.heap.size y1 y2:=by rw [hy];exact Zab _ _
        have hf:FR inL 1 y2 y1.heap.size (y1.heap.size+1) y1.heap.size 0 []:=by rw [hy];exact Zbb inL 1 _ #[] 3 0 rfl Zz_
        have hzy2:y1.heap.size < y2.heap.size:=hf.lt
        rw [<- hy];clear hy;replace B6:=Zaa (B6.o.on hb);replace HBW:Hd (Zw_ w y2):=bt HBW.o hb;have HN:Hd (NRS inL 1 y2 (fun k=>k=y1.heap.size) (.slice (some ⟨y1.heap.size,0,none⟩) 0 0) []):=Or.inr ⟨_,rfl,_,0,rfl,hf⟩;have HSS:Hd (∀ k,(fun k=>k=y1.heap.size) k->w.heap.size<=k/\k < y2.heap.size/\k≠p6):=fun k hk=>by dsimp only at hk;subst hk;exact⟨by omega,hzy2,by omega⟩
        clear hf hb;refine hK.out _ _ (fun _=>trivial) (fun _=>?_);clear hK K
        try simp only [Act.put,sLs]
        refine oB 4 rfl (fun K hK=>?_);have B6old:p6 < y2.heap.size:=B6.o.lt
        obtain⟨v4,y3,hrun,ht,hrow⟩:=ZaK ZaE (by decide) underlying51 Zbe rfl (L:=[]) (M:=L.take k) 51 HN.o ((some ⟨b,off,none⟩)) k cap (by simp;omega) (fun e=>by have:=(HV.o.nilN e);omega) ((HV.o.below HBW.o).takeS k) (ZaO _) (by simp;omega) (by decide);refine Zae rfl (.tmp 33) (.tmp 36) 51 rfl rfl rfl hrun ?_;have hzy3:=ht.size;replace B6:=Zaa (b6T B6.o ht HSS.o);have HBX:=Zaa (bwT HBW.o ht fun k h=>(HSS.o k h).1);replace HSS:=Zaa (bwS HBW.o ht HSS.o B6old);replace HBW:=HBX;replace HN:=Zaa hrow;clear HBX hrow ht hrun B6old;refine hK.out _ _ (fun _=>trivial) (fun _=>?_);clear hK K
        try simp only [Act.put,sLs]
        refine oB 7 rfl (fun K hK=>?_);have B6old:p6 < y3.heap.size:=B6.o.lt
        obtain⟨v7,y4,hrun,ht,hrow⟩:=ZaK ZaE (by decide) underlying51 Zbe rfl (L:=([] ++ L.take k)) (M:=[n]) 51 HN.o (some ⟨p6,0,none⟩) 1 1 rfl (fun e=>by cases e) (fun ad e j u hu=>by injection e with e;subst e;rw [Addr.add_lit,Nat.zero_add,B6.o.cell j];simpa [Zai,inL] using hu) (ZaO _) (by simp;omega) (by decide);refine Zae rfl (.tmp 37) (.tmp 39) 51 rfl rfl rfl hrun ?_;have hzy4:=ht.size;replace B6:=Zaa (b6T B6.o ht HSS.o);have HBX:=Zaa (bwT HBW.o ht fun k h=>(HSS.o k h).1);replace HSS:=Zaa (bwS HBW.o ht HSS.o B6old);replace HBW:=HBX;replace HN:=Zaa hrow;clear HBX hrow ht hrun B6old;refine hK.out _ _ (fun _=>trivial) (fun _=>?_);clear hK K
        try simp only [Act.put,sLs]
        refine oB 11 rfl (fun K hK=>?_);have B6old:p6 < y4.heap.size:=B6.o.lt
        obtain⟨v11,y5,hrun,ht,hrow⟩:=ZaK ZaE (by decide) underlying51 Zbe rfl (L:=([] ++ L.take k ++ [n])) (M:=L.drop k) 51 HN.o (Zg4 ((some ⟨b,off,none⟩)) cap k) (L.length - k) (cap - k) (by simp) (fun e=>HV.o.cutN rfl e) ((HV.o.below HBW.o).from rfl (by omega)) (ZaO _) (by simp;omega) (by decide);refine Zae rfl (.tmp 40) (.tmp 43) 51 rfl rfl rfl hrun ?_;have hzy5:=ht.size;replace B6:=Zaa (b6T B6.o ht HSS.o);have HBX:=Zaa (bwT HBW.o ht fun k h=>(HSS.o k h).1);replace HSS:=Zaa (bwS HBW.o ht HSS.o B6old);replace HBW:=HBX;replace HN:=Zaa hrow;clear HBX hrow ht hrun B6old;refine hK.out _ _ (fun _=>trivial) (fun _=>?_);clear hK K
        try simp only [Act.put,sLs]
        refine oB 12 rfl (fun K hK=>?_)
        go_simp
        refine hK.out _ _ (fun h=>absurd (by decide) h) (fun _=>?_);clear hK K
        try simp only [Act.put,sLs]
        refine Zak (by kernel_rfl) ?_ _;refine NoPanic.normal ?_
        have HFin:Hd (ZaH inL 1 y5 w.heap.size y5.heap.size v11 (ZbD L n)):=by
         unfold Hd;rw [HE.o]
         rcases HN.o with ⟨_,h⟩ | ⟨g,hg,g',c',e1,e2⟩
         . simp at h
         . have:=HSS.o g hg
           have a1:=e2.bs;have a2:=e2.up;exact⟨g',c',e1,⟨by omega,e2.lt,e2.lt,e2.le,e2.mx,e2.th,e2.fz,e2.rg⟩⟩
        go_wp2;go_ret;exact⟨_,rfl,HBW.o,Or.inr HFin.o⟩
  . have hp:ZdK L n=k:=Zgb (by omega) HAL.o (fun h=>absurd h hlt)
    have HP:=Zaa hp;have hkl:k=L.length:=by omega
    have HE:Hd (ZbD L n=L.take k ++ [n] ++ L.drop k):=by unfold Hd ZbD;rw [HP.o,hkl,if_neg (by simp)]
    have d3:decide ((k:Int) < (L.length:Int))=false:=by simp;omega
    have HKL:=Zaa hkl;clear hkl hp;have hkle:k<=L.length:=hk
    go_upto_region 6 with fail
    clear d3 hlt;have hkc:k<=cap:=by omega
    refine Code.wp_mono NoPanic.imp ?_;refine Zan (S:=fun _=>True) [12] (by kernel_rfl) trivial (fun hHeld=>?_);refine tB 1 (.slice a L.length cap) [3,4,7,11,12] rfl hHeld ?_
    try simp only [Act.put,sLs]
    refine tB 2 (.int .i64 (k:Int)) [3,4,7,11,12] rfl hHeld ?_
    try simp only [Act.put,sLs]
    refine tB 3 (.slice a k cap) [4,7,11,12] rfl hHeld ?_
    try simp only [Act.put,sLs]
    refine tB 5 (.int .i64 n) [6,7,11,12] rfl hHeld ?_
    try simp only [Act.put,sLs]
    refine tB 8 (.slice a L.length cap) [10,11,12] rfl hHeld ?_
    try simp only [Act.put,sLs]
    refine tB 9 (.int .i64 (k:Int)) [10,11,12] rfl hHeld ?_
    try simp only [Act.put,sLs]
    refine tB 10 (.slice (Zg4 a cap k) (L.length - k) (cap - k)) [11,12] rfl hHeld ?_ (hy:=ZdP (by rfl) (.tmp 41) (.tmp 42) rfl _ L.length cap k rfl rfl (by omega))
    try simp only [Act.put,sLs]
    have HBW:Hd (Zw_ w w):=Below.refl _ _;refine ZbG (i:=0) (i':=6) (by kernel_rfl) rfl rfl (fun K hK=>?_) (fun K hK=>?_)
    . skip
      go_simp
      obtain⟨y1,hy⟩:∃ y,y=(w.alloc (.cells #[] 3)).drew:=⟨_,rfl⟩
      have hb:Zw_ w y1:=by rw [hy];exact (Zab _ _).drew
      have hf:FR inL 1 y1 w.heap.size (w.heap.size+1) w.heap.size 0 []:=by rw [hy];exact (Zbb inL 1 w #[] 3 0 rfl Zz_).below (Zb_.drew)
      have hzy1:w.heap.size < y1.heap.size:=hf.lt
      rw [<- hy];clear hy;replace HBW:Hd (Zw_ w y1):=bt HBW.o hb;have HN:Hd (NRS inL 1 y1 (fun k=>k=w.heap.size) (.slice (some ⟨w.heap.size,0,none⟩) 0 0) []):=Or.inr ⟨_,rfl,_,0,rfl,hf⟩;have HSS:Hd (∀ k,(fun k=>k=w.heap.size) k->w.heap.size<=k/\k < y1.heap.size):=fun k hk=>by dsimp only at hk;subst hk;exact⟨by omega,hzy1⟩
      clear hf hb;refine hK.out _ _ (fun _=>trivial) (fun _=>?_);clear hK K
      try simp only [Act.put,sLs]
      refine ZbG (i:=4) (i':=6) (by kernel_rfl) rfl rfl (fun K hK=>?_) (fun K hK=>?_)
      . skip
        obtain⟨v4,y2,hrun,ht,hrow⟩:=ZaK ZaE (by decide) underlying51 Zbe rfl (L:=[]) (M:=L.take k) 51 HN.o (a) k cap (by simp;omega) (fun e=>by have:=(HV.o.nilN e);omega) ((HV.o.below HBW.o).takeS k) (ZaO _) (by simp;omega) (by decide);refine Zae rfl (.tmp 33) (.tmp 36) 51 rfl rfl rfl hrun ?_;have hzy2:=ht.size;have HBX:=Zaa (bwT HBW.o ht fun k h=>(HSS.o k h).1);replace HSS:=Zaa (bwR HBW.o ht HSS.o);replace HBW:=HBX;replace HN:=Zaa hrow;clear HBX hrow ht hrun;refine hK.out _ _ (fun _=>trivial) (fun _=>?_);clear hK K
        try simp only [Act.put,sLs]
        refine oB 6 rfl (fun K hK=>?_)
        go_simp
        obtain⟨y3,hy⟩:∃ y,y=y2.alloc (.cells #[.int .i64 n] 3):=⟨_,rfl⟩
        have hb:Below y2.heap.size y2 y3:=by rw [hy];exact Zab _ _
        obtain⟨p6,hp6⟩:∃ p,p=y2.heap.size:=⟨_,rfl⟩
        have B6:Hd (Box y3 p6 #[.int .i64 n]):=by unfold Hd;rw [hp6,hy];exact Box.new _ _ _ _ rfl
        have hzy3:y2.heap.size < y3.heap.size:=by have:=B6.o.lt;omega
        rw [<- hy];rw [<- hp6];have h6n:p6 < y3.heap.size:=B6.o.lt
        replace HN:=Zaa (HN.o.kept (Zag.below hb (fun _ h=>h)) (fun k hk=>(HSS.o k hk).2));have HSS2:Hd (∀ k,(Gr (fun k=>k=w.heap.size) y1 y2) k->w.heap.size<=k/\k < y3.heap.size/\k≠p6):=fun k hk=>by have:=HSS.o k hk;omega
        clear HSS;have HSS:=HSS2;clear HSS2;clear hy hp6;replace HBW:Hd (Zw_ w y3):=bt HBW.o hb;clear hb;refine hK.out _ _ (fun _=>trivial) (fun _=>?_);clear hK K
        try simp only [Act.put,sLs]
        refine oB 7 rfl (fun K hK=>?_);have B6old:p6 < y3.heap.size:=B6.o.lt
        obtain⟨v7,y4,hrun,ht,hrow⟩:=ZaK ZaE (by decide) underlying51 Zbe rfl (L:=([] ++ L.take k)) (M:=[n]) 51 HN.o (some ⟨p6,0,none⟩) 1 1 rfl (fun e=>by cases e) (fun ad e j u hu=>by injection e with e;subst e;rw [Addr.add_lit,Nat.zero_add,B6.o.cell j];simpa [Zai,inL] using hu) (ZaO _) (by simp;omega) (by decide);refine Zae rfl (.tmp 37) (.tmp 39) 51 rfl rfl rfl hrun ?_;have hzy4:=ht.size;replace B6:=Zaa (b6T B6.o ht HSS.o);have HBX:=Zaa (bwT HBW.o ht fun k h=>(HSS.o k h).1);replace HSS:=Zaa (bwS HBW.o ht HSS.o B6old);replace HBW:=HBX;replace HN:=Zaa hrow;clear HBX hrow ht hrun B6old;refine hK.out _ _ (fun _=>trivial) (fun _=>?_);clear hK K
        try simp only [Act.put,sLs]
        refine oB 11 rfl (fun K hK=>?_);have B6old:p6 < y4.heap.size:=B6.o.lt
        obtain⟨v11,y5,hrun,ht,hrow⟩:=ZaK ZaE (by decide) underlying51 Zbe rfl (L:=([] ++ L.take k ++ [n])) (M:=L.drop k) 51 HN.o (Zg4 (a) cap k) (L.length - k) (cap - k) (by simp) (fun e=>HV.o.cutN rfl e) ((HV.o.below HBW.o).from rfl (by omega)) (ZaO _) (by simp;omega) (by decide);refine Zae rfl (.tmp 40) (.tmp 43) 51 rfl rfl rfl hrun ?_;have hzy5:=ht.size;replace B6:=Zaa (b6T B6.o ht HSS.o);have HBX:=Zaa (bwT HBW.o ht fun k h=>(HSS.o k h).1);replace HSS:=Zaa (bwS HBW.o ht HSS.o B6old);replace HBW:=HBX;replace HN:=Zaa hrow;clear HBX hrow ht hrun B6old;refine hK.out _ _ (fun _=>trivial) (fun _=>?_);clear hK K
        try simp only [Act.put,sLs]
        refine oB 12 rfl (fun K hK=>?_)
        go_simp
        refine hK.out _ _ (fun h=>absurd (by decide) h) (fun _=>?_);clear hK K
        try simp only [Act.put,sLs]
        refine Zak (by kernel_rfl) ?_ _;refine NoPanic.normal ?_
        have HFin:Hd (ZaH inL 1 y5 w.heap.size y5.heap.size v11 (ZbD L n)):=by
         unfold Hd;rw [HE.o]
         rcases HN.o with ⟨_,h⟩ | ⟨g,hg,g',c',e1,e2⟩
         . simp at h
         . have:=HSS.o g hg
           have a1:=e2.bs;have a2:=e2.up;exact⟨g',c',e1,⟨by omega,e2.lt,e2.lt,e2.le,e2.mx,e2.th,e2.fz,e2.rg⟩⟩
        go_wp2;go_ret;exact⟨_,rfl,HBW.o,Or.inr HFin.o⟩
      . skip
        go_simp
        obtain⟨y2,hy⟩:∃ y,y=y1.alloc (.cells #[.int .i64 n] 3):=⟨_,rfl⟩
        have hb:Below y1.heap.size y1 y2:=by rw [hy];exact Zab _ _
        obtain⟨p6,hp6⟩:∃ p,p=y1.heap.size:=⟨_,rfl⟩
        have B6:Hd (Box y2 p6 #[.int .i64 n]):=by unfold Hd;rw [hp6,hy];exact Box.new _ _ _ _ rfl
        have hzy2:y1.heap.size < y2.heap.size:=by have:=B6.o.lt;omega
        rw [<- hy];rw [<- hp6];have h6n:p6 < y2.heap.size:=B6.o.lt
        replace HN:=Zaa (HN.o.kept (Zag.below hb (fun _ h=>h)) (fun k hk=>(HSS.o k hk).2));have HSS2:Hd (∀ k,(fun k=>k=w.heap.size) k->w.heap.size<=k/\k < y2.heap.size/\k≠p6):=fun k hk=>by have:=HSS.o k hk;omega
        clear HSS;have HSS:=HSS2;clear HSS2;clear hy hp6;replace HBW:Hd (Zw_ w y2):=bt HBW.o hb;clear hb;refine hK.out _ _ (fun _=>trivial) (fun _=>?_);clear hK K
        try simp only [Act.put,sLs]
        refine oB 4 rfl (fun K hK=>?_);have B6old:p6 < y2.heap.size:=B6.o.lt
        obtain⟨v4,y3,hrun,ht,hrow⟩:=ZaK ZaE (by decide) underlying51 Zbe rfl (L:=[]) (M:=L.take k) 51 HN.o (a) k cap (by simp;omega) (fun e=>by have:=(HV.o.nilN e);omega) ((HV.o.below HBW.o).takeS k) (ZaO _) (by simp;omega) (by decide);refine Zae rfl (.tmp 33) (.tmp 36) 51 rfl rfl rfl hrun ?_;have hzy3:=ht.size;replace B6:=Zaa (b6T B6.o ht HSS.o);have HBX:=Zaa (bwT HBW.o ht fun k h=>(HSS.o k h).1);replace HSS:=Zaa (bwS HBW.o ht HSS.o B6old);replace HBW:=HBX;replace HN:=Zaa hrow;clear HBX hrow ht hrun B6old;refine hK.out _ _ (fun _=>trivial) (fun _=>?_);clear hK K
        try simp only [Act.put,sLs]
        refine oB 7 rfl (fun K hK=>?_);have B6old:p6 < y3.heap.size:=B6.o.lt
        obtain⟨v7,y4,hrun,ht,hrow⟩:=ZaK ZaE (by decide) underlying51 Zbe rfl (L:=([] ++ L.take k)) (M:=[n]) 51 HN.o (some ⟨p6,0,none⟩) 1 1 rfl (fun e=>by cases e) (fun ad e j u hu=>by injection e with e;subst e;rw [Addr.add_lit,Nat.zero_add,B6.o.cell j];simpa [Zai,inL] using hu) (ZaO _) (by simp;omega) (by decide);refine Zae rfl (.tmp 37) (.tmp 39) 51 rfl rfl rfl hrun ?_;have hzy4:=ht.size;replace B6:=Zaa (b6T B6.o ht HSS.o);have HBX:=Zaa (bwT HBW.o ht fun k h=>(HSS.o k h).1);replace HSS:=Zaa (bwS HBW.o ht HSS.o B6old);replace HBW:=HBX;replace HN:=Zaa hrow;clear HBX hrow ht hrun B6old;refine hK.out _ _ (fun _=>trivial) (fun _=>?_);clear hK K
        try simp only [Act.put,sLs]
        refine oB 11 rfl (fun K hK=>?_);have B6old:p6 < y4.heap.size:=B6.o.lt
        obtain⟨v11,y5,hrun,ht,hrow⟩:=ZaK ZaE (by decide) underlying51 Zbe rfl (L:=([] ++ L.take k ++ [n])) (M:=L.drop k) 51 HN.o (Zg4 (a) cap k) (L.length - k) (cap - k) (by simp) (fun e=>HV.o.cutN rfl e) ((HV.o.below HBW.o).from rfl (by omega)) (ZaO _) (by simp;omega) (by decide);refine Zae rfl (.tmp 40) (.tmp 43) 51 rfl rfl rfl hrun ?_;have hzy5:=ht.size;replace B6:=Zaa (b6T B6.o ht HSS.o);have HBX:=Zaa (bwT HBW.o ht fun k h=>(HSS.o k h).1);replace HSS:=Zaa (bwS HBW.o ht HSS.o B6old);replace HBW:=HBX;replace HN:=Zaa hrow;clear HBX hrow ht hrun B6old;refine hK.out _ _ (fun _=>trivial) (fun _=>?_);clear hK K
        try simp only [Act.put,sLs]
        refine oB 12 rfl (fun K hK=>?_)
        go_simp
        refine hK.out _ _ (fun h=>absurd (by decide) h) (fun _=>?_);clear hK K
        try simp only [Act.put,sLs]
        refine Zak (by kernel_rfl) ?_ _;refine NoPanic.normal ?_
        have HFin:Hd (ZaH inL 1 y5 w.heap.size y5.heap.size v11 (ZbD L n)):=by
         unfold Hd;rw [HE.o]
         rcases HN.o with ⟨_,h⟩ | ⟨g,hg,g',c',e1,e2⟩
         . simp at h
         . have:=HSS.o g hg
           have a1:=e2.bs;have a2:=e2.up;exact⟨g',c',e1,⟨by omega,e2.lt,e2.lt,e2.le,e2.mx,e2.th,e2.fz,e2.rg⟩⟩
        go_wp2;go_ret;exact⟨_,rfl,HBW.o,Or.inr HFin.o⟩
    . skip
      go_simp
      obtain⟨y1,hy⟩:∃ y,y=(w.alloc (.cells #[.int .i64 n] 3)).drew:=⟨_,rfl⟩
      have hb:Zw_ w y1:=by rw [hy];exact (Zab _ _).drew
      obtain⟨p6,hp6⟩:∃ p,p=w.heap.size:=⟨_,rfl⟩
      have B6:Hd (Box y1 p6 #[.int .i64 n]):=by unfold Hd;rw [hp6,hy];exact (Box.new w _ _ _ rfl).drew
      have hzy1:w.heap.size < y1.heap.size:=by have:=B6.o.lt;omega
      rw [<- hy];rw [<- hp6];have h6n:p6 < y1.heap.size:=B6.o.lt
      clear hy hp6;replace HBW:Hd (Zw_ w y1):=bt HBW.o hb;clear hb;refine hK.out _ _ (fun _=>trivial) (fun _=>?_);clear hK K
      try simp only [Act.put,sLs]
      refine oB 0 rfl (fun K hK=>?_)
      go_simp
      obtain⟨y2,hy⟩:∃ y,y=y1.alloc (.cells #[] 3):=⟨_,rfl⟩
      have hb:Below y1.heap.size y1 y2:=by rw [hy];exact Zab _ _
      have hf:FR inL 1 y2 y1.heap.size (y1.heap.size+1) y1.heap.size 0 []:=by rw [hy];exact Zbb inL 1 _ #[] 3 0 rfl Zz_
      have hzy2:y1.heap.size < y2.heap.size:=hf.lt
      rw [<- hy];clear hy;replace B6:=Zaa (B6.o.on hb);replace HBW:Hd (Zw_ w y2):=bt HBW.o hb;have HN:Hd (NRS inL 1 y2 (fun k=>k=y1.heap.size) (.slice (some ⟨y1.heap.size,0,none⟩) 0 0) []):=Or.inr ⟨_,rfl,_,0,rfl,hf⟩;have HSS:Hd (∀ k,(fun k=>k=y1.heap.size) k->w.heap.size<=k/\k < y2.heap.size/\k≠p6):=fun k hk=>by dsimp only at hk;subst hk;exact⟨by omega,hzy2,by omega⟩
      clear hf hb;refine hK.out _ _ (fun _=>trivial) (fun _=>?_);clear hK K
      try simp only [Act.put,sLs]
      refine oB 4 rfl (fun K hK=>?_);have B6old:p6 < y2.heap.size:=B6.o.lt
      obtain⟨v4,y3,hrun,ht,hrow⟩:=ZaK ZaE (by decide) underlying51 Zbe rfl (L:=[]) (M:=L.take k) 51 HN.o (a) k cap (by simp;omega) (fun e=>by have:=(HV.o.nilN e);omega) ((HV.o.below HBW.o).takeS k) (ZaO _) (by simp;omega) (by decide);refine Zae rfl (.tmp 33) (.tmp 36) 51 rfl rfl rfl hrun ?_;have hzy3:=ht.size;replace B6:=Zaa (b6T B6.o ht HSS.o);have HBX:=Zaa (bwT HBW.o ht fun k h=>(HSS.o k h).1);replace HSS:=Zaa (bwS HBW.o ht HSS.o B6old);replace HBW:=HBX;replace HN:=Zaa hrow;clear HBX hrow ht hrun B6old;refine hK.out _ _ (fun _=>trivial) (fun _=>?_);clear hK K
      try simp only [Act.put,sLs]
      refine oB 7 rfl (fun K hK=>?_);have B6old:p6 < y3.heap.size:=B6.o.lt
      obtain⟨v7,y4,hrun,ht,hrow⟩:=ZaK ZaE (by decide) underlying51 Zbe rfl (L:=([] ++ L.take k)) (M:=[n]) 51 HN.o (some ⟨p6,0,none⟩) 1 1 rfl (fun e=>by cases e) (fun ad e j u hu=>by injection e with e;subst e;rw [Addr.add_lit,Nat.zero_add,B6.o.cell j];simpa [Zai,inL] using hu) (ZaO _) (by simp;omega) (by decide);refine Zae rfl (.tmp 37) (.tmp 39) 51 rfl rfl rfl hrun ?_;have hzy4:=ht.size;replace B6:=Zaa (b6T B6.o ht HSS.o);have HBX:=Zaa (bwT HBW.o ht fun k h=>(HSS.o k h).1);replace HSS:=Zaa (bwS HBW.o ht HSS.o B6old);replace HBW:=HBX;replace HN:=Zaa hrow;clear HBX hrow ht hrun B6old;refine hK.out _ _ (fun _=>trivial) (fun _=>?_);clear hK K
      try simp only [Act.put,sLs]
      refine oB 11 rfl (fun K hK=>?_);have B6old:p6 < y4.heap.size:=B6.o.lt
      obtain⟨v11,y5,hrun,ht,hrow⟩:=ZaK ZaE (by decide) underlying51 Zbe rfl (L:=([] ++ L.take k ++ [n])) (M:=L.drop k) 51 HN.o (Zg4 (a) cap k) (L.length - k) (cap - k) (by simp) (fun e=>HV.o.cutN rfl e) ((HV.o.below HBW.o).from rfl (by omega)) (ZaO _) (by simp;omega) (by decide);refine Zae rfl (.tmp 40) (.tmp 43) 51 rfl rfl rfl hrun ?_;have hzy5:=ht.size;replace B6:=Zaa (b6T B6.o ht HSS.o);have HBX:=Zaa (bwT HBW.o ht fun k h=>(HSS.o k h).1);replace HSS:=Zaa (bwS HBW.o ht HSS.o B6old);replace HBW:=HBX;replace HN:=Zaa hrow;clear HBX hrow ht hrun B6old;refine hK.out _ _ (fun _=>trivial) (fun _=>?_);clear hK K
      try simp only [Act.put,sLs]
      refine oB 12 rfl (fun K hK=>?_)
      go_simp
      refine hK.out _ _ (fun h=>absurd (by decide) h) (fun _=>?_);clear hK K
      try simp only [Act.put,sLs]
      refine Zak (by kernel_rfl) ?_ _;refine NoPanic.normal ?_
      have HFin:Hd (ZaH inL 1 y5 w.heap.size y5.heap.size v11 (ZbD L n)):=by
       unfold Hd;rw [HE.o]
       rcases HN.o with ⟨_,h⟩ | ⟨g,hg,g',c',e1,e2⟩
       . simp at h
       . have:=HSS.o g hg
         have a1:=e2.bs;have a2:=e2.up;exact⟨g',c',e1,⟨by omega,e2.lt,e2.lt,e2.le,e2.mx,e2.th,e2.fz,e2.rg⟩⟩
      go_wp2;go_ret;exact⟨_,rfl,HBW.o,Or.inr HFin.o⟩
end Go.Proofs.YtdeammfdkaomlaaGreat
