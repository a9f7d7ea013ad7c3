import Derived.Test.YtkiefplmnoapfaaGreatV26
set_option maxHeartbeats 16000000
set_option maxRecDepth 100000
open Go.Proofs.Tryz
namespace Go.Proofs.YtkiefplmnoapfaaGreat
open Go.RowKit Go.Deep
section
variable {n lo c m:Nat} {w:World} {o:Oper} {a:Act} {ao:Option Addr} {A:List Int}
def Zfa (L:List Int) (n:Int):Nat:=(L.takeWhile (fun x=>decide (x < n))).length
def Zcf (L:List Int) (n:Int):List Int:=if L[Zfa L n]?=some n then L else L.take (Zfa L n) ++ [n] ++ L.drop (Zfa L n)
theorem Zia (L:List Int) (n:Int):Zfa L n<=L.length:=by
 unfold Zfa
 induction L with
 | nil=>simp
 | cons x r ih=>rw [List.takeWhile_cons];split <;> simp <;> omega
theorem Zgj {L:List Int}{n:Int}{k:Nat} (hk:k<=L.length) (hlt:∀ j (hj:j < L.length),j < k->L[j] < n) (hge:∀ (h:k < L.length),¬ L[k] < n):Zfa L n=k:=by
 unfold Zfa
 induction L generalizing k with
 | nil=>simp at hk;simp [hk]
 | cons x r ih=>
  cases k with
  | zero=>
   have:=hge (by simp);rw [List.takeWhile_cons];simp at this;rw [if_neg (by simpa using this)]
   rfl
  | succ k=>
   have h0:=hlt 0 (by simp) (by omega);rw [List.takeWhile_cons,if_pos (by simpa using h0),List.length_cons,ih (k:=k) (by simpa using hk) (fun j hj hjk=>by have:=hlt (j+1) (by simpa using hj) (by omega);simpa using this) (fun h=>by have:=hge (by simpa using h);simpa using this)]
def ZgA (ao:Option Addr) (c m:Nat):Option Addr:=if c=m then ao else ao.map (·.add (m*1))
theorem Zj2 {ops:Array Oper}{rest:List Oper}{Q:Exit->Act->World->Prop} (hgd:o.guard=none) (x y:Operand) (ho:o.op=.slice 27 x (some y) none none)
 (ao:Option Addr) (n c m:Nat) (hx:a.eval x=.slice ao n c) (hy:a.eval y=.int .i64 m) (hm:m<=n) (h:wpList prog ops Q rest (a.put o.dst (.slice (ZgA ao c m) (n - m) (c - m))) w):wpList prog ops Q (o :: rest) a w:=by
 refine wpList_plain hgd fun K hK=>?_
 have hr:=run_slice_l (P:=prog) w 27 ao n c underlying27 .i64 m (by omega) (by omega);have hs:=run_sliceAt_slice (P:=prog) w 27 (.slice ao n c) (some (.int .i64 m)) none none underlying27;obtain⟨i0,hi,hz0,hz1,hz2⟩:=info_parts Zbj;have hsz:(sizeOf 3).run prog w=.ok 1 w:=by simp [sizeOf,typeInfo,hi,hz1]
 unfold Oper.wp execOp;simp only [ho,Option.map_some,Option.map_none,hx,hy,Sem.run_bind,Sem.run_pure,Result.andThen_ok,hs,hr,show prog.elem 27=3 from rfl,hsz,sliced,Int.toNat_natCast];exact hK _ _ h
theorem ZaJ.from (h:ZaJ lo w (.slice ao n c) A) (hn:n=A.length) (hm:m<=A.length):∀ ad,ZgA ao c m=some ad->∀ j u,(Zai inL (A.drop m))[j]?=some u->w.cell? (ad.add j)=some u:=by
 subst hn;intro ad hc j u hu;have hj:=(List.getElem?_eq_some_iff.1 hu).1;rw [Zaw ZaG,List.length_drop] at hj;have h0:0 < A.length:=by omega
 have hcap:A.length<=c:=by
  rcases h with ⟨_,_,_,e⟩ | ⟨_,_,_,h1,_,_,_,_,h6,_⟩
  . rw [e] at h0;simp at h0
  . injection h1 with e1 e2 e3
    omega
 obtain⟨b,off,rfl,-,-,-⟩:=h.full' h0;unfold ZgA at hc;rw [if_neg (by omega)] at hc;simp only [Option.map_some,Option.some.injEq] at hc;subst hc;have hu':=ZdE ZaG hm hu;have:=h.src _ rfl _ _ hu';rw [Addr.add_lit] at this |-;rw [Addr.add_lit];simp only [Nat.add_assoc] at this |-;exact this
theorem ZaJ.cutN (h:ZaJ lo w (.slice ao n c) A) (hn:n=A.length):ZgA ao c m=none->n - m=0:=by
 intro hc
 have:ao=none:=by
  unfold ZgA at hc
  split at hc
  . exact hc
  . cases ao with
    | none=>rfl
    | some x=>simp at hc
 have:=h.nilN this
 omega
theorem ZaJ.takeS (h:ZaJ lo w (.slice ao n c) A) (m:Nat):∀ ad,ao=some ad->∀ j u,(Zai inL (A.take m))[j]?=some u->w.cell? (ad.add j)=some u:=by
 intro ad e j u hu;refine h.src ad e j u ?_;have:Zai inL A=Zai inL (A.take m) ++ Zai inL (A.drop m):=by rw [<- Zbv,List.take_append_drop]
 rw [this];have hj:=(List.getElem?_eq_some_iff.1 hu).1;rw [List.getElem?_append_left hj];exact hu
theorem ZdQ {ops:Array Oper}{C:World->Prop} (hgd:o.guard=none) (x y:Operand) (ho:o.op=.slice 27 x (some y) none none)
 (ao:Option Addr) (n c m:Nat) (hx:a.eval x=.slice ao n c) (hy:a.eval y=.int .i64 m) (hm:m<=n):YieldsIf prog ops C o (.slice (ZgA ao c m) (n - m) (c - m)) a:=by
 refine Or.inl ⟨by simp [Region.wanted,hgd],fun w _=>?_⟩;have hr:=run_slice_l (P:=prog) w 27 ao n c underlying27 .i64 m (by omega) (by omega);have hs:=run_sliceAt_slice (P:=prog) w 27 (.slice ao n c) (some (.int .i64 m)) none none underlying27;obtain⟨i0,hi,hz0,hz1,hz2⟩:=info_parts Zbj;have hsz:(sizeOf 3).run prog w=.ok 1 w:=by simp [sizeOf,typeInfo,hi,hz1]
 unfold execOp;simp only [ho,Option.map_some,Option.map_none,hx,hy,Sem.run_bind,Sem.run_pure,Result.andThen_ok,hs,hr,show prog.elem 27=3 from rfl,hsz,sliced,Int.toNat_natCast]
 rfl
theorem ZdV (lo:Nat) (v:Value) (L:List Int) (n:Int) (w:World) (hv:ZaJ lo w v L) (hL:L.length<=1000000) :
 Calls prog 106 #[v,.int .i64 n] w fun e w'=>∃ v',e=.returned v'/\Zw_ w w'/\((v'=v/\Zcf L n=L)\/ZaK inL 1 w' w.heap.size w'.heap.size v' (Zcf L n)):=by
 have HV:=Zaa hv;obtain⟨a,cap,rfl⟩:=hv.form
 have hcap:L.length<=cap:=by
  rcases hv with ⟨_,_,h1,h2⟩ | ⟨_,_,_,h1,_,_,_,_,h6,_⟩
  . rw [h2];simp
  . injection h1 with e1 e2 e3
    omega
 clear hv;go_enter func106,ntmps106;go_wp2
 go_loop [5] (fun i=>∃ k:Nat,i=.int .i64 k/\k<=L.length/\∀ j (hj:j < L.length),j < k->L[j] < n) (fun i=>L.length - (intOf i).toNat)
 case atStart=>exact⟨0,rfl,by omega,fun j _ h=>by omega⟩
 case round=>
  obtain⟨k,rfl,hk,hall⟩:=hrel;have HAL:=Zaa hall;clear hall
  by_cases hlt:k < L.length
  . obtain⟨b,off,rfl,hbw,-,hc⟩:=HV.o.full' (by omega)
    obtain⟨y,hy⟩:∃ y,y=L[k]:=⟨_,rfl⟩
    have e0:w.cell? ⟨b,off+k,none⟩=some (.int .i64 y):=by rw [hy];exact (hc k hlt).2
    have HY:=Zaa hy;have i0:(0:Int)<=(k:Int):=by omega
    have i1:(k:Int) < (L.length:Int):=by omega
    clear hc hy
    cases q:decide (y < n) with
    | true=>
     have HQ:=Zaa (of_decide_eq_true q);go_wp2
     go_round
     case rel=>exact⟨k+1,by go_num,by omega,fun j hj hjk=>by
                by_cases e:j=k
                . subst e;rw [<- HY.o];exact HQ.o
                . exact HAL.o j hj (by omega)⟩
     . simp [intOf];omega
    | false=>
     have hp:Zfa L n=k:=Zgj (by omega) HAL.o (fun h=>by rw [<- HY.o];exact of_decide_eq_false q);have HP:=Zaa hp;have HLk:Hd (L[k]?=some y):=by unfold Hd;rw [HY.o];exact List.getElem?_eq_getElem hlt
     clear hp
     cases q2:(y == n) with
     | true=>
      have HE:Hd (Zcf L n=L):=by unfold Hd Zcf;rw [HP.o,HLk.o,eq_of_beq q2,if_pos rfl]
      go_wp2;go_ret;exact⟨_,rfl,Below.refl _ _,Or.inl ⟨rfl,HE.o⟩⟩
     | false=>
      have HE:Hd (Zcf L n=L.take k ++ [n] ++ L.drop k):=by unfold Hd Zcf;rw [HP.o,HLk.o,if_neg (fun e=>by injection e with e;rw [e] at q2;simp at q2)]
      go_upto_region 6 with fail
      clear e0 q q2;have hkc:k<=cap:=by omega
      refine Code.wp_mono NoPanic.imp ?_;refine Zao (S:=fun _=>True) [12] (by kernel_rfl) trivial (fun hHeld=>?_);refine tB 1 (.slice (some ⟨b,off,none⟩) L.length cap) [3,4,7,11,12] rfl hHeld ?_
      try simp only [Act.put,sLs]
      refine tB 2 (.int .i64 (k:Int)) [3,4,7,11,12] rfl hHeld ?_
      try simp only [Act.put,sLs]
      refine tB 3 (.slice (some ⟨b,off,none⟩) k cap) [4,7,11,12] rfl hHeld ?_
      try simp only [Act.put,sLs]
      refine tB 5 (.int .i64 n) [6,7,11,12] rfl hHeld ?_
      try simp only [Act.put,sLs]
      refine tB 8 (.slice (some ⟨b,off,none⟩) L.length cap) [10,11,12] rfl hHeld ?_
      try simp only [Act.put,sLs]
      refine tB 9 (.int .i64 (k:Int)) [10,11,12] rfl hHeld ?_
      try simp only [Act.put,sLs]
      refine tB 10 (.slice (ZgA (some ⟨b,off,none⟩) cap k) (L.length - k) (cap - k)) [11,12] rfl hHeld ?_ (hy:=ZdQ (by rfl) (.tmp 41) (.tmp 42) rfl _ L.length cap k rfl rfl (by omega))
      try simp only [Act.put,sLs]
      have HBW:Hd (Zw_ w w):=Below.refl _ _;refine ZbM (i:=0) (i':=6) (by kernel_rfl) rfl rfl (fun K hK=>?_) (fun K hK=>?_)
      . skip
        go_simp
        obtain⟨y1,hy⟩:∃ y,y=(w.alloc (.cells #[] 3)).drew:=⟨_,rfl⟩
        have hb:Zw_ w y1:=by rw [hy];exact (Zab _ _).drew
        have hf:FR inL 1 y1 w.heap.size (w.heap.size+1) w.heap.size 0 []:=by rw [hy];exact (Zbx inL 1 w #[] 3 0 rfl Zz_).below (Zb_.drew)
        have hzy1:w.heap.size < y1.heap.size:=hf.lt
        rw [<- hy];clear hy;replace HBW:Hd (Zw_ w y1):=bt HBW.o hb;have HN:Hd (NRS inL 1 y1 (fun k=>k=w.heap.size) (.slice (some ⟨w.heap.size,0,none⟩) 0 0) []):=Or.inr ⟨_,rfl,_,0,rfl,hf⟩;have HSS:Hd (∀ k,(fun k=>k=w.heap.size) k->w.heap.size<=k/\k < y1.heap.size):=fun k hk=>by dsimp only at hk;subst hk;exact⟨by omega,hzy1⟩
        clear hf hb;refine hK.out _ _ (fun _=>trivial) (fun _=>?_);clear hK K
        try simp only [Act.put,sLs]
        refine ZbM (i:=4) (i':=6) (by kernel_rfl) rfl rfl (fun K hK=>?_) (fun K hK=>?_)
        . skip
          obtain⟨v4,y2,hrun,ht,hrow⟩:=ZaO ZaG (by decide) underlying27 Zbj rfl (L:=[]) (M:=L.take k) 27 HN.o ((some ⟨b,off,none⟩)) k cap (by simp;omega) (fun e=>by have:=(HV.o.nilN e);omega) ((HV.o.below HBW.o).takeS k) (ZaX _) (by simp;omega) (by decide);refine Zae rfl (.tmp 33) (.tmp 36) 27 rfl rfl rfl hrun ?_;have hzy2:=ht.size;have HBX:=Zaa (bwT HBW.o ht fun k h=>(HSS.o k h).1);replace HSS:=Zaa (bwR HBW.o ht HSS.o);replace HBW:=HBX;replace HN:=Zaa hrow;clear HBX hrow ht hrun;refine hK.out _ _ (fun _=>trivial) (fun _=>?_);clear hK K
          try simp only [Act.put,sLs]
          refine oB 6 rfl (fun K hK=>?_)
          go_simp
          obtain⟨y3,hy⟩:∃ y,y=y2.alloc (.cells #[.int .i64 n] 3):=⟨_,rfl⟩
          have hb:Below y2.heap.size y2 y3:=by rw [hy];exact Zab _ _
          obtain⟨p6,hp6⟩:∃ p,p=y2.heap.size:=⟨_,rfl⟩
          have B6:Hd (Box y3 p6 #[.int .i64 n]):=by unfold Hd;rw [hp6,hy];exact Box.new _ _ _ _ rfl
          have hzy3:y2.heap.size < y3.heap.size:=by have:=B6.o.lt;omega
          rw [<- hy];rw [<- hp6];have h6n:p6 < y3.heap.size:=B6.o.lt
          replace HN:=Zaa (HN.o.kept (Zag.below hb (fun _ h=>h)) (fun k hk=>(HSS.o k hk).2));have HSS2:Hd (∀ k,(Gr (fun k=>k=w.heap.size) y1 y2) k->w.heap.size<=k/\k < y3.heap.size/\k≠p6):=fun k hk=>by have:=HSS.o k hk;omega
          clear HSS;have HSS:=HSS2;clear HSS2;clear hy hp6;replace HBW:Hd (Zw_ w y3):=bt HBW.o hb;clear hb;refine hK.out _ _ (fun _=>trivial) (fun _=>?_);clear hK K
          try simp only [Act.put,sLs]
          refine oB 7 rfl (fun K hK=>?_);have B6old:p6 < y3.heap.size:=B6.o.lt
          obtain⟨v7,y4,hrun,ht,hrow⟩:=ZaO ZaG (by decide) underlying27 Zbj rfl (L:=([] ++ L.take k)) (M:=[n]) 27 HN.o (some ⟨p6,0,none⟩) 1 1 rfl (fun e=>by cases e) (fun ad e j u hu=>by injection e with e;subst e;rw [Addr.add_lit,Nat.zero_add,B6.o.cell j];simpa [Zai,inL] using hu) (ZaX _) (by simp;omega) (by decide);refine Zae rfl (.tmp 37) (.tmp 39) 27 rfl rfl rfl hrun ?_;have hzy4:=ht.size;replace B6:=Zaa (b6T B6.o ht HSS.o);have HBX:=Zaa (bwT HBW.o ht fun k h=>(HSS.o k h).1);replace HSS:=Zaa (bwS HBW.o ht HSS.o B6old);replace HBW:=HBX;replace HN:=Zaa hrow;clear HBX hrow ht hrun B6old;refine hK.out _ _ (fun _=>trivial) (fun _=>?_);clear hK K
          try simp only [Act.put,sLs]
          refine oB 11 rfl (fun K hK=>?_);have B6old:p6 < y4.heap.size:=B6.o.lt
          obtain⟨v11,y5,hrun,ht,hrow⟩:=ZaO ZaG (by decide) underlying27 Zbj rfl (L:=([] ++ L.take k ++ [n])) (M:=L.drop k) 27 HN.o (ZgA ((some ⟨b,off,none⟩)) cap k) (L.length - k) (cap - k) (by simp) (fun e=>HV.o.cutN rfl e) ((HV.o.below HBW.o).from rfl (by omega)) (ZaX _) (by simp;omega) (by decide);refine Zae rfl (.tmp 40) (.tmp 43) 27 rfl rfl rfl hrun ?_;have hzy5:=ht.size;replace B6:=Zaa (b6T B6.o ht HSS.o);have HBX:=Zaa (bwT HBW.o ht fun k h=>(HSS.o k h).1);replace HSS:=Zaa (bwS HBW.o ht HSS.o B6old);replace HBW:=HBX;replace HN:=Zaa hrow;clear HBX hrow ht hrun B6old;refine hK.out _ _ (fun _=>trivial) (fun _=>?_);clear hK K
          try simp only [Act.put,sLs]
          refine oB 12 rfl (fun K hK=>?_)
          go_simp
          refine hK.out _ _ (fun h=>absurd (by decide) h) (fun _=>?_);clear hK K
          try simp only [Act.put,sLs]
          refine Zak (by kernel_rfl) ?_ _;refine NoPanic.normal ?_
          have HFin:Hd (ZaK inL 1 y5 w.heap.size y5.heap.size v11 (Zcf L n)):=by
           unfold Hd;rw [HE.o]
           rcases HN.o with ⟨_,h⟩ | ⟨g,hg,g',c',e1,e2⟩
           . simp at h
           . have:=HSS.o g hg
             have a1:=e2.bs;have a2:=e2.up;exact⟨g',c',e1,⟨by omega,e2.lt,e2.lt,e2.le,e2.mx,e2.th,e2.fz,e2.rg⟩⟩
          go_wp2;go_ret;exact⟨_,rfl,HBW.o,Or.inr HFin.o⟩
        . skip
          go_simp
          obtain⟨y2,hy⟩:∃ y,y=y1.alloc (.cells #[.int .i64 n] 3):=⟨_,rfl⟩
          have hb:Below y1.heap.size y1 y2:=by rw [hy];exact Zab _ _
          obtain⟨p6,hp6⟩:∃ p,p=y1.heap.size:=⟨_,rfl⟩
          have B6:Hd (Box y2 p6 #[.int .i64 n]):=by unfold Hd;rw [hp6,hy];exact Box.new _ _ _ _ rfl
          have hzy2:y1.heap.size < y2.heap.size:=by have:=B6.o.lt;omega
          rw [<- hy];rw [<- hp6];have h6n:p6 < y2.heap.size:=B6.o.lt
          replace HN:=Zaa (HN.o.kept (Zag.below hb (fun _ h=>h)) (fun k hk=>(HSS.o k hk).2));have HSS2:Hd (∀ k,(fun k=>k=w.heap.size) k->w.heap.size<=k/\k < y2.heap.size/\k≠p6):=fun k hk=>by have:=HSS.o k hk;omega
          clear HSS;have HSS:=HSS2;clear HSS2;clear hy hp6;replace HBW:Hd (Zw_ w y2):=bt HBW.o hb;clear hb;refine hK.out _ _ (fun _=>trivial) (fun _=>?_);clear hK K
          try simp only [Act.put,sLs]
          refine oB 4 rfl (fun K hK=>?_);have B6old:p6 < y2.heap.size:=B6.o.lt
          obtain⟨v4,y3,hrun,ht,hrow⟩:=ZaO ZaG (by decide) underlying27 Zbj rfl (L:=[]) (M:=L.take k) 27 HN.o ((some ⟨b,off,none⟩)) k cap (by simp;omega) (fun e=>by have:=(HV.o.nilN e);omega) ((HV.o.below HBW.o).takeS k) (ZaX _) (by simp;omega) (by decide);refine Zae rfl (.tmp 33) (.tmp 36) 27 rfl rfl rfl hrun ?_;have hzy3:=ht.size;replace B6:=Zaa (b6T B6.o ht HSS.o);have HBX:=Zaa (bwT HBW.o ht fun k h=>(HSS.o k h).1);replace HSS:=Zaa (bwS HBW.o ht HSS.o B6old);replace HBW:=HBX;replace HN:=Zaa hrow;clear HBX hrow ht hrun B6old;refine hK.out _ _ (fun _=>trivial) (fun _=>?_);clear hK K
          try simp only [Act.put,sLs]
          refine oB 7 rfl (fun K hK=>?_);have B6old:p6 < y3.heap.size:=B6.o.lt
          obtain⟨v7,y4,hrun,ht,hrow⟩:=ZaO ZaG (by decide) underlying27 Zbj rfl (L:=([] ++ L.take k)) (M:=[n]) 27 HN.o (some ⟨p6,0,none⟩) 1 1 rfl (fun e=>by cases e) (fun ad e j u hu=>by injection e with e;subst e;rw [Addr.add_lit,Nat.zero_add,B6.o.cell j];simpa [Zai,inL] using hu) (ZaX _) (by simp;omega) (by decide);refine Zae rfl (.tmp 37) (.tmp 39) 27 rfl rfl rfl hrun ?_;have hzy4:=ht.size;replace B6:=Zaa (b6T B6.o ht HSS.o);have HBX:=Zaa (bwT HBW.o ht fun k h=>(HSS.o k h).1);replace HSS:=Zaa (bwS HBW.o ht HSS.o B6old);replace HBW:=HBX;replace HN:=Zaa hrow;clear HBX hrow ht hrun B6old;refine hK.out _ _ (fun _=>trivial) (fun _=>?_);clear hK K
          try simp only [Act.put,sLs]
          refine oB 11 rfl (fun K hK=>?_);have B6old:p6 < y4.heap.size:=B6.o.lt
          obtain⟨v11,y5,hrun,ht,hrow⟩:=ZaO ZaG (by decide) underlying27 Zbj rfl (L:=([] ++ L.take k ++ [n])) (M:=L.drop k) 27 HN.o (ZgA ((some ⟨b,off,none⟩)) cap k) (L.length - k) (cap - k) (by simp) (fun e=>HV.o.cutN rfl e) ((HV.o.below HBW.o).from rfl (by omega)) (ZaX _) (by simp;omega) (by decide);refine Zae rfl (.tmp 40) (.tmp 43) 27 rfl rfl rfl hrun ?_;have hzy5:=ht.size;replace B6:=Zaa (b6T B6.o ht HSS.o);have HBX:=Zaa (bwT HBW.o ht fun k h=>(HSS.o k h).1);replace HSS:=Zaa (bwS HBW.o ht HSS.o B6old);replace HBW:=HBX;replace HN:=Zaa hrow;clear HBX hrow ht hrun B6old;refine hK.out _ _ (fun _=>trivial) (fun _=>?_);clear hK K
          try simp only [Act.put,sLs]
          refine oB 12 rfl (fun K hK=>?_)
          go_simp
          refine hK.out _ _ (fun h=>absurd (by decide) h) (fun _=>?_);clear hK K
          try simp only [Act.put,sLs]
          refine Zak (by kernel_rfl) ?_ _;refine NoPanic.normal ?_
          have HFin:Hd (ZaK inL 1 y5 w.heap.size y5.heap.size v11 (Zcf L n)):=by
           unfold Hd;rw [HE.o]
           rcases HN.o with ⟨_,h⟩ | ⟨g,hg,g',c',e1,e2⟩
           . simp at h
           . have:=HSS.o g hg
             have a1:=e2.bs;have a2:=e2.up;exact⟨g',c',e1,⟨by omega,e2.lt,e2.lt,e2.le,e2.mx,e2.th,e2.fz,e2.rg⟩⟩
          go_wp2;go_ret;exact⟨_,rfl,HBW.o,Or.inr HFin.o⟩
      . skip
        go_simp
        obtain⟨y1,hy⟩:∃ y,y=(w.alloc (.cells #[.int .i64 n] 3)).drew:=⟨_,rfl⟩
        have hb:Zw_ w y1:=by rw [hy];exact (Zab _ _).drew
        obtain⟨p6,hp6⟩:∃ p,p=w.heap.size:=⟨_,rfl⟩
        have B6:Hd (Box y1 p6 #[.int .i64 n]):=by unfold Hd;rw [hp6,hy];exact (Box.new w _ _ _ rfl).drew
        have hzy1:w.heap.size < y1.heap.size:=by have:=B6.o.lt;omega
        rw [<- hy];rw [<- hp6];have h6n:p6 < y1.heap.size:=B6.o.lt
        clear hy hp6;replace HBW:Hd (Zw_ w y1):=bt HBW.o hb;clear hb;refine hK.out _ _ (fun _=>trivial) (fun _=>?_);clear hK K
        try simp only [Act.put,sLs]
        refine oB 0 rfl (fun K hK=>?_)
        go_simp
        obtain⟨y2,hy⟩:∃ y,y=y1.alloc (.cells #[] 3):=⟨_,rfl⟩
        have hb:Below y1.heap.size y1 y2:=by rw [hy];exact Zab _ _
        have hf:FR inL 1 y2 y1.heap.size (y1.heap.size+1) y1.heap.size 0 []:=by rw [hy];exact Zbx inL 1 _ #[] 3 0 rfl Zz_
        have hzy2:y1.heap.size < y2.heap.size:=hf.lt
        rw [<- hy];clear hy;replace B6:=Zaa (B6.o.on hb);replace HBW:Hd (Zw_ w y2):=bt HBW.o hb;have HN:Hd (NRS inL 1 y2 (fun k=>k=y1.heap.size) (.slice (some ⟨y1.heap.size,0,none⟩) 0 0) []):=Or.inr ⟨_,rfl,_,0,rfl,hf⟩;have HSS:Hd (∀ k,(fun k=>k=y1.heap.size) k->w.heap.size<=k/\k < y2.heap.size/\k≠p6):=fun k hk=>by dsimp only at hk;subst hk;exact⟨by omega,hzy2,by omega⟩
        clear hf hb;refine hK.out _ _ (fun _=>trivial) (fun _=>?_);clear hK K
        try simp only [Act.put,sLs]
        refine oB 4 rfl (fun K hK=>?_);have B6old:p6 < y2.heap.size:=B6.o.lt
        obtain⟨v4,y3,hrun,ht,hrow⟩:=ZaO ZaG (by decide) underlying27 Zbj rfl (L:=[]) (M:=L.take k) 27 HN.o ((some ⟨b,off,none⟩)) k cap (by simp;omega) (fun e=>by have:=(HV.o.nilN e);omega) ((HV.o.below HBW.o).takeS k) (ZaX _) (by simp;omega) (by decide);refine Zae rfl (.tmp 33) (.tmp 36) 27 rfl rfl rfl hrun ?_;have hzy3:=ht.size;replace B6:=Zaa (b6T B6.o ht HSS.o);have HBX:=Zaa (bwT HBW.o ht fun k h=>(HSS.o k h).1);replace HSS:=Zaa (bwS HBW.o ht HSS.o B6old);replace HBW:=HBX;replace HN:=Zaa hrow;clear HBX hrow ht hrun B6old;refine hK.out _ _ (fun _=>trivial) (fun _=>?_);clear hK K
        try simp only [Act.put,sLs]
        refine oB 7 rfl (fun K hK=>?_);have B6old:p6 < y3.heap.size:=B6.o.lt
        obtain⟨v7,y4,hrun,ht,hrow⟩:=ZaO ZaG (by decide) underlying27 Zbj rfl (L:=([] ++ L.take k)) (M:=[n]) 27 HN.o (some ⟨p6,0,none⟩) 1 1 rfl (fun e=>by cases e) (fun ad e j u hu=>by injection e with e;subst e;rw [Addr.add_lit,Nat.zero_add,B6.o.cell j];simpa [Zai,inL] using hu) (ZaX _) (by simp;omega) (by decide);refine Zae rfl (.tmp 37) (.tmp 39) 27 rfl rfl rfl hrun ?_;have hzy4:=ht.size;replace B6:=Zaa (b6T B6.o ht HSS.o);have HBX:=Zaa (bwT HBW.o ht fun k h=>(HSS.o k h).1);replace HSS:=Zaa (bwS HBW.o ht HSS.o B6old);replace HBW:=HBX;replace HN:=Zaa hrow;clear HBX hrow ht hrun B6old;refine hK.out _ _ (fun _=>trivial) (fun _=>?_);clear hK K
        try simp only [Act.put,sLs]
        refine oB 11 rfl (fun K hK=>?_);have B6old:p6 < y4.heap.size:=B6.o.lt
        obtain⟨v11,y5,hrun,ht,hrow⟩:=ZaO ZaG (by decide) underlying27 Zbj rfl (L:=([] ++ L.take k ++ [n])) (M:=L.drop k) 27 HN.o (ZgA ((some ⟨b,off,none⟩)) cap k) (L.length - k) (cap - k) (by simp) (fun e=>HV.o.cutN rfl e) ((HV.o.below HBW.o).from rfl (by omega)) (ZaX _) (by simp;omega) (by decide);refine Zae rfl (.tmp 40) (.tmp 43) 27 rfl rfl rfl hrun ?_;have hzy5:=ht.size;replace B6:=Zaa (b6T B6.o ht HSS.o);have HBX:=Zaa (bwT HBW.o ht fun k h=>(HSS.o k h).1);replace HSS:=Zaa (bwS HBW.o ht HSS.o B6old);replace HBW:=HBX;replace HN:=Zaa hrow;clear HBX hrow ht hrun B6old;refine hK.out _ _ (fun _=>trivial) (fun _=>?_);clear hK K
        try simp only [Act.put,sLs]
        refine oB 12 rfl (fun K hK=>?_)
        go_simp
        refine hK.out _ _ (fun h=>absurd (by decide) h) (fun _=>?_);clear hK K
        try simp only [Act.put,sLs]
        refine Zak (by kernel_rfl) ?_ _;refine NoPanic.normal ?_
        have HFin:Hd (ZaK inL 1 y5 w.heap.size y5.heap.size v11 (Zcf L n)):=by
         unfold Hd;rw [HE.o]
         rcases HN.o with ⟨_,h⟩ | ⟨g,hg,g',c',e1,e2⟩
         . simp at h
         . have:=HSS.o g hg
           have a1:=e2.bs;have a2:=e2.up;exact⟨g',c',e1,⟨by omega,e2.lt,e2.lt,e2.le,e2.mx,e2.th,e2.fz,e2.rg⟩⟩
        go_wp2;go_ret;exact⟨_,rfl,HBW.o,Or.inr HFin.o⟩
  . have hp:Zfa L n=k:=Zgj (by omega) HAL.o (fun h=>absurd h hlt)
    have HP:=Zaa hp;have hkl:k=L.length:=by omega
    have HE:Hd (Zcf L n=L.take k ++ [n] ++ L.drop k):=by unfold Hd Zcf;rw [HP.o,hkl,if_neg (by simp)]
    have d3:decide ((k:Int) < (L.length:Int))=false:=by simp;omega
    have HKL:=Zaa hkl;clear hkl hp;have hkle:k<=L.length:=hk
    go_upto_region 6 with fail
    clear d3 hlt;have hkc:k<=cap:=by omega
    refine Code.wp_mono NoPanic.imp ?_;refine Zao (S:=fun _=>True) [12] (by kernel_rfl) trivial (fun hHeld=>?_);refine tB 1 (.slice a L.length cap) [3,4,7,11,12] rfl hHeld ?_
    try simp only [Act.put,sLs]
    refine tB 2 (.int .i64 (k:Int)) [3,4,7,11,12] rfl hHeld ?_
    try simp only [Act.put,sLs]
    refine tB 3 (.slice a k cap) [4,7,11,12] rfl hHeld ?_
    try simp only [Act.put,sLs]
    refine tB 5 (.int .i64 n) [6,7,11,12] rfl hHeld ?_
    try simp only [Act.put,sLs]
    refine tB 8 (.slice a L.length cap) [10,11,12] rfl hHeld ?_
    try simp only [Act.put,sLs]
    refine tB 9 (.int .i64 (k:Int)) [10,11,12] rfl hHeld ?_
    try simp only [Act.put,sLs]
    refine tB 10 (.slice (ZgA a cap k) (L.length - k) (cap - k)) [11,12] rfl hHeld ?_ (hy:=ZdQ (by rfl) (.tmp 41) (.tmp 42) rfl _ L.length cap k rfl rfl (by omega))
    try simp only [Act.put,sLs]
    have HBW:Hd (Zw_ w w):=Below.refl _ _;refine ZbM (i:=0) (i':=6) (by kernel_rfl) rfl rfl (fun K hK=>?_) (fun K hK=>?_)
    . skip
      go_simp
      obtain⟨y1,hy⟩:∃ y,y=(w.alloc (.cells #[] 3)).drew:=⟨_,rfl⟩
      have hb:Zw_ w y1:=by rw [hy];exact (Zab _ _).drew
      have hf:FR inL 1 y1 w.heap.size (w.heap.size+1) w.heap.size 0 []:=by rw [hy];exact (Zbx inL 1 w #[] 3 0 rfl Zz_).below (Zb_.drew)
      have hzy1:w.heap.size < y1.heap.size:=hf.lt
      rw [<- hy];clear hy;replace HBW:Hd (Zw_ w y1):=bt HBW.o hb;have HN:Hd (NRS inL 1 y1 (fun k=>k=w.heap.size) (.slice (some ⟨w.heap.size,0,none⟩) 0 0) []):=Or.inr ⟨_,rfl,_,0,rfl,hf⟩;have HSS:Hd (∀ k,(fun k=>k=w.heap.size) k->w.heap.size<=k/\k < y1.heap.size):=fun k hk=>by dsimp only at hk;subst hk;exact⟨by omega,hzy1⟩
      clear hf hb;refine hK.out _ _ (fun _=>trivial) (fun _=>?_);clear hK K
      try simp only [Act.put,sLs]
      refine ZbM (i:=4) (i':=6) (by kernel_rfl) rfl rfl (fun K hK=>?_) (fun K hK=>?_)
      . skip
        obtain⟨v4,y2,hrun,ht,hrow⟩:=ZaO ZaG (by decide) underlying27 Zbj rfl (L:=[]) (M:=L.take k) 27 HN.o (a) k cap (by simp;omega) (fun e=>by have:=(HV.o.nilN e);omega) ((HV.o.below HBW.o).takeS k) (ZaX _) (by simp;omega) (by decide);refine Zae rfl (.tmp 33) (.tmp 36) 27 rfl rfl rfl hrun ?_;have hzy2:=ht.size;have HBX:=Zaa (bwT HBW.o ht fun k h=>(HSS.o k h).1);replace HSS:=Zaa (bwR HBW.o ht HSS.o);replace HBW:=HBX;replace HN:=Zaa hrow;clear HBX hrow ht hrun;refine hK.out _ _ (fun _=>trivial) (fun _=>?_);clear hK K
        try simp only [Act.put,sLs]
        refine oB 6 rfl (fun K hK=>?_)
        go_simp
        obtain⟨y3,hy⟩:∃ y,y=y2.alloc (.cells #[.int .i64 n] 3):=⟨_,rfl⟩
        have hb:Below y2.heap.size y2 y3:=by rw [hy];exact Zab _ _
        obtain⟨p6,hp6⟩:∃ p,p=y2.heap.size:=⟨_,rfl⟩
        have B6:Hd (Box y3 p6 #[.int .i64 n]):=by unfold Hd;rw [hp6,hy];exact Box.new _ _ _ _ rfl
        have hzy3:y2.heap.size < y3.heap.size:=by have:=B6.o.lt;omega
        rw [<- hy];rw [<- hp6];have h6n:p6 < y3.heap.size:=B6.o.lt
        replace HN:=Zaa (HN.o.kept (Zag.below hb (fun _ h=>h)) (fun k hk=>(HSS.o k hk).2));have HSS2:Hd (∀ k,(Gr (fun k=>k=w.heap.size) y1 y2) k->w.heap.size<=k/\k < y3.heap.size/\k≠p6):=fun k hk=>by have:=HSS.o k hk;omega
        clear HSS;have HSS:=HSS2;clear HSS2;clear hy hp6;replace HBW:Hd (Zw_ w y3):=bt HBW.o hb;clear hb;refine hK.out _ _ (fun _=>trivial) (fun _=>?_);clear hK K
        try simp only [Act.put,sLs]
        refine oB 7 rfl (fun K hK=>?_);have B6old:p6 < y3.heap.size:=B6.o.lt
        obtain⟨v7,y4,hrun,ht,hrow⟩:=ZaO ZaG (by decide) underlying27 Zbj rfl (L:=([] ++ L.take k)) (M:=[n]) 27 HN.o (some ⟨p6,0,none⟩) 1 1 rfl (fun e=>by cases e) (fun ad e j u hu=>by injection e with e;subst e;rw [Addr.add_lit,Nat.zero_add,B6.o.cell j];simpa [Zai,inL] using hu) (ZaX _) (by simp;omega) (by decide);refine Zae rfl (.tmp 37) (.tmp 39) 27 rfl rfl rfl hrun ?_;have hzy4:=ht.size;replace B6:=Zaa (b6T B6.o ht HSS.o);have HBX:=Zaa (bwT HBW.o ht fun k h=>(HSS.o k h).1);replace HSS:=Zaa (bwS HBW.o ht HSS.o B6old);replace HBW:=HBX;replace HN:=Zaa hrow;clear HBX hrow ht hrun B6old;refine hK.out _ _ (fun _=>trivial) (fun _=>?_);clear hK K
        try simp only [Act.put,sLs]
        refine oB 11 rfl (fun K hK=>?_);have B6old:p6 < y4.heap.size:=B6.o.lt
        obtain⟨v11,y5,hrun,ht,hrow⟩:=ZaO ZaG (by decide) underlying27 Zbj rfl (L:=([] ++ L.take k ++ [n])) (M:=L.drop k) 27 HN.o (ZgA (a) cap k) (L.length - k) (cap - k) (by simp) (fun e=>HV.o.cutN rfl e) ((HV.o.below HBW.o).from rfl (by omega)) (ZaX _) (by simp;omega) (by decide);refine Zae rfl (.tmp 40) (.tmp 43) 27 rfl rfl rfl hrun ?_;have hzy5:=ht.size;replace B6:=Zaa (b6T B6.o ht HSS.o);have HBX:=Zaa (bwT HBW.o ht fun k h=>(HSS.o k h).1);replace HSS:=Zaa (bwS HBW.o ht HSS.o B6old);replace HBW:=HBX;replace HN:=Zaa hrow;clear HBX hrow ht hrun B6old;refine hK.out _ _ (fun _=>trivial) (fun _=>?_);clear hK K
        try simp only [Act.put,sLs]
        refine oB 12 rfl (fun K hK=>?_)
        go_simp
        refine hK.out _ _ (fun h=>absurd (by decide) h) (fun _=>?_);clear hK K
        try simp only [Act.put,sLs]
        refine Zak (by kernel_rfl) ?_ _;refine NoPanic.normal ?_
        have HFin:Hd (ZaK inL 1 y5 w.heap.size y5.heap.size v11 (Zcf L n)):=by
         unfold Hd;rw [HE.o]
         rcases HN.o with ⟨_,h⟩ | ⟨g,hg,g',c',e1,e2⟩
         . simp at h
         . have:=HSS.o g hg
           have a1:=e2.bs;have a2:=e2.up;exact⟨g',c',e1,⟨by omega,e2.lt,e2.lt,e2.le,e2.mx,e2.th,e2.fz,e2.rg⟩⟩
        go_wp2;go_ret;exact⟨_,rfl,HBW.o,Or.inr HFin.o⟩
      . skip
        go_simp
        obtain⟨y2,hy⟩:∃ y,y=y1.alloc (.cells #[.int .i64 n] 3):=⟨_,rfl⟩
        have hb:Below y1.heap.size y1 y2:=by rw [hy];exact Zab _ _
        obtain⟨p6,hp6⟩:∃ p,p=y1.heap.size:=⟨_,rfl⟩
        have B6:Hd (Box y2 p6 #[.int .i64 n]):=by unfold Hd;rw [hp6,hy];exact Box.new _ _ _ _ rfl
        have hzy2:y1.heap.size < y2.heap.size:=by have:=B6.o.lt;omega
        rw [<- hy];rw [<- hp6];have h6n:p6 < y2.heap.size:=B6.o.lt
        replace HN:=Zaa (HN.o.kept (Zag.below hb (fun _ h=>h)) (fun k hk=>(HSS.o k hk).2));have HSS2:Hd (∀ k,(fun k=>k=w.heap.size) k->w.heap.size<=k/\k < y2.heap.size/\k≠p6):=fun k hk=>by have:=HSS.o k hk;omega
        clear HSS;have HSS:=HSS2;clear HSS2;clear hy hp6;replace HBW:Hd (Zw_ w y2):=bt HBW.o hb;clear hb;refine hK.out _ _ (fun _=>trivial) (fun _=>?_);clear hK K
        try simp only [Act.put,sLs]
        refine oB 4 rfl (fun K hK=>?_);have B6old:p6 < y2.heap.size:=B6.o.lt
        obtain⟨v4,y3,hrun,ht,hrow⟩:=ZaO ZaG (by decide) underlying27 Zbj rfl (L:=[]) (M:=L.take k) 27 HN.o (a) k cap (by simp;omega) (fun e=>by have:=(HV.o.nilN e);omega) ((HV.o.below HBW.o).takeS k) (ZaX _) (by simp;omega) (by decide);refine Zae rfl (.tmp 33) (.tmp 36) 27 rfl rfl rfl hrun ?_;have hzy3:=ht.size;replace B6:=Zaa (b6T B6.o ht HSS.o);have HBX:=Zaa (bwT HBW.o ht fun k h=>(HSS.o k h).1);replace HSS:=Zaa (bwS HBW.o ht HSS.o B6old);replace HBW:=HBX;replace HN:=Zaa hrow;clear HBX hrow ht hrun B6old;refine hK.out _ _ (fun _=>trivial) (fun _=>?_);clear hK K
        try simp only [Act.put,sLs]
        refine oB 7 rfl (fun K hK=>?_);have B6old:p6 < y3.heap.size:=B6.o.lt
        obtain⟨v7,y4,hrun,ht,hrow⟩:=ZaO ZaG (by decide) underlying27 Zbj rfl (L:=([] ++ L.take k)) (M:=[n]) 27 HN.o (some ⟨p6,0,none⟩) 1 1 rfl (fun e=>by cases e) (fun ad e j u hu=>by injection e with e;subst e;rw [Addr.add_lit,Nat.zero_add,B6.o.cell j];simpa [Zai,inL] using hu) (ZaX _) (by simp;omega) (by decide);refine Zae rfl (.tmp 37) (.tmp 39) 27 rfl rfl rfl hrun ?_;have hzy4:=ht.size;replace B6:=Zaa (b6T B6.o ht HSS.o);have HBX:=Zaa (bwT HBW.o ht fun k h=>(HSS.o k h).1);replace HSS:=Zaa (bwS HBW.o ht HSS.o B6old);replace HBW:=HBX;replace HN:=Zaa hrow;clear HBX hrow ht hrun B6old;refine hK.out _ _ (fun _=>trivial) (fun _=>?_);clear hK K
        try simp only [Act.put,sLs]
        refine oB 11 rfl (fun K hK=>?_);have B6old:p6 < y4.heap.size:=B6.o.lt
        obtain⟨v11,y5,hrun,ht,hrow⟩:=ZaO ZaG (by decide) underlying27 Zbj rfl (L:=([] ++ L.take k ++ [n])) (M:=L.drop k) 27 HN.o (ZgA (a) cap k) (L.length - k) (cap - k) (by simp) (fun e=>HV.o.cutN rfl e) ((HV.o.below HBW.o).from rfl (by omega)) (ZaX _) (by simp;omega) (by decide);refine Zae rfl (.tmp 40) (.tmp 43) 27 rfl rfl rfl hrun ?_;have hzy5:=ht.size;replace B6:=Zaa (b6T B6.o ht HSS.o);have HBX:=Zaa (bwT HBW.o ht fun k h=>(HSS.o k h).1);replace HSS:=Zaa (bwS HBW.o ht HSS.o B6old);replace HBW:=HBX;replace HN:=Zaa hrow;clear HBX hrow ht hrun B6old;refine hK.out _ _ (fun _=>trivial) (fun _=>?_);clear hK K
        try simp only [Act.put,sLs]
        refine oB 12 rfl (fun K hK=>?_)
        go_simp
        refine hK.out _ _ (fun h=>absurd (by decide) h) (fun _=>?_);clear hK K
        try simp only [Act.put,sLs]
        refine Zak (by kernel_rfl) ?_ _;refine NoPanic.normal ?_
        have HFin:Hd (ZaK inL 1 y5 w.heap.size y5.heap.size v11 (Zcf L n)):=by
         unfold Hd;rw [HE.o]
         rcases HN.o with ⟨_,h⟩ | ⟨g,hg,g',c',e1,e2⟩
         . simp at h
         . have:=HSS.o g hg
           have a1:=e2.bs;have a2:=e2.up;exact⟨g',c',e1,⟨by omega,e2.lt,e2.lt,e2.le,e2.mx,e2.th,e2.fz,e2.rg⟩⟩
        go_wp2;go_ret;exact⟨_,rfl,HBW.o,Or.inr HFin.o⟩
    . skip
      go_simp
      obtain⟨y1,hy⟩:∃ y,y=(w.alloc (.cells #[.int .i64 n] 3)).drew:=⟨_,rfl⟩
      have hb:Zw_ w y1:=by rw [hy];exact (Zab _ _).drew
      obtain⟨p6,hp6⟩:∃ p,p=w.heap.size:=⟨_,rfl⟩
      have B6:Hd (Box y1 p6 #[.int .i64 n]):=by unfold Hd;rw [hp6,hy];exact (Box.new w _ _ _ rfl).drew
      have hzy1:w.heap.size < y1.heap.size:=by have:=B6.o.lt;omega
      rw [<- hy];rw [<- hp6];have h6n:p6 < y1.heap.size:=B6.o.lt
      clear hy hp6;replace HBW:Hd (Zw_ w y1):=bt HBW.o hb;clear hb;refine hK.out _ _ (fun _=>trivial) (fun _=>?_);clear hK K
      try simp only [Act.put,sLs]
      refine oB 0 rfl (fun K hK=>?_)
      go_simp
      obtain⟨y2,hy⟩:∃ y,y=y1.alloc (.cells #[] 3):=⟨_,rfl⟩
      have hb:Below y1.heap.size y1 y2:=by rw [hy];exact Zab _ _
      have hf:FR inL 1 y2 y1.heap.size (y1.heap.size+1) y1.heap.size 0 []:=by rw [hy];exact Zbx inL 1 _ #[] 3 0 rfl Zz_
      have hzy2:y1.heap.size < y2.heap.size:=hf.lt
      rw [<- hy];clear hy;replace B6:=Zaa (B6.o.on hb);replace HBW:Hd (Zw_ w y2):=bt HBW.o hb;have HN:Hd (NRS inL 1 y2 (fun k=>k=y1.heap.size) (.slice (some ⟨y1.heap.size,0,none⟩) 0 0) []):=Or.inr ⟨_,rfl,_,0,rfl,hf⟩;have HSS:Hd (∀ k,(fun k=>k=y1.heap.size) k->w.heap.size<=k/\k < y2.heap.size/\k≠p6):=fun k hk=>by dsimp only at hk;subst hk;exact⟨by omega,hzy2,by omega⟩
      clear hf hb;refine hK.out _ _ (fun _=>trivial) (fun _=>?_);clear hK K
      try simp only [Act.put,sLs]
      refine oB 4 rfl (fun K hK=>?_);have B6old:p6 < y2.heap.size:=B6.o.lt
      obtain⟨v4,y3,hrun,ht,hrow⟩:=ZaO ZaG (by decide) underlying27 Zbj rfl (L:=[]) (M:=L.take k) 27 HN.o (a) k cap (by simp;omega) (fun e=>by have:=(HV.o.nilN e);omega) ((HV.o.below HBW.o).takeS k) (ZaX _) (by simp;omega) (by decide);refine Zae rfl (.tmp 33) (.tmp 36) 27 rfl rfl rfl hrun ?_;have hzy3:=ht.size;replace B6:=Zaa (b6T B6.o ht HSS.o);have HBX:=Zaa (bwT HBW.o ht fun k h=>(HSS.o k h).1);replace HSS:=Zaa (bwS HBW.o ht HSS.o B6old);replace HBW:=HBX;replace HN:=Zaa hrow;clear HBX hrow ht hrun B6old;refine hK.out _ _ (fun _=>trivial) (fun _=>?_);clear hK K
      try simp only [Act.put,sLs]
      refine oB 7 rfl (fun K hK=>?_);have B6old:p6 < y3.heap.size:=B6.o.lt
      obtain⟨v7,y4,hrun,ht,hrow⟩:=ZaO ZaG (by decide) underlying27 Zbj rfl (L:=([] ++ L.take k)) (M:=[n]) 27 HN.o (some ⟨p6,0,none⟩) 1 1 rfl (fun e=>by cases e) (fun ad e j u hu=>by injection e with e;subst e;rw [Addr.add_lit,Nat.zero_add,B6.o.cell j];simpa [Zai,inL] using hu) (ZaX _) (by simp;omega) (by decide);refine Zae rfl (.tmp 37) (.tmp 39) 27 rfl rfl rfl hrun ?_;have hzy4:=ht.size;replace B6:=Zaa (b6T B6.o ht HSS.o);have HBX:=Zaa (bwT HBW.o ht fun k h=>(HSS.o k h).1);replace HSS:=Zaa (bwS HBW.o ht HSS.o B6old);replace HBW:=HBX;replace HN:=Zaa hrow;clear HBX hrow ht hrun B6old;refine hK.out _ _ (fun _=>trivial) (fun _=>?_);clear hK K
      try simp only [Act.put,sLs]
      refine oB 11 rfl (fun K hK=>?_);have B6old:p6 < y4.heap.size:=B6.o.lt
      obtain⟨v11,y5,hrun,ht,hrow⟩:=ZaO ZaG (by decide) underlying27 Zbj rfl (L:=([] ++ L.take k ++ [n])) (M:=L.drop k) 27 HN.o (ZgA (a) cap k) (L.length - k) (cap - k) (by simp) (fun e=>HV.o.cutN rfl e) ((HV.o.below HBW.o).from rfl (by omega)) (ZaX _) (by simp;omega) (by decide);refine Zae rfl (.tmp 40) (.tmp 43) 27 rfl rfl rfl hrun ?_;have hzy5:=ht.size;replace B6:=Zaa (b6T B6.o ht HSS.o);have HBX:=Zaa (bwT HBW.o ht fun k h=>(HSS.o k h).1);replace HSS:=Zaa (bwS HBW.o ht HSS.o B6old);replace HBW:=HBX;replace HN:=Zaa hrow;clear HBX hrow ht hrun B6old;refine hK.out _ _ (fun _=>trivial) (fun _=>?_);clear hK K
      try simp only [Act.put,sLs]
      refine oB 12 rfl (fun K hK=>?_)
      go_simp
      refine hK.out _ _ (fun h=>absurd (by decide) h) (fun _=>?_);clear hK K
      try simp only [Act.put,sLs]
      refine Zak (by kernel_rfl) ?_ _;refine NoPanic.normal ?_
      have HFin:Hd (ZaK inL 1 y5 w.heap.size y5.heap.size v11 (Zcf L n)):=by
       unfold Hd;rw [HE.o]
       rcases HN.o with ⟨_,h⟩ | ⟨g,hg,g',c',e1,e2⟩
       . simp at h
       . have:=HSS.o g hg
         have a1:=e2.bs;have a2:=e2.up;exact⟨g',c',e1,⟨by omega,e2.lt,e2.lt,e2.le,e2.mx,e2.th,e2.fz,e2.rg⟩⟩
      go_wp2;go_ret;exact⟨_,rfl,HBW.o,Or.inr HFin.o⟩
end
def Zj5 (U:Rr) (a:Ra):Bool:=(a.ix == U.dk.kn+1)&&(decide (U.of < 2*(a.fr.length:Int))&&(decide (a.ix<=(U.dk.sl.length:Int))&&(match U.dk.sl[(a.ix - 1).toNat]? with | some s=>s.ba == U.ba | none=>false)))
def adv1 (U:Rr) (a:Ra):Rr:=if Zj5 U a then { U with dk:={ U.dk with kn:=a.ix } } else U
def ZfX (U:Rr) (i:Nat):Rr:=(U.ac.take i).foldl adv1 U
def ZcI (U:Rr):Rr:=U.ac.foldl adv1 U
structure Zjd (U V:Rr):Prop where
 e:V={ U with dk:={ U.dk with kn:=V.dk.kn } }
 k0:0<=V.dk.kn
 k1:V.dk.kn<=1000
theorem ZkC {U V:Rr} (h:Zjd U V) (a:Ra) (ha:1<=a.ix/\a.ix<=1000):Zjd U (adv1 V a):=by
 unfold adv1
 split
 . exact⟨by rw [h.e],by show 0<=a.ix;omega,by show a.ix<=1000;omega⟩
 . exact h
theorem Zdn {U:Rr} {i:Nat} (h:i < U.ac.length):ZfX U (i+1)=adv1 (ZfX U i) U.ac[i]:=by
 unfold ZfX;rw [List.take_succ_eq_append_getElem h,List.foldl_append]
 rfl
theorem Zgy (U:Rr):ZfX U U.ac.length=ZcI U:=by unfold ZfX ZcI;rw [List.take_length]
theorem ZhF {U:Rr} (h0:0<=U.dk.kn) (h1:U.dk.kn<=1000) (ha:∀ i (h:i < U.ac.length),1<=U.ac[i].ix/\U.ac[i].ix<=1000):∀ i,i<=U.ac.length->Zjd U (ZfX U i):=by
 intro i
 induction i with
 | zero=>intro _;exact⟨rfl,h0,h1⟩
 | succ i ih=>intro hi;rw [Zdn (by omega)];exact ZkC (ih (by omega)) _ (ha i (by omega))
theorem ZeW (K:Nat->Prop) (lo:Nat) (w:World) (U:Rr) (b:Nat->Option Addr) (m:Nat->Nat) (S:Nat->Nat->Prop) (h:Cz K lo w b m S U) (h0:0<=U.dk.kn) (h1:U.dk.kn<=1000) (ha:∀ i (h:i < U.ac.length),1<=U.ac[i].ix/\U.ac[i].ix<=1000) (hl:U.ac.length<=1000000) (hf:∀ i (h:i < U.ac.length),U.ac[i].fr.length<=1048576) (_hsl:U.dk.sl.length<=1048576) :
 Calls prog 109 #[.agg (rrF U b m).toArray] w fun e w'=>∃ b' m' S',e=.returned (.agg (rrF (ZcI U) b' m').toArray)/\Zag K w w'/\Cz K lo w' b' m' S' (ZcI U):=by
 have HC:=Zaa h;have HKw:Hd (∀ k,K k->k < w.heap.size):=fun k hk=>(h.prot k hk).1
 obtain⟨cs,hcs⟩:∃ cs,cs=rrF U b m:=⟨_,rfl⟩
 rw [<- hcs];have HCS:=Zaa hcs;clear hcs h;go_enter func109,ntmps109
 go_upto_region 1 with fail
 obtain⟨wz,hwz,FB,RB,HB⟩:∃ wz,wz=(w.alloc (.cells cs.toArray 41)).alloc (.cells zR 41)/\Hd (Box wz w.heap.size (rrF U b m).toArray)/\Hd (Box wz (w.heap.size+1) zR)/\Hd (Zw_ w wz):=⟨_,rfl,by unfold Hd;rw [<- HCS.o];exact ((Box.new w _ _ _ rfl).on (Zab _ _)),Box.new _ _ _ _ (by simp),(bt (Zab _ _) (Zab _ _))⟩
 rw [<- hwz];clear hwz;have hwn:w.heap.size+2<=wz.heap.size:=by have:=RB.o.lt;omega
 have HR:Hd (Rz (fun k=>K k\/(w.heap.size+1<=k/\k < w.heap.size+2)) lo wz w.heap.size b m S U):=HC.o.rz HB.o FB.o Zl_ (fun k hk=>hk.imp (fun h=>h) (fun h=>⟨by omega,by omega,by omega⟩));have HKP:Hd (Zag K w wz):=Zag.below HB.o HKw.o;clear FB HB;have HAO:=Zaa (ZhF h0 h1 ha);have HAI:=Zaa ha;have HFL:=Zaa hf;clear ha hf
 go_upto_region 2 with fail
 go_loopw [3] (fun iv wr=>∃ (i:Nat) (b':Nat->Option Addr) (m':Nat->Nat) (S':Nat->Nat->Prop),iv=.int .i64 i/\i<=U.ac.length/\Rz (fun k=>K k\/(w.heap.size+1<=k/\k < w.heap.size+2)) lo wr w.heap.size b' m' S' (ZfX U i)/\Zag K w wr/\w.heap.size+2<=wr.heap.size/\Box wr (w.heap.size+1) zR) (fun iv _=>U.ac.length - (intOf iv).toNat)
 case atStart=>exact⟨0,b,m,S,rfl,by omega,HR.o,HKP.o,hwn,RB.o⟩
 case round=>
  obtain⟨i,b5,m5,S5,rfl,hi,hr,hkp,hsz,hrb⟩:=hrel;clear HR HKP RB;have HR:=Zaa hr;have HKP:=Zaa hkp;have RB:=Zaa hrb;clear hr hkp hrb;obtain⟨V,hV⟩:∃ V,V=ZfX U i:=⟨_,rfl⟩
  rw [<- hV] at HR;have hof:=HAO.o i hi;rw [<- hV] at hof;have HV:=Zaa hV;clear hV;have hac:V.ac=U.ac:=by rw [hof.e]
  have hvsl:V.dk.sl=U.dk.sl:=by rw [hof.e]
  have hvk0:=hof.k0;have hvk1:=hof.k1;have x16:wr.cell? ⟨w.heap.size,16,none⟩=some (.slice (b5 6) U.ac.length (m5 6)):=by rw [HR.o.box.cell 16,<- hac];rfl
  by_cases hlt:i < U.ac.length
  . have i0:(0:Int)<=(i:Int):=by omega
    have i1:(i:Int) < (U.ac.length:Int):=by omega
    obtain⟨L6,h6,hmap⟩:=HR.o.cp.o6;rw [hac] at h6 hmap;have hl6:L6.length=U.ac.length:=by rw [<- hmap,List.length_map]
    rcases h6 with ⟨-,hnil⟩ | ⟨g,c6,hSg,⟨g',cap,hv,hfr⟩,hinn⟩
    . rw [hnil] at hl6;simp at hl6;omega
    obtain rfl:g'=g:=by have:=hfr.bs;have:=hfr.up;omega
    have hi6:i < L6.length:=by omega
    have hxi:L6[i].1=U.ac[i]:=by
     have:=congrArg (fun l=>l[i]?) hmap;simp only [List.getElem?_map,List.getElem?_eq_getElem hi6,List.getElem?_eq_getElem hlt,Option.map_some,Option.some.injEq] at this;exact this
    obtain⟨A,hA⟩:∃ A,A=U.ac[i]:=⟨_,rfl⟩
    obtain⟨X6,hX6⟩:∃ X,X=L6[i]:=⟨_,rfl⟩
    have hXA:X6.1=A:=by rw [hX6,hA];exact hxi
    have r0:wr.cell? ⟨g',i*2,none⟩=some (.int .i64 A.ix):=by rw [<- hXA,hX6];exact hfr.get Zat hi6 (t:=0) (by omega) rfl
    have r1:wr.cell? ⟨g',i*2+1,none⟩=some (.slice X6.2.1 A.fr.length X6.2.2):=by rw [<- hXA,hX6];exact hfr.get Zat hi6 (t:=1) (by omega) rfl
    injection hv with hv1 hv2 hv3
    rw [hv1] at x16;have hA1:=HAI.o i hlt;have hA2:=HFL.o i hlt;rw [<- hA] at hA1 hA2;have HA:=Zaa hA;clear hfr hinn hmap hxi hX6 hXA hA hv1 hv2 hv3 hl6 hi6;obtain⟨X61,hX61⟩:∃ q,q=X6.2.1:=⟨_,rfl⟩
    obtain⟨X62,hX62⟩:∃ q,q=X6.2.2:=⟨_,rfl⟩
    rw [<- hX61,<- hX62] at r1;clear hX61 hX62
    go_upto_region 5 with fail
    clear x16 r0 r1;obtain⟨w2,hw2,QB,HB2⟩:∃ w2,w2=wr.alloc (.cells #[.int .i64 A.ix,.slice X61 A.fr.length X62] 105)/\Hd (Box w2 wr.heap.size #[.int .i64 A.ix,.slice X61 A.fr.length X62])/\Hd (Below wr.heap.size wr w2):=⟨_,rfl,Box.new _ _ _ _ rfl,Zab _ _⟩
    rw [<- hw2];clear hw2;have hs2:=HB2.o.size;replace HR:=Zaa (HR.o.on HB2.o);replace RB:=Zaa (RB.o.on HB2.o);replace HKP:Hd (Zag K w w2):=HKP.o.trans (Zag.below HB2.o (fun k hk=>by have:=HKw.o k hk;omega));clear HB2;have a0:w2.cell? ⟨wr.heap.size,0,none⟩=some (.int .i64 A.ix):=QB.o.cell 0;have a1:w2.cell? ⟨wr.heap.size,1,none⟩=some (.slice X61 A.fr.length X62):=QB.o.cell 1;have x1:w2.cell? ⟨w.heap.size,1,none⟩=some (.int .i64 V.of):=HR.o.box.cell 1;have x7:w2.cell? ⟨w.heap.size,7,none⟩=some (.int .i64 V.dk.kn):=HR.o.box.cell 7;have x8:w2.cell? ⟨w.heap.size,8,none⟩=some (.slice (b5 1) U.dk.sl.length (m5 1)):=by rw [HR.o.box.cell 8,<- hvsl];rfl
    have x13:w2.cell? ⟨w.heap.size,13,none⟩=some (.int .i64 V.ba):=HR.o.box.cell 13;have wk:IntKind.wrap .i64 (V.dk.kn+1)=V.dk.kn+1:=by rw [IntKind.wrap_i64];omega
    have wf:IntKind.wrap .i64 (2*(A.fr.length:Int))=2*(A.fr.length:Int):=by rw [IntKind.wrap_i64];omega
    have HAB:Hd (Zj5 V A=((A.ix == V.dk.kn+1)&&(decide (V.of < 2*(A.fr.length:Int))&&(decide (A.ix<=(U.dk.sl.length:Int))&&(match U.dk.sl[(A.ix - 1).toNat]? with | some s=>s.ba == V.ba | none=>false))))):=by unfold Hd Zj5;rw [hvsl]
    have HST:Hd (∀ W,Below w2.heap.size w2 W->adv1 V A=V->(∃ b' m' S',Rz (fun k=>K k\/(w.heap.size+1<=k/\k < w.heap.size+2)) lo W w.heap.size b' m' S' (ZfX U (i+1)))/\Zag K w W/\w.heap.size+2<=W.heap.size/\Box W (w.heap.size+1) zR):=fun W hb he=>by
     refine⟨⟨b5,m5,S5,?_⟩,HKP.o.trans (Zag.below hb (fun k hk=>by have:=HKw.o k hk;omega)),by have:=hb.size;omega,RB.o.on hb⟩;rw [Zdn hlt,<- HV.o,<- HA.o,he];exact HR.o.on hb
    cases q1:(A.ix == V.dk.kn+1) with
    | false=>
     have HE:Hd (adv1 V A=V):=by unfold Hd adv1;rw [HAB.o,q1];rfl
     go_quiet (fail)
     obtain⟨w3,hw3⟩:∃ w3,w3=w2.drewN nq:=⟨_,rfl⟩
     have hb3:Below w2.heap.size w2 w3:=by rw [hw3];exact below_drewN Zb_ _
     rw [<- hw3];clear hw3 a0 a1 x1 x7 x8 x13;go_wp2;go_roundw
     . 
      obtain⟨⟨b1,m1,S1,e1⟩,e2,e3,e4⟩:=HST.o w3 hb3 HE.o;exact⟨i+1,b1,m1,S1,by go_num,by omega,e1,e2,e3,e4⟩
     . simp [intOf];omega
    | true=>
    by_cases h2:V.of < 2*(A.fr.length:Int)
    case neg=>
     have d2:decide (V.of < 2*(A.fr.length:Int))=false:=decide_eq_false h2;have HE:Hd (adv1 V A=V):=by unfold Hd adv1;rw [HAB.o,q1,d2];rfl
     go_quiet (fail)
     obtain⟨w3,hw3⟩:∃ w3,w3=w2.drewN nq:=⟨_,rfl⟩
     have hb3:Below w2.heap.size w2 w3:=by rw [hw3];exact below_drewN Zb_ _
     rw [<- hw3];clear hw3 a0 a1 x1 x7 x8 x13;go_wp2;go_roundw
     . 
      obtain⟨⟨b1,m1,S1,e1⟩,e2,e3,e4⟩:=HST.o w3 hb3 HE.o;exact⟨i+1,b1,m1,S1,by go_num,by omega,e1,e2,e3,e4⟩
     . simp [intOf];omega
    have d2:decide (V.of < 2*(A.fr.length:Int))=true:=decide_eq_true h2
    by_cases h3:A.ix<=(U.dk.sl.length:Int)
    case neg=>
     have d3:decide (A.ix<=(U.dk.sl.length:Int))=false:=decide_eq_false h3;have HE:Hd (adv1 V A=V):=by unfold Hd adv1;rw [HAB.o,q1,d2,d3];rfl
     go_quiet (fail)
     obtain⟨w3,hw3⟩:∃ w3,w3=w2.drewN nq:=⟨_,rfl⟩
     have hb3:Below w2.heap.size w2 w3:=by rw [hw3];exact below_drewN Zb_ _
     rw [<- hw3];clear hw3 a0 a1 x1 x7 x8 x13;go_wp2;go_roundw
     . 
      obtain⟨⟨b1,m1,S1,e1⟩,e2,e3,e4⟩:=HST.o w3 hb3 HE.o;exact⟨i+1,b1,m1,S1,by go_num,by omega,e1,e2,e3,e4⟩
     . simp [intOf];omega
    have d3:decide (A.ix<=(U.dk.sl.length:Int))=true:=decide_eq_true h3;obtain⟨q,hq⟩:∃ q:Nat,(q:Int)=A.ix - 1:=⟨(A.ix - 1).toNat,by omega⟩
    have hql:q < U.dk.sl.length:=by omega
    have hqn:(A.ix - 1).toNat=q:=by omega
    rw [hqn,List.getElem?_eq_getElem hql] at HAB;obtain⟨sq,hsq⟩:∃ x,x=U.dk.sl[q]:=⟨_,rfl⟩
    rw [<- hsq] at HAB;have ho1:=HR.o.cp.o1;rw [hvsl] at ho1
    rcases ho1 with ⟨-,hnil⟩ | ⟨g1,hSg1,g1',cap1,hv,hfr1⟩
    . rw [hnil] at hql;simp at hql
    injection hv with hv1 hv2 hv3
    rw [hv1] at x8;have z0:w2.cell? ⟨g1',q*2,none⟩=some (.int .i64 sq.ba):=by rw [hsq];exact hfr1.get ZaI hql (t:=0) (by omega) rfl
    have j0:(0:Int)<=(q:Int):=by omega
    have j1:(q:Int) < (U.dk.sl.length:Int):=by omega
    have wq:IntKind.wrap .i64 (A.ix - 1)=(q:Int):=by rw [IntKind.wrap_i64];omega
    have HQ:=Zaa hq;clear hfr1 hv1 hv2 hv3 hsq hqn hq
    cases q4:(sq.ba == V.ba) with
    | false=>
     have HE:Hd (adv1 V A=V):=by unfold Hd adv1;rw [HAB.o,q1,d2,d3];simp only [];rw [q4];rfl
     go_quiet (fail)
     obtain⟨w3,hw3⟩:∃ w3,w3=w2.drewN nq:=⟨_,rfl⟩
     have hb3:Below w2.heap.size w2 w3:=by rw [hw3];exact below_drewN Zb_ _
     rw [<- hw3];clear hw3 a0 a1 x1 x7 x8 x13;go_wp2;go_roundw
     . 
      obtain⟨⟨b1,m1,S1,e1⟩,e2,e3,e4⟩:=HST.o w3 hb3 HE.o;exact⟨i+1,b1,m1,S1,by go_num,by omega,e1,e2,e3,e4⟩
     . simp [intOf];omega
    | true=>
     have HE:Hd (adv1 V A={ V with dk:={ V.dk with kn:=A.ix } }):=by unfold Hd adv1;rw [HAB.o,q1,d2,d3];simp only [];rw [q4];rfl
     go_quiet (fail)
     obtain⟨w3,hw3⟩:∃ w3,w3=w2.drewN nq:=⟨_,rfl⟩
     have hb3:Below w2.heap.size w2 w3:=by rw [hw3];exact below_drewN Zb_ _
     rw [<- hw3];clear hw3 a0 a1 x1 x7 x8 x13 z0;have hs3:=hb3.size;replace HR:=Zaa (HR.o.on hb3);replace RB:=Zaa (RB.o.on hb3);replace HKP:Hd (Zag K w w3):=HKP.o.trans (Zag.below hb3 (fun k hk=>by have:=HKw.o k hk;omega));have a0:w3.cell? ⟨wr.heap.size,0,none⟩=some (.int .i64 A.ix):=(QB.o.on hb3).cell 0;have x7:w3.cell? ⟨w.heap.size,7,none⟩=some (.int .i64 V.dk.kn):=HR.o.box.cell 7;have gf:=HR.o.box.free;have HP:=Zaa (HR.o.scal (U':={ V with dk:={ V.dk with kn:=A.ix } }) (j:=7) (v:=.int .i64 A.ix) (by show 7 < 18;omega) rfl (fun _ h=>⟨h.seg,h.ap,h.o0,h.o1,h.o2,h.o3,h.o4,h.o5,h.o6⟩));go_wp2;clear a0 x7 gf;go_roundw
     . 
      exact⟨i+1,b5,m5,S5,by go_num,by omega,by rw [Zdn hlt,<- HV.o,<- HA.o,HE.o];exact HP.o.1,HKP.o.trans (HP.o.2.less fun k hk=>Or.inl hk),by simp [World.setCell];omega,RB.o.setFar (by simp only [];omega) _⟩
     . simp [intOf];omega
  . have hii:i=U.ac.length:=by omega
    have HE:Hd (ZcI U=V):=by unfold Hd;rw [HV.o,hii,Zgy]
    have HII:=Zaa hii;have dn:decide ((i:Int) < (U.ac.length:Int))=false:=by simp;omega
    clear hii
    go_upto_region 7 with fail
    clear x16 dn;obtain⟨b9,m9,S9,yl,HRx,HYL,HRA,HTH,HON,HSy,hy18⟩:=exA (U:=V) HR.o RB.o rfl;clear HR
    go_wp2_with (first
     | (with_reducible refine ldR (.tmp 1) w.heap.size 0 yl HRA.o HSy.o ?_)
     | (with_reducible refine stR (.tmp 2) (.tmp 60) (w.heap.size+1) 0 yl.toArray HTH.o (szN hy18) HON.o ?_;refine Hd.o ?_))
    generalize hW9:World.setCells _ _ _ _=W9;obtain⟨FR9,HKn,HRn⟩:=exB hW9 RB.o hy18 HRx.o (Or.inr (by omega)) HKP.o HKw.o (by omega);clear hW9;refine Zaa ?_;go_wp2;exact bodyPost_ret (v:=.agg yl.toArray) (Zb6 (p:=2) results109 FR9.o HSy.o rfl) rfl ⟨b9,m9,S9,by rw [HYL.o,HE.o],HKn.o,by rw [HE.o];exact HRn.o⟩
variable {U:Rr}
def knB (U:Rr) (mk ba:Int):Bool:=decide (U.dk.kn < mk)&&(decide (U.dk.kn < (U.dk.sl.length:Int))&&(match U.dk.sl[U.dk.kn.toNat]? with | some s=>s.ba == ba | none=>false))
def knF:Nat->Rr->Int->Int->Rr
 | 0,U,_,_=>U
 | n+1,U,mk,ba=>if knB U mk ba then knF n { U with dk:={ U.dk with kn:=U.dk.kn+1 } } mk ba else U
theorem ZjW {mk ba:Int} (h:knB U mk ba=false):∀ n,knF n U mk ba=U
 | 0=>rfl
 | n+1=>by unfold knF;rw [h];rfl
def ZfJ (U:Rr) (M:Rm):Rm:=⟨7,0,M.fr,M.ba,U.dk.kn+1,0,⟨#[]⟩,[]⟩
def ZcJ (M:Rm) (t:Zy_):Rm:=⟨8,0,M.fr,0,0,0,t,[]⟩
def ZbU (U:Rr) (M:Rm):Rr:=if U.dk.kn < M.kn then Zav U (ZfJ U M) else U
def Zbi (U:Rr) (M:Rm) (i:Nat):Rr:=(U.wi.take i).foldl (fun V t=>Zav V (ZcJ M t)) U
def Zcq (U:Rr) (M:Rm):Rr:=if M.fr=U.nu\/M.ba < 1 then U else
 Zbi (ZbU (knF (Zam U M.ba).dk.sl.length (Zam U M.ba) M.kn M.ba) M) M (ZbU (knF (Zam U M.ba).dk.sl.length (Zam U M.ba) M.kn M.ba) M).wi.length
def ZkH:Option Value->Nat
 | some (.int _ k)=>k.toNat
 | _=>0
theorem Zaz {P:Program}{ops:Array Oper}{o:Oper}{a:Act}{w:World}{K:Act->World->Prop}{Q:Exit->Act->World->Prop}{E:Prop} (hgd:o.guard=none) (ty:TypeId) (x y:Operand) (ho:o.op=.store ty x y)
 (b of:Nat) (cells:Array Value) (hx:a.eval x=.pointer (some ⟨b,of,none⟩)) (hy:a.eval y=.agg cells) (ht:w.there b of cells.size) (hi:(P.info? ty).map (·.size)=some cells.size) (h1:cells.all (·.oneCell')=true)
 (h:K (a.put o.dst undef) (w.setCells b of cells.toList)):if Region.wanted o (yielded ops a.tmps)=true then Oper.wp P o a w K Q else E:=by
 have hw:Region.wanted o (yielded ops a.tmps)=true:=by simp [Region.wanted,hgd]
 rw [if_pos hw];exact wp_store_mid ty x y ho b of cells hx hy ht hi h1 h
theorem ZhX (U:Rr) (M:Rm):(Zav U M).wi=U.wi:=by unfold Zav;split <;> rfl
theorem Zd2 (U:Rr) (M:Rm):∀ i,(Zbi U M i).wi=U.wi:=by
 intro i;unfold Zbi;generalize U.wi.take i=L
 induction L generalizing U with
 | nil=>rfl
 | cons x r ih=>rw [List.foldl_cons,ih,ZhX]
theorem Zc5 {M:Rm}{i:Nat} (h:i < U.wi.length):Zbi U M (i+1)=Zav (Zbi U M i) (ZcJ M U.wi[i]):=by
 unfold Zbi;rw [List.take_succ_eq_append_getElem h,List.foldl_append]
 rfl
theorem Zb4 (U:Rr) (x:Int):(Zam U x).dk.sl=U.dk.sl:=by unfold Zam;split <;> rfl
theorem Zfw (U:Rr) (x:Int):(Zam U x).dk.kn=U.dk.kn:=by unfold Zam;split <;> rfl
theorem Zfx (U:Rr) (x:Int):(Zam U x).wi=U.wi:=by unfold Zam;split <;> rfl
theorem Zgg (U:Rr) (M:Rm):(ZbU U M).wi=U.wi:=by unfold ZbU;split <;> first | exact ZhX _ _ | rfl
theorem ZhJ (K:Nat->Prop) (lo:Nat) (w:World) (U:Rr) (b:Nat->Option Addr) (m:Nat->Nat) (S:Nat->Nat->Prop) (M:Rm) (a0:Option Addr) (k0:Nat) (h:Cz K lo w b m S U) (h0:0<=U.dk.kn) (h1:U.dk.kn<=(U.dk.sl.length:Int)) (hl:U.dk.sl.length<=1000) (hmk:M.kn<=1000) (hwl:U.wi.length<=1000) :
 Calls prog 81 #[.agg (rrF U b m).toArray,.agg (rmL M a0 k0).toArray] w fun e w'=>∃ b' m' S',e=.returned (.agg (rrF (Zcq U M) b' m').toArray)/\Zag K w w'/\Cz K lo w' b' m' S' (Zcq U M):=by
 have HC:=Zaa h;have HKw:Hd (∀ k,K k->k < w.heap.size):=fun k hk=>(h.prot k hk).1
 obtain⟨cs,hcs⟩:∃ cs,cs=rrF U b m:=⟨_,rfl⟩
 rw [<- hcs];have HCS:=Zaa hcs;clear hcs h
 show Calls prog 81 #[.agg cs.toArray,.agg #[.int .i64 M.kd,.int .i64 M.fr,.int .i64 M.tt,.int .i64 M.ba,.int .i64 M.ix,.int .i64 M.kn,.string M.tx,.slice a0 M.sl.length k0]] w _
 go_enter func81,ntmps81
 go_upto_region 1 with fail
 obtain⟨wz,hwz,FB,MB,RB,HB⟩:∃ wz,wz=((w.alloc (.cells cs.toArray 41)).alloc (.cells #[.int .i64 M.kd,.int .i64 M.fr,.int .i64 M.tt,.int .i64 M.ba,.int .i64 M.ix,.int .i64 M.kn,.string M.tx,.slice a0 M.sl.length k0] 45)).alloc (.cells zR 41)/\Hd (Box wz w.heap.size (rrF U b m).toArray)/\Hd (Box wz (w.heap.size+1) #[.int .i64 M.kd,.int .i64 M.fr,.int .i64 M.tt,.int .i64 M.ba,.int .i64 M.ix,.int .i64 M.kn,.string M.tx,.slice a0 M.sl.length k0])/\Hd (Box wz (w.heap.size+2) zR)/\Hd (Zw_ w wz):=⟨_,rfl,by unfold Hd;rw [<- HCS.o];exact (((Box.new w _ _ _ rfl).on (Zab _ _)).on (Zab _ _)),((Box.new _ _ _ _ (by simp)).on (Zab _ _)),Box.new _ _ _ _ (by simp),(bt (bt (Zab _ _) (Zab _ _)) (Zab _ _))⟩
 rw [<- hwz];clear hwz;have hwn:w.heap.size+3<=wz.heap.size:=by have:=RB.o.lt;omega
 have HR:Hd (Rz (fun k=>K k\/(w.heap.size+1<=k/\k < w.heap.size+3)) lo wz w.heap.size b m S U):=HC.o.rz HB.o FB.o Zl_ (fun k hk=>hk.imp (fun h=>h) (fun h=>⟨by omega,by omega,by omega⟩));have HKP:Hd (Zag K w wz):=Zag.below HB.o HKw.o;clear FB HB;have y1:wz.cell? ⟨w.heap.size+1,1,none⟩=some (.int .i64 M.fr):=MB.o.cell 1;have y3:wz.cell? ⟨w.heap.size+1,3,none⟩=some (.int .i64 M.ba):=MB.o.cell 3;have x0:wz.cell? ⟨w.heap.size,0,none⟩=some (.int .i64 U.nu):=HR.o.box.cell 0
 cases q1:(M.fr == U.nu) with
 | true=>
  have HE:Hd (Zcq U M=U):=by unfold Hd Zcq;rw [if_pos (Or.inl (eq_of_beq q1))]
  go_upto_region 2 with fail
  clear y1 y3 x0;obtain⟨b9,m9,S9,yl,HRx,HYL,HRA,HTH,HON,HSy,hy18⟩:=exA (U:=U) HR.o RB.o rfl;clear HR
  go_wp2_with (first
   | (with_reducible refine ldR (.tmp 2) w.heap.size 0 yl HRA.o HSy.o ?_)
   | (with_reducible refine stR (.tmp 4) (.tmp 16) (w.heap.size+2) 0 yl.toArray HTH.o (szN hy18) HON.o ?_;refine Hd.o ?_))
  generalize hW9:World.setCells _ _ _ _=W9;obtain⟨FR9,HKn,HRn⟩:=exB hW9 RB.o hy18 HRx.o (Or.inr (by omega)) HKP.o HKw.o (by omega);clear hW9;refine Zaa ?_;go_wp2;exact bodyPost_ret (v:=.agg yl.toArray) (Zb6 (p:=4) results81 FR9.o HSy.o rfl) rfl ⟨b9,m9,S9,by rw [HYL.o,HE.o],HKn.o,by rw [HE.o];exact HRn.o⟩
 | false=>
 by_cases h2:M.ba < 1
 case pos=>
  have d2:decide (M.ba < 1)=true:=decide_eq_true h2;have HE:Hd (Zcq U M=U):=by unfold Hd Zcq;rw [if_pos (Or.inr h2)]
  go_upto_region 2 with fail
  clear y1 y3 x0;obtain⟨b9,m9,S9,yl,HRx,HYL,HRA,HTH,HON,HSy,hy18⟩:=exA (U:=U) HR.o RB.o rfl;clear HR
  go_wp2_with (first
   | (with_reducible refine ldR (.tmp 2) w.heap.size 0 yl HRA.o HSy.o ?_)
   | (with_reducible refine stR (.tmp 4) (.tmp 16) (w.heap.size+2) 0 yl.toArray HTH.o (szN hy18) HON.o ?_;refine Hd.o ?_))
  generalize hW9:World.setCells _ _ _ _=W9;obtain⟨FR9,HKn,HRn⟩:=exB hW9 RB.o hy18 HRx.o (Or.inr (by omega)) HKP.o HKw.o (by omega);clear hW9;refine Zaa ?_;go_wp2;exact bodyPost_ret (v:=.agg yl.toArray) (Zb6 (p:=4) results81 FR9.o HSy.o rfl) rfl ⟨b9,m9,S9,by rw [HYL.o,HE.o],HKn.o,by rw [HE.o];exact HRn.o⟩
 have d2:decide (M.ba < 1)=false:=decide_eq_false h2
 have HE0:Hd (Zcq U M=Zbi (ZbU (knF (Zam U M.ba).dk.sl.length (Zam U M.ba) M.kn M.ba) M) M (ZbU (knF (Zam U M.ba).dk.sl.length (Zam U M.ba) M.kn M.ba) M).wi.length):=by
  unfold Hd Zcq;rw [if_neg (fun h=>h.elim (fun h=>by rw [h] at q1;simp at q1) h2)]
 go_upto_region 3 with fail
 clear y1 x0 d2 q1;obtain⟨b8,m8,S8,HRx⟩:∃ b' m' S',Hd (Rz (fun k=>K k\/(w.heap.size+1<=k/\k < w.heap.size+3)) lo wz w.heap.size b' m' S' (U)):=⟨_,_,_,HR⟩
 clear HR;have HRA:Hd (World.rangeAt wz w.heap.size 0 (rrF (U) b8 m8)):=HRx.o.box.range rfl;have HSy:Hd ((prog.info? 41).map (·.size)=some (rrF (U) b8 m8).length):=by unfold Hd;exact Zar
 go_wp2_with (first
  | (with_reducible refine ldR (.tmp 2) w.heap.size 0 (rrF (U) b8 m8) HRA.o HSy.o ?_))
 clear HRA HSy;refine (Zdb (fun k=>(fun k=>K k\/(w.heap.size+1<=k/\k < w.heap.size+3)) k\/k=w.heap.size) lo _ U b8 m8 S8 M.ba HRx.o.czg).mono ?_;rintro e w1a ⟨b7,m7,S7,rfl,hk,hc⟩;have HKc:=Zaa hk;have HCc:=Zaa hc;have HBX:Hd (Box w1a w.heap.size (rrF (U) b8 m8).toArray):=HRx.o.box.kept hk (Or.inr rfl);replace RB:=Zaa (RB.o.kept hk (Or.inl (Or.inr (by omega))));replace MB:=Zaa (MB.o.kept hk (Or.inl (Or.inr (by omega))));replace HKP:Hd (Zag K w w1a):=HKP.o.trans (hk.less fun k h=>Or.inl (Or.inl h));have hsw1a:w.heap.size+3<=w1a.heap.size:=Nat.le_trans (by omega) hk.size;have HKne:Hd (∀ k,(fun k=>K k\/(w.heap.size+1<=k/\k < w.heap.size+3)) k->k≠w.heap.size):=fun k h=>(HRx.o.prot k h).2.1
 clear hk hc HRx;have HTH:Hd (World.there w1a w.heap.size 0 (rrF (Zam U M.ba) b7 m7).toArray.size):=HBX.o.there rfl;have HON:Hd ((rrF (Zam U M.ba) b7 m7).toArray.all (·.oneCell')=true):=Zbq _ _ _;go_wp2_with (with_reducible refine stR (.tmp 2) (.tmp 20) w.heap.size 0 (rrF (Zam U M.ba) b7 m7).toArray HTH.o (szN (Zbp _ _ _)) HON.o ?_;refine Hd.o ?_);generalize hW9:World.setCells _ _ _ _=w1;obtain⟨hr,ht⟩:=HCc.o.put HBX.o rfl HKne.o hW9.symm;have HR:=Zaa hr;replace RB:=Zaa (RB.o.tch2 ht (Or.inr (by omega)));replace MB:=Zaa (MB.o.tch2 ht (Or.inr (by omega)));replace HKP:Hd (Zag K w w1):=HKP.o.trans (Zag.box ht (fun k h=>⟨by have:=HKw.o k h;omega,by have:=HKw.o k h;omega⟩));have hsw1:w.heap.size+3<=w1.heap.size:=Nat.le_trans hsw1a ht.size;clear hr ht hW9 HBX HKc HCc HTH HON HKne;refine Zaa ?_;clear y3
 obtain⟨F,hF⟩:∃ F,F=Zam U M.ba:=⟨_,rfl⟩
 have f1:F.dk.sl=U.dk.sl:=by rw [hF,Zb4]
 have f2:F.dk.kn=U.dk.kn:=by rw [hF,Zfw]
 have f3:F.wi=U.wi:=by rw [hF,Zfx]
 rw [<- hF] at HE0 HR;clear hF;go_wp2
 go_loopw [] (fun wr=>∃ (n:Nat) (V:Rr) (b':Nat->Option Addr) (m':Nat->Nat) (S':Nat->Nat->Prop),knF n V M.kn M.ba=knF F.dk.sl.length F M.kn M.ba/\V.dk.sl=F.dk.sl/\V.wi=F.wi/\0<=V.dk.kn/\V.dk.kn<=(U.dk.sl.length:Int)/\(U.dk.sl.length:Int) - V.dk.kn<=n/\Rz (fun k=>K k\/(w.heap.size+1<=k/\k < w.heap.size+3)) lo wr w.heap.size b' m' S' V/\Zag K w wr/\w.heap.size+3<=wr.heap.size/\Box wr (w.heap.size+1) #[.int .i64 M.kd,.int .i64 M.fr,.int .i64 M.tt,.int .i64 M.ba,.int .i64 M.ix,.int .i64 M.kn,.string M.tx,.slice a0 M.sl.length k0]/\Box wr (w.heap.size+2) zR) (fun wr=>2000 - ZkH (wr.cell? ⟨w.heap.size,7,none⟩))
 case atStart=>exact⟨F.dk.sl.length,F,_,_,_,rfl,rfl,rfl,by omega,by rw [f2];exact h1,by rw [f1,f2];omega,HR.o,HKP.o,hsw1,MB.o,RB.o⟩
 case round=>
  obtain⟨n,V,b5,m5,S5,v1,v2,v3,v4,v5,v6,hr,hkp,hsz,hmb,hrb⟩:=hrel;clear HR HKP RB MB;have HR:=Zaa hr;have HKP:=Zaa hkp;have MB:=Zaa hmb;have RB:=Zaa hrb;have HV1:=Zaa v1;have hvl:V.dk.sl.length=U.dk.sl.length:=by rw [v2,f1]
  have hvw:V.wi.length<=1000:=by rw [v3,f3];exact hwl
  have HVS:=Zaa v2;have HVW:=Zaa v3;clear hr hkp hmb hrb v1 v2 v3;have x7:wr.cell? ⟨w.heap.size,7,none⟩=some (.int .i64 V.dk.kn):=HR.o.box.cell 7;have x8:wr.cell? ⟨w.heap.size,8,none⟩=some (.slice (b5 1) U.dk.sl.length (m5 1)):=by rw [HR.o.box.cell 8,<- hvl];rfl
  have y3:wr.cell? ⟨w.heap.size+1,3,none⟩=some (.int .i64 M.ba):=MB.o.cell 3;have y5:wr.cell? ⟨w.heap.size+1,5,none⟩=some (.int .i64 M.kn):=MB.o.cell 5;have HKA:Hd (ZkH (wr.cell? ⟨w.heap.size,7,none⟩)=V.dk.kn.toNat):=by unfold Hd;rw [x7];rfl
  have HKB:Hd (knB V M.kn M.ba=(decide (V.dk.kn < M.kn)&&(decide (V.dk.kn < (U.dk.sl.length:Int))&&(match V.dk.sl[V.dk.kn.toNat]? with | some s=>s.ba == M.ba | none=>false)))):=by unfold Hd knB;rw [hvl]
  have HEX:Hd (knB V M.kn M.ba=false->Zcq U M=Zbi (ZbU V M) M (ZbU V M).wi.length):=fun h=>by rw [HE0.o,<- HV1.o,ZjW h]
  go_upto_region 4 with fail
  go_cut [50] (fun c wc=>c=.bool (knB V M.kn M.ba)/\∃ nq,wc=wr.drewN nq)
  case first=>
   by_cases h4:V.dk.kn < M.kn
   case neg=>
    have d4:decide (V.dk.kn < M.kn)=false:=decide_eq_false h4;have HE:Hd (knB V M.kn M.ba=false):=by unfold Hd;rw [HKB.o,d4];rfl
    clear h4
    go_quiet (fail)
    go_wp2;go_meet;exact⟨congrArg Value.bool HE.o.symm,_,rfl⟩
   have d4:decide (V.dk.kn < M.kn)=true:=decide_eq_true h4
   by_cases h5:V.dk.kn < (U.dk.sl.length:Int)
   case neg=>
    have d5:decide (V.dk.kn < (U.dk.sl.length:Int))=false:=decide_eq_false h5;have HE:Hd (knB V M.kn M.ba=false):=by unfold Hd;rw [HKB.o,d4,d5];rfl
    clear h5 h4
    go_quiet (fail)
    go_wp2;go_meet;exact⟨congrArg Value.bool HE.o.symm,_,rfl⟩
   have d5:decide (V.dk.kn < (U.dk.sl.length:Int))=true:=decide_eq_true h5;obtain⟨q,hq⟩:∃ q:Nat,(q:Int)=V.dk.kn:=⟨V.dk.kn.toNat,by omega⟩
   have hql:q < V.dk.sl.length:=by omega
   have hqn:V.dk.kn.toNat=q:=by omega
   rw [hqn,List.getElem?_eq_getElem hql] at HKB;obtain⟨sq,hsq⟩:∃ x,x=V.dk.sl[q]:=⟨_,rfl⟩
   rw [<- hsq] at HKB;have ho1:=HR.o.cp.o1
   rcases ho1 with ⟨-,hnil⟩ | ⟨g1,hSg1,g1',cap1,hv,hfr1⟩
   . rw [hnil] at hql;simp at hql
   injection hv with hv1 hv2 hv3
   rw [hv1] at x8;have z0:wr.cell? ⟨g1',q*2,none⟩=some (.int .i64 sq.ba):=by rw [hsq];exact hfr1.get ZaI hql (t:=0) (by omega) rfl
   have j0:(0:Int)<=(q:Int):=by omega
   have j1:(q:Int) < (U.dk.sl.length:Int):=by omega
   rw [<- hq] at x7 d4 d5 HKB;clear hfr1 hv1 hv2 hv3 hsq hqn hq h4 h5
   cases q4:(sq.ba == M.ba) with
   | false=>
    have HE:Hd (knB V M.kn M.ba=false):=by unfold Hd;rw [HKB.o,d4,d5];simp only [];rw [q4];rfl
    go_quiet (fail)
    go_wp2;go_meet;exact⟨congrArg Value.bool HE.o.symm,_,rfl⟩
   | true=>
    have HE:Hd (knB V M.kn M.ba=true):=by unfold Hd;rw [HKB.o,d4,d5];simp only [];rw [q4];rfl
    go_quiet (fail)
    go_wp2;go_meet;exact⟨congrArg Value.bool HE.o.symm,_,rfl⟩
  case rest=>
  obtain⟨rfl,nq,hcw⟩:=hcut;subst hcw
  cases hkb:knB V M.kn M.ba with
  | false=>
   have HE:Hd (Zcq U M=Zbi (ZbU V M) M (ZbU V M).wi.length):=HEX.o hkb;obtain⟨w3,hw3⟩:∃ w3,w3=wr.drewN nq:=⟨_,rfl⟩
   have hb3:Below wr.heap.size wr w3:=by rw [hw3];exact below_drewN Zb_ _
   rw [<- hw3];clear hw3 x7 x8 y3 y5;have hs3:=hb3.size;replace HR:=Zaa (HR.o.on hb3);replace RB:=Zaa (RB.o.on hb3);replace MB:=Zaa (MB.o.on hb3);replace HKP:Hd (Zag K w w3):=HKP.o.trans (Zag.below hb3 (fun k hk=>by have:=HKw.o k hk;omega));clear hb3;have x7:w3.cell? ⟨w.heap.size,7,none⟩=some (.int .i64 V.dk.kn):=HR.o.box.cell 7;have y5:w3.cell? ⟨w.heap.size+1,5,none⟩=some (.int .i64 M.kn):=MB.o.cell 5
   by_cases h6:V.dk.kn < M.kn
   case pos=>
    have d6:decide (V.dk.kn < M.kn)=true:=decide_eq_true h6;have HNU:Hd (ZbU V M=Zav V (ZfJ V M)):=by unfold Hd ZbU;rw [if_pos h6]
    have wk:IntKind.wrap .i64 (V.dk.kn+1)=V.dk.kn+1:=by rw [IntKind.wrap_i64];omega
    go_upto_region 7 with fail
    clear x7 y5 d6 h6;obtain⟨b8,m8,S8,HRx⟩:∃ b' m' S',Hd (Rz (fun k=>K k\/(w.heap.size+1<=k/\k < w.heap.size+3)) lo w3 w.heap.size b' m' S' (V)):=⟨_,_,_,HR⟩
    clear HR;have HRA:Hd (World.rangeAt w3 w.heap.size 0 (rrF (V) b8 m8)):=HRx.o.box.range rfl;have HSy:Hd ((prog.info? 41).map (·.size)=some (rrF (V) b8 m8).length):=by unfold Hd;exact Zar
    have y1:w3.cell? ⟨w.heap.size+1,1,none⟩=some (.int .i64 M.fr):=MB.o.cell 1;have y3:w3.cell? ⟨w.heap.size+1,3,none⟩=some (.int .i64 M.ba):=MB.o.cell 3;have x7:w3.cell? ⟨w.heap.size,7,none⟩=some (.int .i64 V.dk.kn):=HRx.o.box.cell 7
    go_wp2_with (first
     | (with_reducible refine ldR (.tmp 2) w.heap.size 0 (rrF (V) b8 m8) HRA.o HSy.o ?_))
    clear HRA HSy;refine (ZbE (fun k=>(fun k=>K k\/(w.heap.size+1<=k/\k < w.heap.size+3)) k\/k=w.heap.size) lo _ V b8 m8 S8 (ZfJ V M) none 0 0 0 HRx.o.czg Zl_ (ZaE.nil _ _ _ _ _) (fun k _ h=>absurd h (Nat.not_lt_zero _))).mono ?_;rintro e w4a ⟨b7,m7,S7,rfl,hk,hc⟩;have HKc:=Zaa hk;have HCc:=Zaa hc;have HBX:Hd (Box w4a w.heap.size (rrF (V) b8 m8).toArray):=HRx.o.box.kept hk (Or.inr rfl);replace RB:=Zaa (RB.o.kept hk (Or.inl (Or.inr (by omega))));replace MB:=Zaa (MB.o.kept hk (Or.inl (Or.inr (by omega))));replace HKP:Hd (Zag K w w4a):=HKP.o.trans (hk.less fun k h=>Or.inl (Or.inl h));have hsw4a:w.heap.size+3<=w4a.heap.size:=Nat.le_trans (by omega) hk.size;have HKne:Hd (∀ k,(fun k=>K k\/(w.heap.size+1<=k/\k < w.heap.size+3)) k->k≠w.heap.size):=fun k h=>(HRx.o.prot k h).2.1
    clear hk hc HRx;have HTH:Hd (World.there w4a w.heap.size 0 (rrF (Zav V (ZfJ V M)) b7 m7).toArray.size):=HBX.o.there rfl;have HON:Hd ((rrF (Zav V (ZfJ V M)) b7 m7).toArray.all (·.oneCell')=true):=Zbq _ _ _;go_wp2_with (with_reducible refine stR (.tmp 2) (.tmp 73) w.heap.size 0 (rrF (Zav V (ZfJ V M)) b7 m7).toArray HTH.o (szN (Zbp _ _ _)) HON.o ?_;refine Hd.o ?_);generalize hW9:World.setCells _ _ _ _=w4;obtain⟨hr,ht⟩:=HCc.o.put HBX.o rfl HKne.o hW9.symm;have HR:=Zaa hr;replace RB:=Zaa (RB.o.tch2 ht (Or.inr (by omega)));replace MB:=Zaa (MB.o.tch2 ht (Or.inr (by omega)));replace HKP:Hd (Zag K w w4):=HKP.o.trans (Zag.box ht (fun k h=>⟨by have:=HKw.o k h;omega,by have:=HKw.o k h;omega⟩));have hsw4:w.heap.size+3<=w4.heap.size:=Nat.le_trans hsw4a ht.size;clear hr ht hW9 HBX HKc HCc HTH HON HKne;refine Zaa ?_;rw [<- HNU.o] at HR
    clear y1 y3 x7 wk;obtain⟨N,hN⟩:∃ N,N=ZbU V M:=⟨_,rfl⟩
    rw [<- hN] at HR HE;have hnw:N.wi.length<=1000:=by rw [hN,Zgg];exact hvw
    clear hN;have hsW:w.heap.size+3<=w4.heap.size:=by omega
    go_wp2
    go_loopw [5] (fun iv wq=>∃ (i:Nat) (b':Nat->Option Addr) (m':Nat->Nat) (S':Nat->Nat->Prop),iv=.int .i64 i/\i<=N.wi.length/\Rz (fun k=>K k\/(w.heap.size+1<=k/\k < w.heap.size+3)) lo wq w.heap.size b' m' S' (Zbi N M i)/\Zag K w wq/\w.heap.size+3<=wq.heap.size/\Box wq (w.heap.size+1) #[.int .i64 M.kd,.int .i64 M.fr,.int .i64 M.tt,.int .i64 M.ba,.int .i64 M.ix,.int .i64 M.kn,.string M.tx,.slice a0 M.sl.length k0]/\Box wq (w.heap.size+2) zR) (fun iv _=>N.wi.length - (intOf iv).toNat)
    case atStart=>exact⟨0,_,_,_,rfl,by omega,HR.o,HKP.o,hsW,MB.o,RB.o⟩
    case round=>
     obtain⟨i,b6,m6,S6,rfl,hi,hr,hkp,hsz2,hmb,hrb⟩:=hrel;clear HR HKP RB MB;have HR:=Zaa hr;have HKP:=Zaa hkp;have MB:=Zaa hmb;have RB:=Zaa hrb;clear hr hkp hmb hrb;have hwi:(Zbi N M i).wi=N.wi:=Zd2 N M i
     rename World=>wq
     have x10:wq.cell? ⟨w.heap.size,10,none⟩=some (.slice (b6 3) N.wi.length (m6 3)):=by rw [HR.o.box.cell 10,<- hwi];rfl
     by_cases hlt:i < N.wi.length
     . have i0:(0:Int)<=(i:Int):=by omega
       have i1:(i:Int) < (N.wi.length:Int):=by omega
       have ho3:=HR.o.cp.o3;rw [hwi] at ho3
       rcases ho3 with ⟨-,hnil⟩ | ⟨g3,hSg3,g3',cap3,hv,hfr3⟩
       . rw [hnil] at hlt;simp at hlt
       injection hv with hv1 hv2 hv3
       rw [hv1] at x10;obtain⟨tx,htx⟩:∃ x,x=N.wi[i]:=⟨_,rfl⟩
       have z3:wq.cell? ⟨g3',i,none⟩=some (.string tx):=by rw [htx];have:=hfr3.get Zcb hlt (t:=0) (by omega) (v:=.string N.wi[i]) rfl;rwa [show i*1+0=i by omega] at this
       have y1:wq.cell? ⟨w.heap.size+1,1,none⟩=some (.int .i64 M.fr):=MB.o.cell 1;have HNX:Hd (Zbi N M (i+1)=Zav (Zbi N M i) (ZcJ M tx)):=by unfold Hd;rw [Zc5 hlt,htx]
       obtain⟨N1,hN1⟩:∃ N1,N1=Zbi N M i:=⟨_,rfl⟩
       rw [<- hN1] at HR HNX hwi;clear hfr3 hv1 hv2 hv3 htx hN1;have HRA:Hd (World.rangeAt wq w.heap.size 0 (rrF N1 b6 m6)):=HR.o.box.range rfl;have HSy:Hd ((prog.info? 41).map (·.size)=some (rrF N1 b6 m6).length):=by unfold Hd;exact Zar
       go_upto_region 11 with fail
       refine Code.wp_mono NoPanic.imp ?_;refine Zao (S:=fun W=>W.rangeAt w.heap.size 0 (rrF N1 b6 m6)/\W.cell? ⟨w.heap.size,10,none⟩=some (.slice (some ⟨g3',0,none⟩) N.wi.length (m6 3))/\W.cell? ⟨w.heap.size+1,1,none⟩=some (.int .i64 M.fr)/\W.cell? ⟨g3',i,none⟩=some (.string tx)) [9,10] (by kernel_rfl) ⟨HRA.o,x10,y1,z3⟩ (fun hHeld=>?_);refine tB 0 _ [9,10] rfl hHeld ?_ (hy:=yieldsIf_load_mid (by rfl) 41 (.tmp 2) rfl w.heap.size 0 rfl (rrF N1 b6 m6) _ (fun _ h=>h.1) underlying41 rfl HSy.o)
       try simp only [Act.put,sLs]
       refine tB 1 (.pointer (some ⟨w.heap.size+1,1,none⟩)) [2,8,9,10] rfl hHeld ?_
       try simp only [Act.put,sLs]
       refine tB 2 (.int .i64 M.fr) [8,9,10] rfl hHeld ?_
       try simp only [Act.put,sLs]
       refine tB 3 (.pointer (some ⟨w.heap.size,10,none⟩)) [4,6,7,8,9,10] rfl hHeld ?_
       try simp only [Act.put,sLs]
       refine tB 4 (.slice (some ⟨g3',0,none⟩) N.wi.length (m6 3)) [6,7,8,9,10] rfl hHeld ?_
       try simp only [Act.put,sLs]
       refine tB 5 (.int .i64 (i:Int)) [6,7,8,9,10] rfl hHeld ?_
       try simp only [Act.put,sLs]
       refine tB 6 (.pointer (some ⟨g3',i,none⟩)) [7,8,9,10] rfl hHeld ?_
       try simp only [Act.put,sLs]
       refine tB 7 (.string tx) [8,9,10] rfl hHeld ?_
       try simp only [Act.put,sLs]
       refine tB 8 (.agg #[.int .i64 8,.int .i64 0,.int .i64 M.fr,.int .i64 0,.int .i64 0,.int .i64 0,.string tx,.slice none 0 0]) [9,10] rfl hHeld ?_
       try simp only [Act.put,sLs]
       refine oB 9 rfl (fun KC hK=>?_)
       go_simp
       refine (ZbE (fun k=>(fun k=>K k\/(w.heap.size+1<=k/\k < w.heap.size+3)) k\/k=w.heap.size) lo _ N1 b6 m6 S6 (ZcJ M tx) none 0 0 0 (HR.o.on (Zb_.drew)).czg Zl_ (ZaE.nil _ _ _ _ _) (fun k _ h=>absurd h (Nat.not_lt_zero _))).mono ?_;rintro e wc ⟨b7,m7,S7,rfl,hk,hc⟩;have HCc:=Zaa hc;have hk0:Zag (fun k=>(fun k=>K k\/(w.heap.size+1<=k/\k < w.heap.size+3)) k\/k=w.heap.size) wq wc:=(Zag.below (Zb_.drew) (fun k h=>by rcases h with h | h;exact (HR.o.prot k h).1;rw [h];exact HR.o.box.lt)).trans hk;have HBX:Hd (Box wc w.heap.size (rrF N1 b6 m6).toArray):=HR.o.box.kept hk0 (Or.inr rfl);replace RB:=Zaa (RB.o.kept hk0 (Or.inl (Or.inr (by omega))));replace MB:=Zaa (MB.o.kept hk0 (Or.inl (Or.inr (by omega))));replace HKP:Hd (Zag K w wc):=HKP.o.trans (hk0.less fun k h=>Or.inl (Or.inl h))
       have hswc:w.heap.size+3<=wc.heap.size:=Nat.le_trans (by omega) hk0.size;have HKne:Hd (∀ k,(fun k=>K k\/(w.heap.size+1<=k/\k < w.heap.size+3)) k->k≠w.heap.size):=fun k h=>(HR.o.prot k h).2.1
       clear hk hc hk0 HR hHeld x10 y1 z3 HRA;have HTH:Hd (World.there wc w.heap.size 0 (rrF (Zav N1 (ZcJ M tx)) b7 m7).toArray.size):=HBX.o.there rfl;have HON:Hd ((rrF (Zav N1 (ZcJ M tx)) b7 m7).toArray.all (·.oneCell')=true):=Zbq _ _ _;refine hK.out _ _ (fun h=>absurd (by decide) h) (fun _=>?_);clear hK
       try simp only [Act.put,sLs]
       refine oB 10 rfl (fun KC hK=>?_);refine Zaz rfl 41 (.tmp 2) (.tmp 90) rfl w.heap.size 0 (rrF (Zav N1 (ZcJ M tx)) b7 m7).toArray rfl rfl HTH.o (szN (Zbp _ _ _)) HON.o ?_;refine hK.out _ _ (fun h=>absurd (by decide) h) (fun _=>?_);clear hK
       try simp only [Act.put,sLs]
       refine Zak (by kernel_rfl) ?_ _;refine NoPanic.normal ?_;generalize hW9:World.setCells _ _ _ _=wd;obtain⟨hr,ht⟩:=HCc.o.put HBX.o rfl HKne.o hW9.symm;have HRn:=Zaa hr;have HTT:=Zaa ht;clear hr ht hW9;go_wp2;go_roundw
       . 
        have ht:=HTT.o;exact⟨i+1,b7,m7,S7,by go_num,by omega,by rw [HNX.o];exact HRn.o,HKP.o.trans (Zag.box ht (fun k h=>⟨by have:=HKw.o k h;omega,by have:=HKw.o k h;omega⟩)),Nat.le_trans hswc ht.size,MB.o.tch2 ht (Or.inr (by omega)),RB.o.tch2 ht (Or.inr (by omega))⟩
       . simp [intOf];omega
     . have hii:i=N.wi.length:=by omega
       have HE2:Hd (Zcq U M=Zbi N M i):=by unfold Hd;rw [HE.o,hii]
       have dn:decide ((i:Int) < (N.wi.length:Int))=false:=by simp;omega
       clear hii
       go_upto_region 12 with fail
       clear x10 dn;obtain⟨b9,m9,S9,yl,HRx,HYL,HRA,HTH,HON,HSy,hy18⟩:=exA (U:=Zbi N M i) HR.o RB.o rfl;clear HR
       go_wp2_with (first
        | (with_reducible refine ldR (.tmp 2) w.heap.size 0 yl HRA.o HSy.o ?_)
        | (with_reducible refine stR (.tmp 4) (.tmp 91) (w.heap.size+2) 0 yl.toArray HTH.o (szN hy18) HON.o ?_;refine Hd.o ?_))
       generalize hW9:World.setCells _ _ _ _=W9;obtain⟨FR9,HKn,HRn⟩:=exB hW9 RB.o hy18 HRx.o (Or.inr (by omega)) HKP.o HKw.o (by omega);clear hW9;refine Zaa ?_;go_wp2;exact bodyPost_ret (v:=.agg yl.toArray) (Zb6 (p:=4) results81 FR9.o HSy.o rfl) rfl ⟨b9,m9,S9,by rw [HYL.o,HE2.o],HKn.o,by rw [HE2.o];exact HRn.o⟩
   have d6:decide (V.dk.kn < M.kn)=false:=decide_eq_false h6;have HNU:Hd (ZbU V M=V):=by unfold Hd ZbU;rw [if_neg h6]
   go_upto_region 8 with fail
   clear x7 y5 d6 h6;rw [<- HNU.o] at HR;obtain⟨N,hN⟩:∃ N,N=ZbU V M:=⟨_,rfl⟩
   rw [<- hN] at HR HE;have hnw:N.wi.length<=1000:=by rw [hN,Zgg];exact hvw
   clear hN;have hsW:w.heap.size+3<=w3.heap.size:=by omega
   go_wp2
   go_loopw [5] (fun iv wq=>∃ (i:Nat) (b':Nat->Option Addr) (m':Nat->Nat) (S':Nat->Nat->Prop),iv=.int .i64 i/\i<=N.wi.length/\Rz (fun k=>K k\/(w.heap.size+1<=k/\k < w.heap.size+3)) lo wq w.heap.size b' m' S' (Zbi N M i)/\Zag K w wq/\w.heap.size+3<=wq.heap.size/\Box wq (w.heap.size+1) #[.int .i64 M.kd,.int .i64 M.fr,.int .i64 M.tt,.int .i64 M.ba,.int .i64 M.ix,.int .i64 M.kn,.string M.tx,.slice a0 M.sl.length k0]/\Box wq (w.heap.size+2) zR) (fun iv _=>N.wi.length - (intOf iv).toNat)
   case atStart=>exact⟨0,_,_,_,rfl,by omega,HR.o,HKP.o,hsW,MB.o,RB.o⟩
   case round=>
    obtain⟨i,b6,m6,S6,rfl,hi,hr,hkp,hsz2,hmb,hrb⟩:=hrel;clear HR HKP RB MB;have HR:=Zaa hr;have HKP:=Zaa hkp;have MB:=Zaa hmb;have RB:=Zaa hrb;clear hr hkp hmb hrb;have hwi:(Zbi N M i).wi=N.wi:=Zd2 N M i
    rename World=>wq
    have x10:wq.cell? ⟨w.heap.size,10,none⟩=some (.slice (b6 3) N.wi.length (m6 3)):=by rw [HR.o.box.cell 10,<- hwi];rfl
    by_cases hlt:i < N.wi.length
    . have i0:(0:Int)<=(i:Int):=by omega
      have i1:(i:Int) < (N.wi.length:Int):=by omega
      have ho3:=HR.o.cp.o3;rw [hwi] at ho3
      rcases ho3 with ⟨-,hnil⟩ | ⟨g3,hSg3,g3',cap3,hv,hfr3⟩
      . rw [hnil] at hlt;simp at hlt
      injection hv with hv1 hv2 hv3
      rw [hv1] at x10;obtain⟨tx,htx⟩:∃ x,x=N.wi[i]:=⟨_,rfl⟩
      have z3:wq.cell? ⟨g3',i,none⟩=some (.string tx):=by rw [htx];have:=hfr3.get Zcb hlt (t:=0) (by omega) (v:=.string N.wi[i]) rfl;rwa [show i*1+0=i by omega] at this
      have y1:wq.cell? ⟨w.heap.size+1,1,none⟩=some (.int .i64 M.fr):=MB.o.cell 1;have HNX:Hd (Zbi N M (i+1)=Zav (Zbi N M i) (ZcJ M tx)):=by unfold Hd;rw [Zc5 hlt,htx]
      obtain⟨N1,hN1⟩:∃ N1,N1=Zbi N M i:=⟨_,rfl⟩
      rw [<- hN1] at HR HNX hwi;clear hfr3 hv1 hv2 hv3 htx hN1;have HRA:Hd (World.rangeAt wq w.heap.size 0 (rrF N1 b6 m6)):=HR.o.box.range rfl;have HSy:Hd ((prog.info? 41).map (·.size)=some (rrF N1 b6 m6).length):=by unfold Hd;exact Zar
      go_upto_region 11 with fail
      refine Code.wp_mono NoPanic.imp ?_;refine Zao (S:=fun W=>W.rangeAt w.heap.size 0 (rrF N1 b6 m6)/\W.cell? ⟨w.heap.size,10,none⟩=some (.slice (some ⟨g3',0,none⟩) N.wi.length (m6 3))/\W.cell? ⟨w.heap.size+1,1,none⟩=some (.int .i64 M.fr)/\W.cell? ⟨g3',i,none⟩=some (.string tx)) [9,10] (by kernel_rfl) ⟨HRA.o,x10,y1,z3⟩ (fun hHeld=>?_);refine tB 0 _ [9,10] rfl hHeld ?_ (hy:=yieldsIf_load_mid (by rfl) 41 (.tmp 2) rfl w.heap.size 0 rfl (rrF N1 b6 m6) _ (fun _ h=>h.1) underlying41 rfl HSy.o)
      try simp only [Act.put,sLs]
      refine tB 1 (.pointer (some ⟨w.heap.size+1,1,none⟩)) [2,8,9,10] rfl hHeld ?_
      try simp only [Act.put,sLs]
      refine tB 2 (.int .i64 M.fr) [8,9,10] rfl hHeld ?_
      try simp only [Act.put,sLs]
      refine tB 3 (.pointer (some ⟨w.heap.size,10,none⟩)) [4,6,7,8,9,10] rfl hHeld ?_
      try simp only [Act.put,sLs]
      refine tB 4 (.slice (some ⟨g3',0,none⟩) N.wi.length (m6 3)) [6,7,8,9,10] rfl hHeld ?_
      try simp only [Act.put,sLs]
      refine tB 5 (.int .i64 (i:Int)) [6,7,8,9,10] rfl hHeld ?_
      try simp only [Act.put,sLs]
      refine tB 6 (.pointer (some ⟨g3',i,none⟩)) [7,8,9,10] rfl hHeld ?_
      try simp only [Act.put,sLs]
      refine tB 7 (.string tx) [8,9,10] rfl hHeld ?_
      try simp only [Act.put,sLs]
      refine tB 8 (.agg #[.int .i64 8,.int .i64 0,.int .i64 M.fr,.int .i64 0,.int .i64 0,.int .i64 0,.string tx,.slice none 0 0]) [9,10] rfl hHeld ?_
      try simp only [Act.put,sLs]
      refine oB 9 rfl (fun KC hK=>?_)
      go_simp
      refine (ZbE (fun k=>(fun k=>K k\/(w.heap.size+1<=k/\k < w.heap.size+3)) k\/k=w.heap.size) lo _ N1 b6 m6 S6 (ZcJ M tx) none 0 0 0 (HR.o.on (Zb_.drew)).czg Zl_ (ZaE.nil _ _ _ _ _) (fun k _ h=>absurd h (Nat.not_lt_zero _))).mono ?_;rintro e wc ⟨b7,m7,S7,rfl,hk,hc⟩;have HCc:=Zaa hc;have hk0:Zag (fun k=>(fun k=>K k\/(w.heap.size+1<=k/\k < w.heap.size+3)) k\/k=w.heap.size) wq wc:=(Zag.below (Zb_.drew) (fun k h=>by rcases h with h | h;exact (HR.o.prot k h).1;rw [h];exact HR.o.box.lt)).trans hk;have HBX:Hd (Box wc w.heap.size (rrF N1 b6 m6).toArray):=HR.o.box.kept hk0 (Or.inr rfl);replace RB:=Zaa (RB.o.kept hk0 (Or.inl (Or.inr (by omega))));replace MB:=Zaa (MB.o.kept hk0 (Or.inl (Or.inr (by omega))));replace HKP:Hd (Zag K w wc):=HKP.o.trans (hk0.less fun k h=>Or.inl (Or.inl h))
      have hswc:w.heap.size+3<=wc.heap.size:=Nat.le_trans (by omega) hk0.size;have HKne:Hd (∀ k,(fun k=>K k\/(w.heap.size+1<=k/\k < w.heap.size+3)) k->k≠w.heap.size):=fun k h=>(HR.o.prot k h).2.1
      clear hk hc hk0 HR hHeld x10 y1 z3 HRA;have HTH:Hd (World.there wc w.heap.size 0 (rrF (Zav N1 (ZcJ M tx)) b7 m7).toArray.size):=HBX.o.there rfl;have HON:Hd ((rrF (Zav N1 (ZcJ M tx)) b7 m7).toArray.all (·.oneCell')=true):=Zbq _ _ _;refine hK.out _ _ (fun h=>absurd (by decide) h) (fun _=>?_);clear hK
      try simp only [Act.put,sLs]
      refine oB 10 rfl (fun KC hK=>?_);refine Zaz rfl 41 (.tmp 2) (.tmp 90) rfl w.heap.size 0 (rrF (Zav N1 (ZcJ M tx)) b7 m7).toArray rfl rfl HTH.o (szN (Zbp _ _ _)) HON.o ?_;refine hK.out _ _ (fun h=>absurd (by decide) h) (fun _=>?_);clear hK
      try simp only [Act.put,sLs]
      refine Zak (by kernel_rfl) ?_ _;refine NoPanic.normal ?_;generalize hW9:World.setCells _ _ _ _=wd;obtain⟨hr,ht⟩:=HCc.o.put HBX.o rfl HKne.o hW9.symm;have HRn:=Zaa hr;have HTT:=Zaa ht;clear hr ht hW9;go_wp2;go_roundw
      . 
       have ht:=HTT.o;exact⟨i+1,b7,m7,S7,by go_num,by omega,by rw [HNX.o];exact HRn.o,HKP.o.trans (Zag.box ht (fun k h=>⟨by have:=HKw.o k h;omega,by have:=HKw.o k h;omega⟩)),Nat.le_trans hswc ht.size,MB.o.tch2 ht (Or.inr (by omega)),RB.o.tch2 ht (Or.inr (by omega))⟩
      . simp [intOf];omega
    . have hii:i=N.wi.length:=by omega
      have HE2:Hd (Zcq U M=Zbi N M i):=by unfold Hd;rw [HE.o,hii]
      have dn:decide ((i:Int) < (N.wi.length:Int))=false:=by simp;omega
      clear hii
      go_upto_region 12 with fail
      clear x10 dn;obtain⟨b9,m9,S9,yl,HRx,HYL,HRA,HTH,HON,HSy,hy18⟩:=exA (U:=Zbi N M i) HR.o RB.o rfl;clear HR
      go_wp2_with (first
       | (with_reducible refine ldR (.tmp 2) w.heap.size 0 yl HRA.o HSy.o ?_)
       | (with_reducible refine stR (.tmp 4) (.tmp 91) (w.heap.size+2) 0 yl.toArray HTH.o (szN hy18) HON.o ?_;refine Hd.o ?_))
      generalize hW9:World.setCells _ _ _ _=W9;obtain⟨FR9,HKn,HRn⟩:=exB hW9 RB.o hy18 HRx.o (Or.inr (by omega)) HKP.o HKw.o (by omega);clear hW9;refine Zaa ?_;go_wp2;exact bodyPost_ret (v:=.agg yl.toArray) (Zb6 (p:=4) results81 FR9.o HSy.o rfl) rfl ⟨b9,m9,S9,by rw [HYL.o,HE2.o],HKn.o,by rw [HE2.o];exact HRn.o⟩
  | true=>
   have HT:=Zaa hkb
   have h5:V.dk.kn < (U.dk.sl.length:Int):=by
    have h9:=HKB.o;rw [hkb] at h9
    by_cases h5:V.dk.kn < (U.dk.sl.length:Int)
    . exact h5
    . rw [decide_eq_false h5] at h9;simp at h9
   have wk:IntKind.wrap .i64 (V.dk.kn+1)=V.dk.kn+1:=by rw [IntKind.wrap_i64];omega
   obtain⟨w3,hw3⟩:∃ w3,w3=wr.drewN nq:=⟨_,rfl⟩
   have hb3:Below wr.heap.size wr w3:=by rw [hw3];exact below_drewN Zb_ _
   rw [<- hw3];clear hw3 x7 x8 y3 y5;have hs3:=hb3.size;replace HR:=Zaa (HR.o.on hb3);replace RB:=Zaa (RB.o.on hb3);replace MB:=Zaa (MB.o.on hb3);replace HKP:Hd (Zag K w w3):=HKP.o.trans (Zag.below hb3 (fun k hk=>by have:=HKw.o k hk;omega));have x7:w3.cell? ⟨w.heap.size,7,none⟩=some (.int .i64 V.dk.kn):=HR.o.box.cell 7;have gf:=HR.o.box.free;have HP:=Zaa (HR.o.scal (U':={ V with dk:={ V.dk with kn:=V.dk.kn+1 } }) (j:=7) (v:=.int .i64 (V.dk.kn+1)) (by show 7 < 18;omega) rfl (fun _ h=>⟨h.seg,h.ap,h.o0,h.o1,h.o2,h.o3,h.o4,h.o5,h.o6⟩));go_wp2;have h7:(w3.setCell ⟨w.heap.size,7,none⟩ (.int .i64 (V.dk.kn+1))).cell? ⟨w.heap.size,7,none⟩=some (.int .i64 (V.dk.kn+1)):=World.cell?_setCell_same' _ _ _ (by rw [x7];rfl);clear x7 gf;obtain⟨n',hn'⟩:∃ n',n=n'+1:=⟨n - 1,by omega⟩
   refine⟨⟨n',{ V with dk:={ V.dk with kn:=V.dk.kn+1 } },b5,m5,S5,?_,HVS.o,HVW.o,by show (0:Int)<=V.dk.kn+1;omega,by show V.dk.kn+1<=_;omega,by show _ - (V.dk.kn+1)<=_;omega,HP.o.1,HKP.o.trans (HP.o.2.less fun k hk=>Or.inl hk),by simp [World.setCell];omega,MB.o.setFar (by simp only [];omega) _,RB.o.setFar (by simp only [];omega) _⟩,?_⟩
   . rw [<- HV1.o,hn']
     conv=>rhs;unfold knF
     rw [HT.o];rfl
   . rw [h7,HKA.o]
     show 2000 - (V.dk.kn+1).toNat < 2000 - V.dk.kn.toNat
     omega
end Go.Proofs.YtkiefplmnoapfaaGreat
