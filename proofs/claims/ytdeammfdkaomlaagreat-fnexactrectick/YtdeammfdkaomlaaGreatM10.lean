import Derived.Test.YtdeammfdkaomlaaGreatM07
import Derived.Test.YtdeammfdkaomlaaGreatM09
import Derived.Sort.Walk0
set_option maxHeartbeats 16000000
set_option maxRecDepth 100000
open Go.Proofs.Tryz
namespace Go.Proofs.YtdeammfdkaomlaaGreat
open Go.RowKit Go.Deep
section
variable {n lo hi g:Nat} {w w':World} {L:List MX} {v:Value} {Xl:List Rm}
theorem FR.own {X:Type}{f:X->List Value}{cap:Nat}{L:List X} (h:FR f n w lo hi g cap L):FR f n w g (g+1) g cap L:=⟨Nat.le_refl _,Nat.lt_succ_self _,h.lt,h.le,h.mx,h.th,h.fz,h.rg⟩
def Inn (w:World) (lo hi g:Nat) (x:MX):Prop:=∃ l u,lo<=l/\l<=u/\u<=hi/\(g < l\/u<=g)/\ZaH rsL 2 w l u (.slice x.2.1 x.1.sl.length x.2.2) x.1.sl
structure MR (w:World) (lo hi g:Nat) (v:Value) (L:List MX):Prop where
 row:ZaH mxL 8 w g (g+1) v L
 low:lo<=g
 up:g < hi
 inn:∃ c:Nat->Nat×Nat,(∀ i,i < L.length->lo<=(c i).1/\(c i).1<=(c i).2/\(c i).2<=hi/\(g < (c i).1\/(c i).2<=g))/\(∀ i j,i < L.length->j < L.length->i≠j->(c i).2<=(c j).1\/(c j).2<=(c i).1)/\∀ i (h:i < L.length),ZaH rsL 2 w (c i).1 (c i).2 (.slice L[i].2.1 L[i].1.sl.length L[i].2.2) L[i].1.sl
theorem MR.below (h:MR w lo hi g v L) (hb:Zw_ w w'):MR w' lo hi g v L:=by
 obtain⟨c,h1,h2,h3⟩:=h.inn;exact⟨h.row.below hb,h.low,h.up,c,h1,h2,fun i hi=>(h3 i hi).below hb⟩
theorem MR.touch (h:MR w lo hi g v L) {lo' hi':Nat} (ht:Zad lo' hi' w w') (hh:hi<=lo'\/hi'<=lo):MR w' lo hi g v L:=by
 obtain⟨c,h1,h2,h3⟩:=h.inn;exact⟨h.row.touch ht (by have:=h.low;have:=h.up;omega),h.low,h.up,c,h1,h2,fun i hi=>(h3 i hi).touch ht (by have:=h1 i hi;omega)⟩
theorem MR.lt (h:MR w lo hi g v L):g < w.heap.size:=by
 obtain⟨g',cap,-,hr⟩:=h.row;have h1:=hr.bs;have h2:=hr.up;have h3:=hr.lt
 omega
theorem MR.snoc {W W':World}{v':Value}{x:MX} (h:MR W lo n g v L) (_hn:n<=W.heap.size) (hx:Inn W n W.heap.size g x) (ht:Zad g (g+1) W W') (hf:ZaH mxL 8 W' g (g+1) v' (L ++ [x])\/ZaH mxL 8 W' W.heap.size W'.heap.size v' (L ++ [x])) (hlo:lo<=n):∃ g',MR W' lo W'.heap.size g' v' (L ++ [x]):=by
 obtain⟨c,h1,h2,h3⟩:=h.inn;obtain⟨l,u,x1,x2,x3,x4,x5⟩:=hx;have hsz:=ht.size;have hll:(L ++ [x]).length=L.length+1:=by simp
 obtain⟨d,hd⟩:∃ d:Nat->Nat×Nat,d=fun i=>if i=L.length then (l,u) else c i:=⟨_,rfl⟩
 have e1:∀ i,i < L.length->d i=c i:=fun i hi=>by rw [hd];exact if_neg (by omega)
 have e2:d L.length=(l,u):=by rw [hd];exact if_pos rfl
 have seg:∀ i,i < (L ++ [x]).length->lo<=(d i).1/\(d i).1<=(d i).2/\(d i).2<=W.heap.size/\(g < (d i).1\/(d i).2<=g):=fun i hi=>by
  by_cases q:i < L.length
  . rw [e1 i q];have:=h1 i q;omega
  . rw [show i=L.length by omega,e2];exact⟨by omega,x2,x3,x4⟩
 have ap:∀ i j,i < (L ++ [x]).length->j < (L ++ [x]).length->i≠j->(d i).2<=(d j).1\/(d j).2<=(d i).1:=fun i j hi hj hne=>by
  by_cases q:i < L.length
  . by_cases r:j < L.length
    . rw [e1 i q,e1 j r];exact h2 i j q r hne
    . rw [e1 i q,show j=L.length by omega,e2];have:=h1 i q;simp only [];omega
  . rw [show i=L.length by omega,e2,e1 j (by omega)];have:=h1 j (by omega);simp only [];omega
 have inn:∀ i (hi:i < (L ++ [x]).length),ZaH rsL 2 W' (d i).1 (d i).2 (.slice (L ++ [x])[i].2.1 (L ++ [x])[i].1.sl.length (L ++ [x])[i].2.2) (L ++ [x])[i].1.sl:=fun i hi=>by
  have hs:=seg i hi;refine ZaH.touch ?_ ht (by omega)
  by_cases q:i < L.length
  . rw [e1 i q,List.getElem_append_left q];exact h3 i q
  . have e:i=L.length:=by omega
    subst e;have ex:(L ++ [x])[L.length]=x:=by simp
    rw [e2,ex];exact x5
 rcases hf with hf | hf
 . exact⟨g,hf,h.low,by have:=h.up;omega,d,fun i hi=>by have:=seg i hi;omega,ap,inn⟩
 . obtain⟨g',cap,q1,q2⟩:=hf
   have hbs:=q2.bs;exact⟨g',⟨g',cap,q1,q2.own⟩,by omega,q2.lt,d,fun i hi=>by have:=seg i hi;omega,ap,inn⟩
theorem MR.rms (h:MR w lo hi g v L) (hL:L.map (·.1)=Xl) (hz:∀ i (h:i < Xl.length),(∀ j (hj:j < Xl[i].sl.length),ZaJ Xl[i].sl[j])/\Xl[i].tx.size<=maxLen):Zbd lo w v Xl:=by
 subst hL;refine h.row.rms h.low fun i hi=>?_
 obtain⟨c,h1,h2,h3⟩:=h.inn;have:=hz i (by simpa using hi);simp only [List.getElem_map] at this;exact⟨((h3 i hi).rss this.1).at.mono (h1 i hi).1,this.2⟩
theorem Zbd.sizes (h:Zbd lo w v Xl):∀ i (h:i < Xl.length),(∀ j (hj:j < Xl[i].sl.length),ZaJ Xl[i].sl[j])/\Xl[i].tx.size<=maxLen:=by
 intro i hi;obtain⟨a,cap,rfl⟩:=h.form;obtain⟨b,off,-,-,-,hc⟩:=h.full' (by omega);obtain⟨cs,-,a0,k0,-,hf⟩:=hc i hi;exact⟨fun j hj=>hf.l0.sizes j hj,hf.s0⟩
theorem Zem (lo:Nat) (v:Value) (Xl:List Rm) (w:World) (hv:Zbd lo w v Xl) (hn:ZbJ Xl) :
 Calls prog 59 #[v] w fun e w'=>∃ v' g L,e=.returned v'/\Zw_ w w'/\MR w' w.heap.size w'.heap.size g v' L/\L.map (·.1)=Xl:=by
 have HV:=Zaa hv;have HN:=Zaa hn.2;have hn1:=hn.1;obtain⟨a,cap,rfl⟩:=hv.form;clear hv hn;go_enter func59,ntmps59;go_wp2
 go_loopw [3,4] (fun o i wr=>∃ (k g:Nat) (L:List MX),i=.int .i64 k/\k<=Xl.length/\Zw_ w wr/\MR wr w.heap.size wr.heap.size g o L/\L.map (·.1)=Xl.take k) (fun _ i _=>Xl.length - (intOf i).toNat)
 case atStart=>
  exact⟨0,w.heap.size,[],rfl,by omega,Zab _ _,⟨⟨w.heap.size,0,rfl,(Zbb mxL 8 w _ _ 0 rfl Zz_).own⟩,Nat.le_refl _,by simp,⟨fun _=>(0,0),fun i hi=>absurd hi (Nat.not_lt_zero _),fun i j hi=>absurd hi (Nat.not_lt_zero _),fun i hi=>absurd hi (Nat.not_lt_zero _)⟩⟩,by simp⟩
 case round=>
  obtain⟨k,g,L,rfl,hk,hb,hm,hL⟩:=hrel;have HB:=Zaa hb;have HM:=Zaa hm;have HL:=Zaa hL
  have HLl:Hd (L.length=k):=by
   unfold Hd;have:=congrArg List.length hL;rw [List.length_map,List.length_take] at this
   omega
  clear hb hm hL;obtain⟨gg,cp,ho,hfr⟩:=HM.o.row;subst ho;clear hfr
  by_cases hlt:k < Xl.length
  . obtain⟨b,off,rfl,hbw,-,hc⟩:=HV.o.full' (by omega)
    obtain⟨m,hm'⟩:∃ m,m=Xl[k]:=⟨_,rfl⟩
    obtain⟨ms,hr,b0,m0,rfl,hf⟩:=hc k hlt;rw [<- hm'] at hf hr;have HS:Hd (m.sl.length<=1048576):=by unfold Hd;rw [hm'];exact (HN.o k hlt).1
    have HF:Hd (Zat lo wr (.slice b0 m.sl.length m0) m.sl):=hf.l0.below HB.o;have HR:=Zaz hr HB.o hbw;have HX:=Zaa hm';have s0:wr.cell? ⟨b,off+k*8,none⟩=some (.int .i64 m.kd):=HR 0 _ rfl;have s1:wr.cell? ⟨b,off+k*8+1,none⟩=some (.int .i64 m.fr):=HR 1 _ rfl;have s2:wr.cell? ⟨b,off+k*8+2,none⟩=some (.int .i64 m.tt):=HR 2 _ rfl;have s3:wr.cell? ⟨b,off+k*8+3,none⟩=some (.int .i64 m.ba):=HR 3 _ rfl;have s4:wr.cell? ⟨b,off+k*8+4,none⟩=some (.int .i64 m.ix):=HR 4 _ rfl;have s5:wr.cell? ⟨b,off+k*8+5,none⟩=some (.int .i64 m.kn):=HR 5 _ rfl;have s6:wr.cell? ⟨b,off+k*8+6,none⟩=some (.string m.tx):=HR 6 _ rfl;have s7:wr.cell? ⟨b,off+k*8+7,none⟩=some (.slice b0 m.sl.length m0):=HR 7 _ rfl;have i0:(0:Int)<=(k:Int):=by omega
    have i1:(k:Int) < (Xl.length:Int):=by omega
    clear hc hr hf hm' HR;go_wp2_with fail;clear s0 s1 s2 s3 s4 s5 s6 s7;refine (Zjn lo m b0 m0 _ HF.o HS.o).mono ?_;rintro e w1 ⟨b1,m1,rfl,hb1,hf1⟩;have HB1:Hd (Zw_ w w1):=bt HB.o hb1;have HM1:=Zaa (HM.o.below hb1);have hnw:=hb1.size;have hlw:=HB.o.size;have HI1:Hd (Inn w1 wr.heap.size w1.heap.size g (m,b1,m1)):=⟨_,_,Nat.le_refl _,hb1.size,Nat.le_refl _,Or.inl HM.o.up,hf1⟩;clear hb1 hf1 HM HB HF;rw [show (rmL m b1 m1).toArray=#[.int .i64 m.kd,.int .i64 m.fr,.int .i64 m.tt,.int .i64 m.ba,.int .i64 m.ix,.int .i64 m.kn,.string m.tx,.slice b1 m.sl.length m1] from rfl]
    have HIo:Hd (∀ o,Inn (w1.alloc o) wr.heap.size (w1.alloc o).heap.size g (m,b1,m1)):=fun o=>by
     obtain⟨l,u,h1,h0,h2,h3,h4⟩:=HI1.o;exact⟨l,u,h1,h0,Nat.le_trans h2 (Zab w1 o).size,h3,h4.below (Zab _ _)⟩
    go_wp2_with (at_builtin;refine Zcl Zb3 (by decide) underlying32 Zcz rfl (w:=w1.alloc _) (lo:=g) (hi':=g+1) (L:=L) [(m,b1,m1)] rfl (.tmp 12) (.tmp 18) rfl rfl (HM1.o.below (Zab _ _)).row (some ⟨w1.heap.size,0,none⟩) 1 1 rfl rfl (fun e=>by cases e) (fun ad e j u hu=>by
     injection e with e
     subst e;rw [Addr.add_lit,Nat.zero_add,(Box.new w1 _ _ _ rfl).cell j]
     simpa [Zai,mxL,rmL] using hu) (Zdt _) (by have:=HLl.o;simp;omega) (by decide) ?_;intro v' w' h1 h2;have H1:=Zaa h1;have H2:=Zaa h2;clear h1 h2)
    have hsz:=HB1.o.size;obtain⟨g',hg'⟩:=(HM1.o.below (Zab _ _)).snoc (by simp;omega) (HIo.o _) H1.o H2.o hlw;have HG:=Zaa hg';have HBn:Hd (Zw_ w w'):=(bt HB1.o (Zab _ _)).trans ((H1.o.under (by have:=HM1.o.lt;simp;omega)).mono HM1.o.low);clear hg';go_roundw
    . exact⟨k+1,g',L ++ [(m,b1,m1)],by go_num,by omega,HBn.o,HG.o,by rw [List.map_append,HL.o,List.take_succ_eq_append_getElem hlt,HX.o];rfl⟩
    . simp [intOf];omega
  . go_wp2
    go_ret;exact⟨_,g,L,rfl,HB.o,HM.o,by rw [HL.o,List.take_of_length_le (by omega)]⟩
end
section
variable {w w':World} {lo hi g:Nat} {v:Value} {L:List AX}
def InA (w:World) (lo hi g:Nat) (x:AX):Prop:=∃ l u,lo<=l/\l<=u/\u<=hi/\(g < l\/u<=g)/\ZaH inL 1 w l u (.slice x.2.1 x.1.fr.length x.2.2) x.1.fr
structure AR (w:World) (lo hi g:Nat) (v:Value) (L:List AX):Prop where
 row:ZaH axL 2 w g (g+1) v L
 low:lo<=g
 up:g < hi
 inn:∃ c:Nat->Nat×Nat,(∀ i,i < L.length->lo<=(c i).1/\(c i).1<=(c i).2/\(c i).2<=hi/\(g < (c i).1\/(c i).2<=g))/\(∀ i j,i < L.length->j < L.length->i≠j->(c i).2<=(c j).1\/(c j).2<=(c i).1)/\∀ i (h:i < L.length),ZaH inL 1 w (c i).1 (c i).2 (.slice L[i].2.1 L[i].1.fr.length L[i].2.2) L[i].1.fr
theorem AR.below (h:AR w lo hi g v L) (hb:Zw_ w w'):AR w' lo hi g v L:=by
 obtain⟨c,h1,h2,h3⟩:=h.inn;exact⟨h.row.below hb,h.low,h.up,c,h1,h2,fun i hi=>(h3 i hi).below hb⟩
theorem AR.touch (h:AR w lo hi g v L) {lo' hi':Nat} (ht:Zad lo' hi' w w') (hh:hi<=lo'\/hi'<=lo):AR w' lo hi g v L:=by
 obtain⟨c,h1,h2,h3⟩:=h.inn;exact⟨h.row.touch ht (by have:=h.low;have:=h.up;omega),h.low,h.up,c,h1,h2,fun i hi=>(h3 i hi).touch ht (by have:=h1 i hi;omega)⟩
theorem AR.lt (h:AR w lo hi g v L):g < w.heap.size:=by
 obtain⟨g',cap,-,hr⟩:=h.row;have h1:=hr.bs;have h2:=hr.up;have h3:=hr.lt
 omega
theorem AR.snoc {W W':World}{n:Nat}{v':Value}{x:AX} (h:AR W lo n g v L) (_hn:n<=W.heap.size) (hx:InA W n W.heap.size g x) (ht:Zad g (g+1) W W') (hf:ZaH axL 2 W' g (g+1) v' (L ++ [x])\/ZaH axL 2 W' W.heap.size W'.heap.size v' (L ++ [x])) (hlo:lo<=n):∃ g',AR W' lo W'.heap.size g' v' (L ++ [x]):=by
 obtain⟨c,h1,h2,h3⟩:=h.inn;obtain⟨l,u,x1,x2,x3,x4,x5⟩:=hx;have hsz:=ht.size;have hll:(L ++ [x]).length=L.length+1:=by simp
 obtain⟨d,hd⟩:∃ d:Nat->Nat×Nat,d=fun i=>if i=L.length then (l,u) else c i:=⟨_,rfl⟩
 have e1:∀ i,i < L.length->d i=c i:=fun i hi=>by rw [hd];exact if_neg (by omega)
 have e2:d L.length=(l,u):=by rw [hd];exact if_pos rfl
 have seg:∀ i,i < (L ++ [x]).length->lo<=(d i).1/\(d i).1<=(d i).2/\(d i).2<=W.heap.size/\(g < (d i).1\/(d i).2<=g):=fun i hi=>by
  by_cases q:i < L.length
  . rw [e1 i q];have:=h1 i q;omega
  . rw [show i=L.length by omega,e2];exact⟨by omega,x2,x3,x4⟩
 have ap:∀ i j,i < (L ++ [x]).length->j < (L ++ [x]).length->i≠j->(d i).2<=(d j).1\/(d j).2<=(d i).1:=fun i j hi hj hne=>by
  by_cases q:i < L.length
  . by_cases r:j < L.length
    . rw [e1 i q,e1 j r];exact h2 i j q r hne
    . rw [e1 i q,show j=L.length by omega,e2];have:=h1 i q;simp only [];omega
  . rw [show i=L.length by omega,e2,e1 j (by omega)];have:=h1 j (by omega);simp only [];omega
 have inn:∀ i (hi:i < (L ++ [x]).length),ZaH inL 1 W' (d i).1 (d i).2 (.slice (L ++ [x])[i].2.1 (L ++ [x])[i].1.fr.length (L ++ [x])[i].2.2) (L ++ [x])[i].1.fr:=fun i hi=>by
  have hs:=seg i hi;refine ZaH.touch ?_ ht (by omega)
  by_cases q:i < L.length
  . rw [e1 i q,List.getElem_append_left q];exact h3 i q
  . have e:i=L.length:=by omega
    subst e;have ex:(L ++ [x])[L.length]=x:=by simp
    rw [e2,ex];exact x5
 rcases hf with hf | hf
 . exact⟨g,hf,h.low,by have:=h.up;omega,d,fun i hi=>by have:=seg i hi;omega,ap,inn⟩
 . obtain⟨g',cap,q1,q2⟩:=hf
   have hbs:=q2.bs;exact⟨g',⟨g',cap,q1,q2.own⟩,by omega,q2.lt,d,fun i hi=>by have:=seg i hi;omega,ap,inn⟩
theorem AR.ras {Xl:List Ra} (h:AR w lo hi g v L) (hL:L.map (·.1)=Xl):ZbA lo w v Xl:=by
 subst hL;refine h.row.ras h.low fun i hi=>?_
 obtain⟨c,h1,h2,h3⟩:=h.inn;exact (h3 i hi).ris.at.mono (h1 i hi).1
end
def ZkD {X:Type} (r:X->X->Bool) (L:List X):Nat->Bool
 | 0=>true
 | j+1=>match L[j]?,L[j+1]? with
  | some x,some y=>r x y
  | _,_=>true
def ZkN {X:Type} (r:X->X->Bool) (L:List X):Bool:=(List.range L.length).all (ZkD r L)
theorem Zik {X:Type}{r:X->X->Bool}{L:List X}{j:Nat} (h:j+1 < L.length):ZkD r L (j+1)=r L[j] L[j+1]:=by
 show (match L[j]?,L[j+1]? with | some x,some y=>r x y | _,_=>true)=_
 rw [List.getElem?_eq_getElem (by omega),List.getElem?_eq_getElem h]
def Zg1 (a b:Int):Int:=if a < b then -1 else if b < a then 1 else 0
theorem ZeW {a b:Int}:Zg1 a b < 0↔a < b:=by unfold Zg1;split <;> (try split) <;> omega
theorem Ze1 (a:Int) (w:World):Calls prog 200 #[.int .i64 a] w fun e w'=>e=.returned (.bool false)/\w'=w:=by
 go_enter func200,ntmps200;go_wp2;go_ret;exact⟨rfl,rfl⟩
theorem ZeB (a b:Int) (w:World) :
 Calls prog 189 #[.int .i64 a,.int .i64 b] w fun e w'=>e=.returned (.int .i64 (Zg1 a b))/\w'=w:=by
 by_cases h1:a < b
 . have HE:Hd (Zg1 a b= -1):=if_pos h1
   go_enter func189,ntmps189;go_wp2_with (go_at_call 200;refine (Ze1 _ _).mono ?_;rintro e w' ⟨rfl,rfl⟩);go_ret;exact⟨Zdx HE.o.symm,rfl⟩
 . by_cases h2:b < a
   . have HE:Hd (Zg1 a b=1):=by unfold Hd Zg1;rw [if_neg h1,if_pos h2]
     go_enter func189,ntmps189;go_wp2_with (go_at_call 200;refine (Ze1 _ _).mono ?_;rintro e w' ⟨rfl,rfl⟩);go_ret;exact⟨Zdx HE.o.symm,rfl⟩
   . have HE:Hd (Zg1 a b=0):=by unfold Hd Zg1;rw [if_neg h1,if_neg h2]
     go_enter func189,ntmps189;go_wp2_with (go_at_call 200;refine (Ze1 _ _).mono ?_;rintro e w' ⟨rfl,rfl⟩);go_ret;exact⟨Zdx HE.o.symm,rfl⟩
theorem Zah (n lo hi:Int) (w:World) :
 Calls prog 33 #[.int .i64 n,.int .i64 lo,.int .i64 hi] w fun e w'=>e=.returned (.bool (inB lo hi n))/\w'=w:=by
 rw [ZgF]
 by_cases h:lo<=n
 . by_cases h2:n<=hi
   . go_enter func33,ntmps33
     go_wp2;go_ret;exact⟨by rw [decide_eq_true h,decide_eq_true h2];rfl,rfl⟩
   . go_enter func33,ntmps33
     go_wp2;go_ret;exact⟨by simp [h2],rfl⟩
 . go_enter func33,ntmps33
   go_wp2;go_ret;exact⟨by rw [decide_eq_false (show ¬ lo<=n by omega)];rfl,rfl⟩
theorem Zeg (lo hi:Nat) (a:Option Addr) (m:Nat) (D:Rd) (k:Int) (w:World) (h:Zap lo hi w (.slice a D.sl.length m) D.sl) (hn:Zcx D) (h0:0<=k) (hk:k<=2000000000000000000) :
 Calls prog 79 #[.agg #[.int .i64 D.pr,.int .i64 D.kn,.slice a D.sl.length m],.int .i64 k] w fun e w'=>e=.returned (.int .i64 (k+(Zbr D.sl D.sl.length:Int)))/\Zad lo hi w w'/\Zap lo hi w' (.slice a D.sl.length m) (Zcr k D.sl):=by
 have H:=Zaa h;clear h;have HO:∀ o,Hd (Zw_ w (w.alloc o)):=fun o=>Zab w o
 go_enter func79,ntmps79;go_wp2_with fail;refine (ZcW lo hi _ D.sl k _ (H.o.below (HO _).o) hn h0 hk).mono ?_;rintro e w1 ⟨rfl,ht,ho⟩;have HT:=Zaa ((Zad.below (HO _).o).trans ht);have HW:=Zaa ho;clear ht ho;go_wp2;go_ret;exact⟨rfl,HT.o,HW.o⟩
theorem Zd9 (lo hi:Nat) (a:Option Addr) (m:Nat) (D:Rd) (k:Int) (w:World) (h:Zap lo hi w (.slice a D.sl.length m) (Zcr k D.sl)) (hn:Zcx D) (h0:0<=k) (hk:k<=2000000000000000000) :
 Calls prog 85 #[.agg #[.int .i64 D.pr,.int .i64 D.kn,.slice a D.sl.length m],.int .i64 k] w fun e w'=>e=.returned (.int .i64 (k+(Zbr D.sl D.sl.length:Int)))/\Zw_ w w':=by
 have H:=Zaa h;clear h;have HO:∀ o,Hd (Zw_ w (w.alloc o)):=fun o=>Zab w o
 go_enter func85,ntmps85;go_wp2_with fail;refine (ZcV lo hi _ D.sl k _ (H.o.below (HO _).o) hn h0 hk).mono ?_;rintro e w1 ⟨rfl,hb⟩;have HB:=Zaa (bt (HO _).o hb);clear hb;obtain⟨q,hq⟩:∃ q:Int,q=k+(Zbr D.sl D.sl.length:Int):=⟨_,rfl⟩
 rw [<- hq];have hq0:¬ q < 0:=by omega
 have HQ:=Zaa hq;clear hq;go_wp2;go_ret;exact⟨Zdx HQ.o,HB.o⟩
variable {w:World} {lo hi g:Nat} {v:Value}
theorem Zay.rts {L:List Zy_} (h:Zay tyL 1 w lo hi v L) (hz:∀ i (h:i < L.length),L[i].size<=maxLen):ZaX lo hi w v L:=by
 rcases h with ⟨h,rfl⟩ | h
 . exact Or.inl ⟨_,_,h,rfl⟩
 . exact h.rts hz
theorem Zay.ris {L:List Int} (h:Zay inL 1 w lo hi v L):ZaD lo hi w v L:=by
 rcases h with ⟨h,rfl⟩ | h
 . exact Or.inl ⟨_,_,h,rfl⟩
 . exact h.ris
structure Zfa {X:Type} (P:X->World->Nat->Nat->Prop) (w:World) (lo hi g:Nat) (L:List X) (c:Nat->Nat×Nat):Prop where
 seg:∀ i,i < L.length->lo<=(c i).1/\(c i).1<=(c i).2/\(c i).2<=hi/\(g < (c i).1\/(c i).2<=g)
 ap:∀ i j,i < L.length->j < L.length->i≠j->(c i).2<=(c j).1\/(c j).2<=(c i).1
 inn:∀ i (h:i < L.length),P L[i] w (c i).1 (c i).2
structure Clo {X:Type} (P:X->World->Nat->Nat->Prop):Prop where
 cb:∀ {x:X} {w w':World} {lo hi:Nat},P x w lo hi->Zw_ w w'->P x w' lo hi
 ct:∀ {x:X} {w w':World} {lo hi lo' hi':Nat},P x w lo hi->Zad lo' hi' w w'->(hi<=lo'\/hi'<=lo)->P x w' lo hi
theorem Zfa.below {X:Type}{P:X->World->Nat->Nat->Prop} (hP:Clo P) {w w':World} {lo hi g:Nat} {L:List X} {c:Nat->Nat×Nat} (h:Zfa P w lo hi g L c) (hb:Zw_ w w'):Zfa P w' lo hi g L c:=
 ⟨h.seg,h.ap,fun i hi=>hP.cb (h.inn i hi) hb⟩
theorem Zfa.touch {X:Type}{P:X->World->Nat->Nat->Prop} (hP:Clo P) {w w':World} {lo hi g lo' hi':Nat} {L:List X} {c:Nat->Nat×Nat} (h:Zfa P w lo hi g L c) (ht:Zad lo' hi' w w') (ho:∀ i,i < L.length->(c i).2<=lo'\/hi'<=(c i).1):Zfa P w' lo hi g L c:=
 ⟨h.seg,h.ap,fun i hi=>hP.ct (h.inn i hi) ht (ho i hi)⟩
theorem Zfa.wide {X:Type}{P:X->World->Nat->Nat->Prop}{lo' hi':Nat}{L:List X}{c:Nat->Nat×Nat} (h:Zfa P w lo hi g L c) (h1:lo'<=lo) (h2:hi<=hi'):Zfa P w lo' hi' g L c:=
 ⟨fun i hi=>by have:=h.seg i hi;omega,h.ap,h.inn⟩
def Zlg {X:Type} (P:X->World->Nat->Nat->Prop) (f:X->List Value) (n:Nat) (w:World) (lo hi:Nat) (v:Value) (L:List X):Prop:=∃ g c,ZaH f n w g (g+1) v L/\lo<=g/\g < hi/\Zfa P w lo hi g L c
def ZbO {X:Type} (P:X->World->Nat->Nat->Prop) (f:X->List Value) (n:Nat) (w:World) (lo hi:Nat) (v:Value) (L:List X):Prop:=(v=.slice none 0 0/\L=[])\/Zlg P f n w lo hi v L
theorem ZbO.below {X:Type}{P:X->World->Nat->Nat->Prop} (hP:Clo P) {f:X->List Value} {n:Nat} {w w':World} {lo hi:Nat} {v:Value} {L:List X} (h:ZbO P f n w lo hi v L) (hb:Zw_ w w'):ZbO P f n w' lo hi v L:=
 h.imp id fun ⟨g,c,h1,h2,h3,h4⟩=>⟨g,c,h1.below hb,h2,h3,h4.below hP hb⟩
theorem ZbO.touch {X:Type}{P:X->World->Nat->Nat->Prop} (hP:Clo P) {f:X->List Value} {n:Nat} {w w':World} {lo hi lo' hi':Nat} {v:Value} {L:List X} (h:ZbO P f n w lo hi v L) (ht:Zad lo' hi' w w') (ho:hi<=lo'\/hi'<=lo):ZbO P f n w' lo hi v L:=
 h.imp id fun ⟨g,c,h1,h2,h3,h4⟩=>⟨g,c,h1.touch ht (by omega),h2,h3,h4.touch hP ht fun i hi=>by have:=h4.seg i hi;omega⟩
theorem ZbO.set {X:Type}{P:X->World->Nat->Nat->Prop} (hP:Clo P) {f:X->List Value} {n:Nat} {w:World} {lo hi:Nat} {v:Value} {L:List X} (h:ZbO P f n w lo hi v L) {p:Addr} (hp:p.block < lo) (u:Value):ZbO P f n (w.setCell p u) lo hi v L:=
 h.touch hP (Zad.setCell p.block (p.block+1) w p u ⟨Nat.le_refl _,Nat.lt_succ_self _⟩) (Or.inr hp)
theorem ZbO.form {X:Type}{P:X->World->Nat->Nat->Prop}{f:X->List Value}{n:Nat}{L:List X} (h:ZbO P f n w lo hi v L):∃ a c,v=.slice a L.length c:=by
 rcases h with ⟨h,rfl⟩ | ⟨_,_,⟨g,cap,h,_⟩,_⟩
 . exact⟨none,0,h⟩
 . exact⟨_,_,h⟩
def Zfg (c:Nat->Nat×Nat) (n:Nat) (p:Nat×Nat):Nat->Nat×Nat:=fun i=>if i=n then p else c i
theorem Zfa.snoc {X:Type}{P:X->World->Nat->Nat->Prop}{L:List X}{c:Nat->Nat×Nat} (h:Zfa P w lo hi g L c) {x:X} {l u:Nat} (hx:P x w l u) (h1:lo<=l) (h0:l<=u) (h2:u<=hi) (h3:g < l\/u<=g) (h4:∀ i,i < L.length->(c i).2<=l\/u<=(c i).1):Zfa P w lo hi g (L ++ [x]) (Zfg c L.length (l,u)):=by
 have e1:∀ i,i < L.length->Zfg c L.length (l,u) i=c i:=fun i hi=>if_neg (by omega)
 have e2:Zfg c L.length (l,u) L.length=(l,u):=if_pos rfl;have hl:(L ++ [x]).length=L.length+1:=by simp
 refine⟨fun i hi=>?_,fun i j hi hj hne=>?_,fun i hi=>?_⟩
 . by_cases e:i < L.length
   . rw [e1 i e];exact h.seg i e
   . obtain rfl:i=L.length:=by omega
     rw [e2];exact⟨h1,h0,h2,h3⟩
 . by_cases e:i < L.length
   . rw [e1 i e]
     by_cases e':j < L.length
     . rw [e1 j e'];exact h.ap i j e e' hne
     . obtain rfl:j=L.length:=by omega
       rw [e2];exact h4 i e
   . obtain rfl:i=L.length:=by omega
     rw [e2,e1 j (by omega)];exact (h4 j (by omega)).symm
 . by_cases e:i < L.length
   . rw [e1 i e,List.getElem_append_left e];exact h.inn i e
   . obtain rfl:i=L.length:=by omega
     rw [e2]
     simpa using hx
def PM (x:MX) (w:World) (lo hi:Nat):Prop:=Zay rsL 2 w lo hi (.slice x.2.1 x.1.sl.length x.2.2) x.1.sl
def PA (x:AX) (w:World) (lo hi:Nat):Prop:=Zay inL 1 w lo hi (.slice x.2.1 x.1.fr.length x.2.2) x.1.fr
theorem Zi0:Clo PM:=⟨fun h hb=>Zay.below h hb,fun h ht ho=>Zay.touch h ht ho⟩
theorem ZkW:Clo PA:=⟨fun h hb=>Zay.below h hb,fun h ht ho=>Zay.touch h ht ho⟩
end Go.Proofs.YtdeammfdkaomlaaGreat
