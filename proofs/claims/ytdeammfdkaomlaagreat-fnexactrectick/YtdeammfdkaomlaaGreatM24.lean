import Derived.Test.YtdeammfdkaomlaaGreatM17
import Derived.Test.YtdeammfdkaomlaaGreatM18
set_option maxHeartbeats 16000000
set_option maxRecDepth 100000
open Go.Proofs.Tryz
namespace Go.Proofs.YtdeammfdkaomlaaGreat
open Go.RowKit Go.Deep
section
variable {a b:List Rs} {k:Nat}
def mrg (x y:Rs):Rs:=if x.ba < y.ba then y else x
def Zas:List Rs->List Rs->List Rs
 | [],b=>b
 | x :: a,[]=>x :: a
 | x :: a,y :: b=>mrg x y :: Zas a b
theorem ZeF (a:List Rs):Zas a []=a:=by cases a <;> rfl
theorem Zbv:∀ a b:List Rs,(Zas a b).length=max a.length b.length
 | [],b=>by simp [Zas]
 | x :: a,[]=>by simp [Zas]
 | x :: a,y :: b=>by simp only [Zas,List.length_cons,Zbv a b];omega
theorem Zel:∀ (a b:List Rs) (k:Nat) (h:k < b.length),a.length<=k->Zas a (b.take (k+1))=Zas a (b.take k) ++ [b[k]]
 | [],b,k,h,_=>by
  simp only [Zas];rw [List.take_succ_eq_append_getElem h]
 | x :: a,[],k,h,_=>by simp at h
 | x :: a,y :: b,0,h,hk=>by simp at hk
 | x :: a,y :: b,k+1,h,hk=>by
  simp only [List.take_succ_cons,Zas,List.cons_append,List.getElem_cons_succ];rw [Zel a b k (by simpa using h) (by simpa using hk)]
theorem Zek:∀ (a b:List Rs) (k:Nat) (h:k < b.length) (ha:k < a.length),Zas a (b.take (k+1))=(Zas a (b.take k)).set k (mrg a[k] b[k])
 | [],b,k,h,ha=>by simp at ha
 | x :: a,[],k,h,_=>by simp at h
 | x :: a,y :: b,0,h,ha=>by simp [Zas,ZeF]
 | x :: a,y :: b,k+1,h,ha=>by
  simp only [List.take_succ_cons,Zas,List.set_cons_succ,List.getElem_cons_succ];rw [Zek a b k (by simpa using h) (by simpa using ha)]
theorem Zej:∀ (a b:List Rs) (k:Nat) (ha:k < a.length) (hk:k < (Zas a (b.take k)).length),(Zas a (b.take k))[k]=a[k]
 | [],b,k,ha,_=>by simp at ha
 | x :: a,[],k,ha,hk=>by simp [Zas]
 | x :: a,y :: b,0,ha,hk=>by simp [Zas]
 | x :: a,y :: b,k+1,ha,hk=>by
  simp only [List.take_succ_cons,Zas,List.getElem_cons_succ];exact Zej a b k (by simpa using ha) _
theorem Zf5 (h:k < b.length) (ha:k < a.length) (hq:¬ a[k].ba < b[k].ba):Zas a (b.take (k+1))=Zas a (b.take k):=by
 have hl:k < (Zas a (b.take k)).length:=by rw [Zbv];omega
 rw [Zek a b k h ha,mrg,if_neg hq]
 conv=>lhs;rw [<- Zej a b k ha hl]
 exact List.set_getElem_self _
theorem Zhk (h:k < b.length) (ha:k < a.length) (hq:a[k].ba < b[k].ba):Zas a (b.take (k+1))=(Zas a (b.take k)).set k b[k]:=by
 rw [Zek a b k h ha,mrg,if_pos hq]
def ZgY (a b:List Rs) (k:Nat):List Rs:=(List.range k).map (fun i=>mrg (a.getD i ⟨0,⟨#[]⟩⟩) (b.getD i ⟨0,⟨#[]⟩⟩))
theorem Zjc (a b:List Rs) (k:Nat):(ZgY a b k).length=k:=by unfold ZgY;simp
theorem ZhI (a b:List Rs) (k:Nat) (ha:k < a.length) (hb:k < b.length):ZgY a b (k+1)=ZgY a b k ++ [mrg a[k] b[k]]:=by
 unfold ZgY;rw [List.range_succ,List.map_append];simp [List.getD_eq_getElem?_getD,ha,hb]
theorem Zfp:∀ a b:List Rs,Zas a b=ZgY a b (min a.length b.length) ++ a.drop (min a.length b.length) ++ b.drop (min a.length b.length)
 | [],b=>by simp [Zas,ZgY]
 | x :: a,[]=>by simp [Zas,ZgY]
 | x :: a,y :: b=>by
  have hm:min (a.length+1) (b.length+1)=min a.length b.length+1:=by omega
  simp only [Zas,List.length_cons,hm,List.drop_succ_cons];rw [Zfp a b];unfold ZgY;rw [List.range_succ_eq_map,List.map_cons,List.map_map];simp only [List.cons_append]
  congr 1
theorem LR.store {w:World}{base g cap:Nat}{L:List Rs} (h:LR w base g cap L) {k:Nat} (hk:k < L.length) (x:Rs) (hx:ZaJ x) :
 LR ((w.setCell ⟨g,k*2,none⟩ (.int .i64 x.ba)).setCell ⟨g,k*2+1,none⟩ (.string x.tx)) base g cap (L.set k x):=by
 have hle:=h.le;have hf:∀ (W:World) (p:Addr) (u:Value) (q:Addr),(W.setCell p u).frozen? q=W.frozen? q:=fun W p u q=>World.frozen?_setCell _ _ _ _
 have hc:∀ j,((w.setCell ⟨g,k*2,none⟩ (.int .i64 x.ba)).setCell ⟨g,k*2+1,none⟩ (.string x.tx)).cell? ⟨g,j,none⟩=if j=k*2+1 then some (.string x.tx) else if j=k*2 then some (.int .i64 x.ba) else w.cell? ⟨g,j,none⟩:=by
  intro j;have s1:(w.cell? ⟨g,k*2,none⟩).isSome=true:=h.th _ (by omega);have s2:(w.cell? ⟨g,k*2+1,none⟩).isSome=true:=h.th _ (by omega);have:=World.cell?_setCells_in g [.int .i64 x.ba,.string x.tx] (k*2) w (fun j hj=>h.th _ (by simp at hj;omega))
  by_cases e1:j=k*2+1
  . subst e1
    rw [if_pos rfl];exact this 1 (by simp)
  . rw [if_neg e1]
    by_cases e2:j=k*2
    . subst e2
      rw [if_pos rfl];exact this 0 (by simp)
    . rw [if_neg e2]
      exact World.cell?_setCells_out g [.int .i64 x.ba,.string x.tx] (k*2) w ⟨g,j,none⟩ (fun _ _=>by simp only [List.length_cons,List.length_nil];omega)
 refine⟨h.bs,by simpa [World.setCell] using h.lt,by rw [List.length_set];exact h.le,h.mx,fun j hj=>?_,fun j=>by rw [hf,hf];exact h.fz j,fun j u hu=>?_,fun i hi=>?_⟩
 . rw [hc]
   split
   . rfl
   . split
     . rfl
     . exact h.th j hj
 . rw [Nat.zero_add,hc]
   have hj:=(List.getElem?_eq_some_iff.1 hu).1;rw [Zaw ZaC,List.length_set] at hj;have hi:j / 2 < (L.set k x).length:=by rw [List.length_set];omega
   have e0:=Zbt ZaC (L.set k x) (j / 2) (j % 2) hi (by omega);rw [show j / 2*2+j % 2=j by omega,hu,List.getElem_set] at e0
   by_cases e1:j=k*2+1
   . rw [if_pos e1]
     rw [if_pos (by omega),show j % 2=1 by omega] at e0;exact e0.symm
   . rw [if_neg e1]
     by_cases e2:j=k*2
     . rw [if_pos e2]
       rw [if_pos (by omega),show j % 2=0 by omega] at e0;exact e0.symm
     . rw [if_neg e2]
       have hi':j / 2 < L.length:=by omega
       rw [if_neg (by omega)] at e0;have e3:=Zbt ZaC L (j / 2) (j % 2) hi' (by omega);rw [show j / 2*2+j % 2=j by omega,<- e0] at e3;have:=h.rg j u e3
       rwa [Nat.zero_add] at this
 . rw [List.getElem_set]
   split
   . exact hx
   . exact h.sz i (by simpa using hi)
end
theorem ZbT {w:World}{base:Nat}{v:Value}{L:List Rs} (M:List Rs) {ops:Array Oper} {rest:List Oper} {o:Oper} {a:Act} {Q:Exit->Act->World->Prop} (hgd:o.guard=none) (s x:Operand)
 (ho:o.op=.call { callee:=.builtin .append,args:=#[s,x],argTypes:=#[56,56] }) (hs:a.eval s=v) (h:ZeR w base v L) (ao:Option Addr) (m c:Nat) (hx:a.eval x=.slice ao m c) (hM:m=M.length) (hm:ao=none->m=0)
 (hsrc:∀ ad,ao=some ad->∀ j u,(Zai rsL M)[j]?=some u->w.cell? (ad.add j)=some u) (hz:∀ i (h:i < M.length),ZaJ M[i]) (hb:L.length+M.length<=10000000) (hbase:base<=w.heap.size)
 (K:∀ v' w',ZeR w' base v' (L ++ M)->Below base w w'->wpList prog ops Q rest (a.put o.dst v') w'):wpList prog ops Q (o :: rest) a w:=by
 obtain⟨v',w',h1,h2,h3⟩:=ZjJ o.type h ao m c hM hm hsrc hz hb hbase;exact wpList_append_run hgd s x _ ho hs hx h1 (K v' w' h2 h3)
theorem ZjX (X:World) (cs:Array Value) (t:TypeId) (cap:Nat) (hs:cs.size=cap*2) (hm:cap<=maxLen):LR (X.alloc (.cells cs t)) X.heap.size X.heap.size cap []:=
 ⟨Nat.le_refl _,by simp,Nat.zero_le _,hm,fun j hj=>by rw [(Box.new X cs t _ rfl).cell j,Array.getElem?_eq_getElem (by omega)];rfl,fun j=>(Box.new X cs t _ rfl).free j,fun j u hu=>by simp [Zai] at hu,fun i hi=>by simp at hi⟩
theorem Zfm (lo:Nat) (v:Value) (L:List Rs) (w:World) (hv:Zat lo w v L) (hn:L.length<=1048576) :
 Calls prog 127 #[v] w fun e w'=>∃ v',e=.returned v'/\Zw_ w w'/\ZeR w' w.heap.size v' L:=by
 have HV:=Zaa hv;obtain⟨a,cap,rfl⟩:=hv.form;clear hv;have HO:∀ o,Hd (Zw_ w (w.alloc o)):=fun o=>Zab w o
 go_enter func127,ntmps127;go_wp2_with (at_builtin;refine ZbT (w:=w.alloc _) (base:=w.heap.size) (L:=[]) L rfl (.tmp 3) (.tmp 4) rfl rfl ⟨w.heap.size,0,rfl,ZjX w _ _ 0 rfl Zz_⟩ a L.length cap rfl rfl (fun e=>HV.o.nilN e) ((HV.o.below (HO _).o).src) (fun i hi=>HV.o.sizes i hi) (by simp;omega) (by simp) ?_;intro v' w' h1 h2;have H1:=Zaa h1;have H2:=Zaa h2;clear h1 h2);go_ret;refine⟨v',rfl,(HO _).o.trans H2.o,?_⟩;have:=H1.o
 rwa [List.nil_append] at this
def Zhw (L:List Rs) (tx:Zy_):Bool:=L.any (fun x=>x.tx.toList == tx.toList)
theorem Zhg (x:Rs) (tb:Nat) (tx:Zy_) (w:World) (hb:w.cell? ⟨tb,0,none⟩=some (.string tx)) (hl:tb < w.heap.size) :
 Calls prog 211 #[.agg #[.int .i64 x.ba,.string x.tx],.pointer (some ⟨tb,0,none⟩)] w fun e w'=>e=.returned (.bool (x.tx.toList == tx.toList))/\Zw_ w w':=by
 have g:∀ o,(w.alloc o).cell? ⟨tb,0,none⟩=some (.string tx):=fun o=>((Zab w o).cell (p:=⟨tb,0,none⟩) hl).trans hb
 have HO:∀ o,Hd (Zw_ w (w.alloc o)):=fun o=>Zab w o
 clear hb
 cases q:(x.tx.toList == tx.toList) with
 | false=>
  go_enter func211,ntmps211;go_wp2;go_ret;exact⟨rfl,(HO _).o⟩
 | true=>
  go_enter func211,ntmps211;go_wp2;go_ret;exact⟨rfl,(HO _).o⟩
theorem Zha (lo:Nat) (v:Value) (L:List Rs) (tb:Nat) (tx:Zy_) (w:World) (hv:Zat lo w v L) (hb:w.cell? ⟨tb,0,none⟩=some (.string tx)) (hl:tb < w.heap.size) :
 Calls prog 219 #[v,.func (.func 211) #[] #[.pointer (some ⟨tb,0,none⟩)]] w fun e w'=>(∃ r:Int,e=.returned (.int .i64 r)/\decide (0<=r)=Zhw L tx)/\Zw_ w w':=by
 have HV:=Zaa hv;have HTB:=Zaa hb;have hm:=hv.max;unfold maxLen at hm;obtain⟨a,cap,rfl⟩:=hv.form;clear hv hb;have HE:Hd (Zhw L tx=L.any (fun x=>x.tx.toList == tx.toList)):=rfl;go_enter func219,ntmps219;go_wp2
 go_loopw [8] (fun i wr=>∃ k:Nat,i=.int .i64 k/\k<=L.length/\Zw_ w wr/\∀ j (hj:j < L.length),j < k->(L[j].tx.toList == tx.toList)=false) (fun i _=>L.length - (intOf i).toNat)
 case atStart=>exact⟨0,rfl,by omega,Below.refl _ _,fun j _ h=>by omega⟩
 case round=>
  obtain⟨k,rfl,hk,hb,hall⟩:=hrel;have HAL:=Zaa hall;have HB:=Zaa hb;clear hall hb
  by_cases hlt:k < L.length
  . obtain⟨b,off,rfl,hbw,-,hc⟩:=(HV.o.below HB.o).full' (by omega)
    obtain⟨hsz,hcc⟩:=hc k hlt;obtain⟨x,hx⟩:∃ x,x=L[k]:=⟨_,rfl⟩
    rw [<- hx] at hsz hcc;have HX:=Zaa hx;obtain⟨e0,e1⟩:=hcc;have i0:(0:Int)<=(k:Int):=by omega
    have i1:(k:Int) < (L.length:Int):=by omega
    clear hc hsz hx;go_wp2_with fail;clear e0 e1;refine (Zhg x tb tx wr ((HB.o.cell (p:=⟨tb,0,none⟩) hl).trans HTB.o) (Zk_ hl HB.o.size)).mono ?_;rintro e w1 ⟨rfl,hb1⟩;have HB1:=Zaa (bt HB.o hb1);clear hb1
    cases q:(x.tx.toList == tx.toList) with
    | true=>
     have HT:Hd (Zhw L tx=true):=by unfold Hd;rw [HE.o];exact ZhE hlt (by rw [<- HX.o,q])
     go_wp2;go_ret;exact⟨⟨k,rfl,by rw [HT.o];simp⟩,HB1.o⟩
    | false=>
     have HQ:=Zaa q;go_wp2;go_roundw
     case rel=>exact⟨k+1,by go_num,by omega,HB1.o,fun j hj hjk=>by
                by_cases e:j=k
                . subst e;rw [<- HX.o];exact HQ.o
                . exact HAL.o j hj (by omega)⟩
     . simp [intOf];omega
  . have HT:Hd (Zhw L tx=false):=by unfold Hd;rw [HE.o];exact ZjT (fun i hi=>HAL.o i hi (by omega))
    go_wp2;go_ret;exact⟨⟨-1,rfl,by rw [HT.o];rfl⟩,HB.o⟩
theorem ZeX (lo:Nat) (v:Value) (L:List Rs) (tb:Nat) (tx:Zy_) (w:World) (hv:Zat lo w v L) (hb:w.cell? ⟨tb,0,none⟩=some (.string tx)) (hl:tb < w.heap.size) :
 Calls prog 210 #[v,.func (.func 211) #[] #[.pointer (some ⟨tb,0,none⟩)]] w fun e w'=>e=.returned (.bool (Zhw L tx))/\Zw_ w w':=by
 have HV:=Zaa hv;have HTB:=Zaa hb;obtain⟨a,cap,rfl⟩:=hv.form;clear hv hb;go_enter func210,ntmps210;go_wp2_with fail;refine (Zha lo _ L tb tx _ HV.o HTB.o hl).mono ?_;rintro e w' ⟨⟨r,rfl,hr⟩,hb'⟩;have HR:=Zaa hr;have HB:=Zaa hb';clear hr hb';go_wp2;go_ret;exact⟨Zac HR.o,HB.o⟩
theorem ZcU (lo:Nat) (v:Value) (L:List Rs) (tx:Zy_) (w:World) (hv:Zat lo w v L) :
 Calls prog 202 #[v,.string tx] w fun e w'=>e=.returned (.bool (Zhw L tx))/\Zw_ w w':=by
 have HV:=Zaa hv;obtain⟨a,cap,rfl⟩:=hv.form;clear hv;go_enter func202,ntmps202;go_wp2_with fail
 obtain⟨wz,hwz,FX,HB⟩:∃ wz,wz=w.alloc (.cells #[.string tx] 9)/\Hd (Box wz w.heap.size #[.string tx])/\Hd (Zw_ w wz):=
  ⟨_,rfl,Box.new _ _ _ _ (by simp),Zab _ _⟩
 rw [<- hwz];clear hwz;refine (ZeX lo _ L w.heap.size tx _ (HV.o.below HB.o) (FX.o.cell 0) FX.o.lt).mono ?_;rintro e w1 ⟨rfl,hb⟩;have HB1:=Zaa (bt HB.o hb);clear hb;go_wp2;go_ret;exact⟨rfl,HB1.o⟩
theorem Zh6 (lo:Nat) (D:Rd) (a:Option Addr) (c:Nat) (tx:Zy_) (w:World) (hv:Zat lo w (.slice a D.sl.length c) D.sl) (h0:0<=D.kn) (h1:D.kn<=(D.sl.length:Int)) :
 Calls prog 192 #[.agg #[.int .i64 D.pr,.int .i64 D.kn,.slice a D.sl.length c],.string tx] w fun e w'=>e=.returned (.bool (Zhw (D.sl.take D.kn.toNat) tx))/\Zw_ w w':=by
 have HV:=Zaa hv
 have hcap:D.sl.length<=c:=by
  rcases HV.o with ⟨_,_,h1,h2⟩ | ⟨_,_,_,h1,_,_,_,_,h6,_⟩
  . rw [h2];simp
  . injection h1 with e1 e2 e3
    omega
 have hm:=hv.max;unfold maxLen at hm;have r2:D.kn<=(c:Int):=by omega
 have HDT:Hd (Zat lo w (.slice a D.kn.toNat c) (D.sl.take D.kn.toNat)):=hv.takeR _ rfl (by omega);clear hv;go_enter func192,ntmps192;go_wp2_with fail;obtain⟨wz,hwz,HB⟩:∃ wz,wz=w.alloc (.cells #[.int .i64 D.pr,.int .i64 D.kn,.slice a D.sl.length c] 58)/\Hd (Zw_ w wz):=⟨_,rfl,Zab _ _⟩
 rw [<- hwz];clear hwz;refine (ZcU lo _ (D.sl.take D.kn.toNat) tx _ (HDT.o.below HB.o)).mono ?_;rintro e w1 ⟨rfl,hb⟩;have HB1:=Zaa (bt HB.o hb);clear hb;go_wp2;go_ret;exact⟨rfl,HB1.o⟩
theorem Zdo (lo:Nat) (D:Rd) (a:Option Addr) (c:Nat) (w:World) (hv:Zat lo w (.slice a D.sl.length c) D.sl) (hn:D.sl.length<=1048576) :
 Calls prog 145 #[.agg #[.int .i64 D.pr,.int .i64 D.kn,.slice a D.sl.length c]] w fun e w'=>∃ b m,e=.returned (.agg #[.int .i64 D.pr,.int .i64 D.kn,.slice b D.sl.length m])/\Zw_ w w'/\Zay rsL 2 w' w.heap.size w'.heap.size (.slice b D.sl.length m) D.sl:=by
 have HV:=Zaa hv;clear hv;go_enter func145,ntmps145;go_wp2_with fail
 obtain⟨wz,hwz,FX,FR,HB⟩:∃ wz,wz=(w.alloc (.cells #[.int .i64 D.pr,.int .i64 D.kn,.slice a D.sl.length c] 58)).alloc (.cells #[.int .i64 0,.int .i64 0,.slice none 0 0] 58)/\
  Hd (Box wz w.heap.size #[.int .i64 D.pr,.int .i64 D.kn,.slice a D.sl.length c])/\Hd (Box wz (w.heap.size+1) #[.int .i64 0,.int .i64 0,.slice none 0 0])/\Hd (Zw_ w wz):=
  ⟨_,rfl,(Box.new w _ _ _ rfl).on (Zab _ _),Box.new _ _ _ _ (by simp),(Zab _ _).trans ((Zab _ _).mono (by simp))⟩
 rw [<- hwz];clear hwz;have hz0:w.heap.size+2<=wz.heap.size:=by have:=FR.o.lt;omega
 refine (ZcI lo _ D.sl _ (HV.o.below HB.o) hn).mono ?_;rintro e x0 ⟨u,rfl,hb,hs⟩;obtain⟨b0,m0,rfl⟩:=hs.form;have hx0:wz.heap.size<=x0.heap.size:=hb.size;have N0:Hd (Zay rsL 2 x0 wz.heap.size x0.heap.size (.slice b0 D.sl.length m0) D.sl):=hs;replace FX:=Zaa (FX.o.on hb);replace FR:=Zaa (FR.o.on hb);replace HB:=Zaa (bt HB.o hb);clear hb hs;have g0:=FX.o.cell;have g1:=FX.o.free;have g2:=FR.o.cell;have g3:=FR.o.free;go_wp2;refine bodyPost_ret (v:=.agg #[.int .i64 D.pr,.int .i64 D.kn,.slice b0 D.sl.length m0]) (by simp [results,results145,go_sem,g2]) rfl ⟨b0,m0,rfl,?_,?_⟩
 . repeat (refine Below.setCell ?_ (by simp only [];omega) _)
   exact HB.o
 . refine Zay.wide (lo:=wz.heap.size) (hi:=x0.heap.size) ?_ (by omega) (by simp [World.setCell])
   repeat (refine Zay.set ?_ (by simp only [];omega) _)
   exact N0.o
end Go.Proofs.YtdeammfdkaomlaaGreat
