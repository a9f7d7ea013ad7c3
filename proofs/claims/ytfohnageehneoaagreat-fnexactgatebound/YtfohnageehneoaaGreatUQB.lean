import Derived.Test.YtfohnageehneoaaGreatUOI
import Derived.Lib.Overlaps
import Derived.Lib.AppendZeros
import Derived.Defers
set_option maxHeartbeats 16000000
set_option maxRecDepth 100000
open Go.Proofs.Tryz
namespace Go.Proofs.YtfohnageehneoaaGreat
open Go.RowKit Go.Deep
variable {P:Program} {hi lo' hi' base sz n p l0 l1 b off cap k:Nat} {w' W wr wr':World} {e:TypeId} {v:Value} {cs:List Value} {Ls F:List Le} {x:Le}
theorem Zc7 (w:World) (dT sT ty elem:TypeId) (k g o dLen dCap:Nat) (a:Addr) (sLen sCap m:Nat) (cur:Array Value) (t:TypeId) (cs:List Value)
 (hu:P.underlying dT=some (.slice elem)) (hs:(P.info? elem).map (·.size)=some k) (hm:Nat.min sLen dLen=m)
 (hg:w.heap[g]?=some (.cells cur t (0,0))) (hn:cs.length=m*k)
 (hsrc:∀ j v,cs[j]?=some v->w.cell? (a.add j)=some v) (hfit:o+cs.length<=cur.size) (h1:∀ v ∈ cs,v.oneCell'=true) :
 (Builtin.copy_ #[dT,sT] ty #[.slice (some ⟨g,o,none⟩) dLen dCap,.slice (some a) sLen sCap]).run P w=
   .ok (goInt m) (w.setRow g (cur.toList.take o ++ cs ++ cur.toList.drop (o+cs.length)).toArray):=by
 subst hm;have hl:=run_firstCells_some (P:=P) w k (Nat.min sLen dLen) a sLen sCap cs hn hsrc;have hst:=run_storeCells_at P g o t cs 0 cur w hg (by simpa using hfit) h1;simp only [Nat.add_zero] at hst
 cases hq:P.info? elem with
 | none=>simp [hq] at hs
 | some i=>
  have hi:i.size=k:=by simpa [hq] using hs
  simp [Builtin.copy_,run_underlying hu,Builtin.lenOf,sizeOf,typeInfo,hq,hi,hl,hst]
theorem Zem (w:World) (t tn ty e:TypeId) (i:TypeInfo) (z:Value) (k kn:IntKind) (ht:P.underlying t=some (.slice e)) (htn:P.underlying tn=some (.int kn)) (hi:P.info? e=some i) (hz:i.zero=some z)
 (b:Addr) (sLen sCap n:Nat) (olds:List Value) (hlo:olds.length=sLen*i.size) (holds:∀ j v,olds[j]?=some v->w.cell? (b.add j)=some v)
 (h0:0 < n) (hs:0 < i.size) (hg:sCap < sLen+n) (h63:((sLen+n:Nat):Int)<=9223372036854775807) (hfit:Builtin.nextslicecap (sLen+n) sCap*i.bytes<=281474976710656) (h48:n*i.bytes<=281474976710656) :
 (Builtin.append_ #[t,tn] ty #[.slice (some b) sLen sCap,.int k n]).run P w=
   .ok (.slice (some ⟨w.heap.size,0,none⟩) (sLen+n) (grownCap w (sLen+n) sCap e))
    (w.drew.alloc (.cells (olds.toArray ++ Builtin.zeroCells z.cells n ++ Builtin.zeroCells z.cells (grownCap w (sLen+n) sCap e - (sLen+n))) e)):=by
 have hn:¬ (sLen+n<=sCap):=by omega
 have hn0:n≠0:=by omega
 have hw:IntKind.i64.wrap (n:Int)=n:=by rw [IntKind.wrap_i64];omega
 have h63':¬ (9223372036854775807 < ((sLen:Int)+(n:Int))):=by omega
 have h48':¬ (281474976710656 < Builtin.nextslicecap (sLen+n) sCap*i.bytes):=by omega
 have h48i:¬ (281474976710656 < (n:Int)*(i.bytes:Int)):=by rw [<- Int.natCast_mul];omega
 have hneg:¬ ((n:Int) < 0):=by omega
 have hns:¬ (n*i.size=0):=Nat.mul_ne_zero hn0 (by omega);have hfo:=run_firstCells_some (P:=P) w.drew i.size sLen b sLen sCap olds hlo (by simpa using holds);simp [Builtin.append_,run_underlying ht,run_underlying htn,sizeOf,typeInfo,zeroValue,hi,hz,asInt,asIntOf,hw,hn,hneg,hns,h63',h48',h48i,Question.forced,hfo,newRow,grownCap]
theorem Zgv (w:World) {ops:Array Oper} {rest:List Oper} {o:Oper} {a:Act} {Q:Exit->Act->World->Prop} (hgd:o.guard=none) (d s:Operand) (t t':TypeId)
 (ho:o.op=.call { callee:=.builtin .copy,args:=#[d,s],argTypes:=#[t,t'] }) (v u:Value) (hd:a.eval d=v) (hs:a.eval s=u) {v':Value} {w':World}
 (hr:(Builtin.copy_ #[t,t'] o.type #[v,u]).run P w=.ok v' w') (h:wpList P ops Q rest (a.put o.dst v') w'):wpList P ops Q (o :: rest) a w:=
 wpList_plain hgd fun _ hK=>by
  unfold Oper.wp execOp;simp only [ho,resolve,invoke,builtin,Sem.run_bind,Sem.run_pure,Result.andThen_ok,List.map_toArray,List.map_cons,List.map_nil,hd,hs,hr];exact hK _ _ h
theorem ZeR {ops:Array Oper}{o:Oper}{a:Act}{w:World}{K:Act->World->Prop}{Q:Exit->Act->World->Prop}{E:Prop}
 (hg:o.guard=none) (d x:Operand) (dT sT:TypeId) (hop:o.op=Op.call { callee:=Callee.builtin Builtin.copy,args:=#[d,x],argTypes:=#[dT,sT] })
 (v u:Value) (hd:a.eval d=v) (hx:a.eval x=u) {v':Value} {w':World} (hr:(Builtin.copy_ #[dT,sT] o.type #[v,u]).run P w=.ok v' w') (hK:K (a.put o.dst v') w') :
 if Region.wanted o (yielded ops a.tmps)=true then Oper.wp P o a w K Q else E:=by
 have hw:Region.wanted o (yielded ops a.tmps)=true:=by simp [Region.wanted,hg]
 rw [if_pos hw];unfold Oper.wp;simp [execOp,hop,resolve,invoke,builtin,hd,hx,hr,Result.andThen];exact hK
theorem ZqJ {X:Type} (cur xs pv:List X) (k i n:Nat) (hp:pv.length=k) (hx:xs.length=n*k) (hi:i < n) (ht:cur.take (n*k)=xs) (hc:(n+1)*k<=cur.length) (c1:List X) (h1:c1=cur.take ((i+1)*k) ++ xs.drop (i*k) ++ cur.drop ((i+1)*k+(xs.drop (i*k)).length)) :
 (c1.take (i*k) ++ pv ++ c1.drop (i*k+pv.length)).take ((n+1)*k)=xs.take (i*k) ++ pv ++ xs.drop (i*k)/\(c1.take (i*k) ++ pv ++ c1.drop (i*k+pv.length)).length=cur.length/\c1.length=cur.length:=by
 have e1:(i+1)*k=i*k+k:=Nat.succ_mul i k;have e2:(n+1)*k=n*k+k:=Nat.succ_mul n k;have e3:i*k+k<=n*k:=by rw [<- e1];exact Nat.mul_le_mul_right _ hi
 have hdl:(xs.drop (i*k)).length=n*k - i*k:=by rw [List.length_drop,hx]
 have ht1:c1.take (i*k)=xs.take (i*k):=by
  rw [h1,List.append_assoc,List.take_append_of_le_length (by rw [List.length_take];omega),List.take_take,Nat.min_eq_left (by omega),<- ht,List.take_take,Nat.min_eq_left (by omega)]
 have hd1:c1.drop (i*k+pv.length)=xs.drop (i*k) ++ cur.drop ((i+1)*k+(xs.drop (i*k)).length):=by
  rw [h1,List.append_assoc,List.drop_append,List.drop_of_length_le (by rw [List.length_take];omega),List.length_take,Nat.min_eq_left (by omega),hp,e1,Nat.sub_self,List.nil_append,List.drop_zero]
 have hl1:c1.length=cur.length:=by
  rw [h1];simp only [List.length_append,List.length_take,List.length_drop]
  omega
 refine⟨?_,?_,hl1⟩
 . rw [ht1,hd1,<- List.append_assoc]
   refine List.take_append_of_le_length ?_ |>.trans (List.take_of_length_le ?_)
   . simp only [List.length_append,List.length_take,hdl];omega
   . simp only [List.length_append,List.length_take,hdl];omega
 . simp only [List.length_append,List.length_take,List.length_drop]
   omega
theorem ZsO {X:Type} (cur xs pv:List X) (k i n:Nat) (hp:pv.length=k) (hx:xs.length=n*k) (hi:i < n) (ht:cur.take (i*k)=xs.take (i*k)) (hc:(n+1)*k<=cur.length) (c1:List X) (h1:c1=cur.take (i*k) ++ pv ++ cur.drop (i*k+pv.length)) :
 (c1.take ((i+1)*k) ++ xs.drop (i*k) ++ c1.drop ((i+1)*k+(xs.drop (i*k)).length)).take ((n+1)*k)=xs.take (i*k) ++ pv ++ xs.drop (i*k)/\(c1.take ((i+1)*k) ++ xs.drop (i*k) ++ c1.drop ((i+1)*k+(xs.drop (i*k)).length)).length=cur.length/\c1.length=cur.length:=by
 have e1:(i+1)*k=i*k+k:=Nat.succ_mul i k;have e2:(n+1)*k=n*k+k:=Nat.succ_mul n k;have e3:i*k+k<=n*k:=by rw [<- e1];exact Nat.mul_le_mul_right _ hi
 have hdl:(xs.drop (i*k)).length=n*k - i*k:=by rw [List.length_drop,hx]
 have hl1:c1.length=cur.length:=by
  rw [h1];simp only [List.length_append,List.length_take,List.length_drop]
  omega
 have ht1:c1.take ((i+1)*k)=xs.take (i*k) ++ pv:=by
  rw [h1,ht];refine List.take_append_of_le_length ?_ |>.trans (List.take_of_length_le ?_)
  . simp only [List.length_append,List.length_take];omega
  . simp only [List.length_append,List.length_take];omega
 refine⟨?_,?_,hl1⟩
 . rw [ht1]
   refine List.take_append_of_le_length ?_ |>.trans (List.take_of_length_le ?_)
   . simp only [List.length_append,List.length_take,hdl];omega
   . simp only [List.length_append,List.length_take,hdl];omega
 . simp only [List.length_append,List.length_take,List.length_drop]
   omega
theorem ZgD:∀ (A B:List Le),Zbv (A ++ B)=Zbv A ++ Zbv B
 | [],B=>rfl
 | x :: A,B=>by simp only [List.cons_append,Zbv,ZgD A B]
theorem ZhR (L:List Le) (k:Nat):Zbv L=Zbv (L.take k) ++ Zbv (L.drop k):=by
 rw [<- ZgD,List.take_append_drop]
theorem ZpB (L:List Le) (k:Nat) (h:k<=L.length):Zbv (L.drop k)=(Zbv L).drop (k*4):=by
 have hl:(Zbv (L.take k)).length=k*4:=by rw [ZdZ,List.length_take];omega
 have h1:=List.drop_left' (l₂:=Zbv (L.drop k)) hl;rw [<- ZhR] at h1;exact h1.symm
theorem ZpJ (L:List Le) (k:Nat) (h:k<=L.length):Zbv (L.take k)=(Zbv L).take (k*4):=by
 have hl:(Zbv (L.take k)).length=k*4:=by rw [ZdZ,List.length_take];omega
 have h1:=List.take_left' (l₂:=Zbv (L.drop k)) hl;rw [<- ZhR] at h1;exact h1.symm
theorem Zda (p:Le):∀ u ∈ [Value.string p.tm,.string p.re,.int .i64 p.mo,.int .i64 p.fr],u.oneCell'=true:=by
 intro u hu;simp only [List.mem_cons,List.not_mem_nil,or_false] at hu
 rcases hu with rfl | rfl | rfl | rfl <;> rfl
theorem ZhI (L:List Le) (p:Le) (i:Nat) (hi:i<=L.length):Zbv (L.take i ++ p :: L.drop i)=(Zbv L).take (i*4) ++ [Value.string p.tm,.string p.re,.int .i64 p.mo,.int .i64 p.fr] ++ (Zbv L).drop (i*4):=by
 rw [ZgD,ZpJ L i hi,<- ZpB L i hi,List.append_assoc]
 rfl
theorem Zjf (base i vb:Nat) (v:Value) (L:List Le) (p:Le) (w:World) (hown:w.ownsRow base 92 4 v L.length (Zbv L)) (hi:i<=L.length) (hn:L.length<=1048576) (hbase:base<=w.heap.size) (hvb:v.ownBlock≠some vb) (hv:w.heap[vb]?=some (.cells #[Value.string p.tm,.string p.re,.int .i64 p.mo,.int .i64 p.fr] 92 (0,0))) :
 Calls prog 135 #[v,.int .i64 i,.slice (some ⟨vb,0,none⟩) 1 1] w fun e w'=>∃ v',e=.returned v'/\w'.ownsRow base 92 4 v' (L.length+1) (Zbv (L.take i ++ p :: L.drop i))/\Below base w w'/\w.grownBy w' v.ownBlock/\(v'.ownBlock=v.ownBlock\/v'.ownBlock=some w.heap.size):=by
 obtain⟨i0,hin,hz0,hz1,hz2⟩:=info_parts Tryz.info92;have HI:=Zab (And.intro hin (And.intro hz0 (And.intro hz1 hz2)));have hsz:(prog.info? 92).map (·.size)=some 4:=by rw [hin];simp [hz1]
 have HSZ:=Zab hsz;clear hin hz0 hz1 hz2 hsz;have hvlt:vb < w.heap.size:=(Array.getElem?_eq_some_iff.1 hv).1
 have HNW:Hd (∀ W:World,W.heap[vb]?=w.heap[vb]?->∀ j u,[Value.string p.tm,.string p.re,.int .i64 p.mo,.int .i64 p.fr][j]?=some u->W.cell? ((⟨vb,0,none⟩:Addr).add j)=some u):=fun W hW j u hu=>by
  rw [Go.WideShapes.add_plain,Nat.zero_add];unfold World.cell?;rw [hW,hv]
  simpa using hu
 have HV:=Zab hv;have HOW:=Zab hown;have HXL:Hd ((Zbv L).length=L.length*4):=ZdZ L;have HPO:=Zab (ZhI L p i hi);generalize hR:Zbv (L.take i ++ p :: L.drop i)=R at HPO |-;clear hR
 by_cases hil:i=L.length
 . subst hil
   have HEN:Hd (R=Zbv L ++ [Value.string p.tm,.string p.re,.int .i64 p.mo,.int .i64 p.fr]):=by
    unfold Hd;rw [HPO.o,List.take_of_length_le (by rw [HXL.o];exact Nat.le_refl _),List.drop_of_length_le (by rw [HXL.o];exact Nat.le_refl _),List.append_nil]
   have hii:(L.length:Int)<=L.length:=Int.le_refl _;have hz:¬ ((L.length:Int) < 0):=by omega
   rcases hown.2 with ⟨hvn,hln⟩ | ⟨g,cap,cur,hvs,hbg,hg,hnc,hcm,hcs,htk⟩
   . subst hvn
     clear hown hvb hv;rw [hln];go_enter func135,ntmps135;go_wp2_with (at_builtin;refine wpList_append_own_at _ rfl (.tmp 23) (.tmp 24) 37 rfl base 92 i0 (.agg #[.string ⟨#[]⟩,.string ⟨#[]⟩,.int .i64 0,.int .i64 0]) 4 48 underlying37 HI.o.1 HI.o.2.1 HI.o.2.2.1 HI.o.2.2.2 rfl (by decide) _ L.length (Zbv L) rfl HOW.o ⟨vb,0,none⟩ 1 1 [Value.string p.tm,.string p.re,.int .i64 p.mo,.int .i64 p.fr] rfl rfl (HNW.o _ rfl) (Zda p) (by unfold maxLen;omega) (by omega) hbase ?_;intro v' w4 hown4 hgrow4 hnil4 hat4);have HO4:Hd (w4.ownsRow base 92 4 v' (L.length+1) R):=by unfold Hd;rw [HEN.o];exact hown4
     have HB4:Hd (Below base w w4/\w.grownBy w4 _/\_):=⟨ZaZ HOW.o hgrow4 hbase,hgrow4,hat4⟩;clear hown4 hgrow4 hnil4 hat4;go_wp2;go_ret;rw [hln] at HO4;exact⟨_,rfl,HO4.o,HB4.o⟩
   . subst hvs
     clear hown hvb hv hg htk hcs;have hlc:L.length<=cap:=hnc
     by_cases hcl:cap=L.length
     all_goals
      go_enter func135,ntmps135;go_wp2_with (at_builtin;refine wpList_append_own_at _ rfl (.tmp 23) (.tmp 24) 37 rfl base 92 i0 (.agg #[.string ⟨#[]⟩,.string ⟨#[]⟩,.int .i64 0,.int .i64 0]) 4 48 underlying37 HI.o.1 HI.o.2.1 HI.o.2.2.1 HI.o.2.2.2 rfl (by decide) _ L.length (Zbv L) rfl HOW.o ⟨vb,0,none⟩ 1 1 [Value.string p.tm,.string p.re,.int .i64 p.mo,.int .i64 p.fr] rfl rfl (HNW.o _ rfl) (Zda p) (by unfold maxLen;omega) (by omega) hbase ?_;intro v' w4 hown4 hgrow4 hnil4 hat4);have HO4:Hd (w4.ownsRow base 92 4 v' (L.length+1) R):=by unfold Hd;rw [HEN.o];exact hown4
      have HB4:Hd (Below base w w4/\w.grownBy w4 _/\_):=⟨ZaZ HOW.o hgrow4 hbase,hgrow4,hat4⟩;clear hown4 hgrow4 hnil4 hat4;go_wp2;go_ret;exact⟨_,rfl,HO4.o,HB4.o⟩
 have hlt:i < L.length:=by omega
 rcases hown.2 with ⟨hvn,hln⟩ | ⟨g,cap,cur,hvs,hbg,hg,hnc,hcm,hcs,htk⟩
 . omega
 subst hvs;have hgv:g≠vb:=fun e=>hvb (by rw [e];rfl)
 have HG:=Zab hg;have HTK:=Zab htk;have HCS:=Zab hcs;have hglt:g < w.heap.size:=(Array.getElem?_eq_some_iff.1 hg).1
 have HXS:Hd (∀ W:World,(∀ k,W.heap[g]?=w.heap[g]?->k < L.length*4->W.cell? ⟨g,k,none⟩=(Zbv L)[k]?)):=fun W k hW hk=>by
  unfold World.cell?;rw [hW,HG.o];simp only [];rw [<- HTK.o,List.getElem?_take,if_pos hk];simp
 have hii:¬ ((i:Int)=(L.length:Int)):=by omega
 have hi1:(i:Int)<=(L.length:Int):=by omega
 have hcapI:(cap:Int)<=9223372036854775807:=by unfold maxLen at hcm;omega
 have hw1:IntKind.wrap .i64 ((L.length:Int)+1)=(L.length:Int)+1:=by rw [IntKind.wrap_i64];omega
 have hw2:IntKind.wrap .i64 ((i:Int)+1)=(i:Int)+1:=by rw [IntKind.wrap_i64];omega
 have hti:((i:Int)+1).toNat=i+1:=by omega
 have htn:((L.length:Int)+1).toNat=L.length+1:=by omega
 have hb1:¬ (cap=i):=by omega
 have hb3:i<=cap:=by omega
 clear hown hvb hv hg htk hcs hil
 by_cases hroom:L.length+1<=cap
 . have hb4:¬ (cap=i+1):=by omega
   have hb5:i+1<=cap:=by omega
   have hq1:(0:Int)<=(i:Int)+1:=by omega
   have hq2:(i:Int)+1<=(L.length:Int)+1:=by omega
   have hq3:(i:Int)<=(L.length:Int)+1:=by omega
   have hq4:i<=L.length+1:=by omega
   have hb6:(L.length:Int)+1<=(cap:Int):=by omega
   have hb7:i<=L.length:=by omega
   have hb8:¬ ((cap:Int) < (L.length:Int)+1):=by omega
   have hfz:w.frozen? ⟨vb,0,none⟩=false:=by unfold World.frozen?;rw [HV.o];simp
   have hfe:w.frozen? ⟨vb,4,none⟩=false:=by unfold World.frozen?;rw [HV.o];simp
   have hsa:w.shape? vb=some (92,4):=by unfold World.shape?;rw [HV.o];rfl
   have hsb:w.shape? g=some (92,cur.size):=by unfold World.shape?;rw [HG.o]
   have hov:∀ o lb cb,(callFunc 181 #[.slice (some ⟨vb,0,none⟩) 1 1,.slice (some ⟨g,o,none⟩) lb cb]).run prog w=.ok (.value (.bool false)) w:=fun o lb cb=>by
    rw [run_callFunc_extern func181 (by kernel_rfl) (by kernel_rfl) (by kernel_rfl) (e:=Extern.SlicesOverlaps.overlaps #[37,37] #[4]) (by kernel_rfl),
     Lib.run_overlaps_apart w 37 4 92 underlying37 4 (fun w=>by simp [sizeOf,typeInfo,HI.o.1,HI.o.2.2.1]) ⟨vb,0,none⟩ ⟨g,o,none⟩ 1 1 lb cb (fun e=>hgv e.symm) _ _ 4 cur.size hsa hsb (by rw [HCS.o];omega) hfz hfe]
    rfl
   have hdl:((Zbv L).drop (i*4)).length=(L.length - i)*4:=by rw [List.length_drop,HXL.o,Nat.sub_mul]
   have hfit:(i+1)*4+((Zbv L).drop (i*4)).length<=cur.size:=by rw [hdl,HCS.o];omega
   have hct:cur.toList.length=cap*4:=(Array.length_toList (xs:=cur)).trans HCS.o
   have hcp1:∀ ty dc sc,(Builtin.copy_ #[37,37] ty #[.slice (some ⟨g,(i+1)*4,none⟩) (L.length - i) dc,.slice (some ⟨g,i*4,none⟩) (L.length+1 - i) sc]).run prog w.drew=.ok (goInt (L.length - i:Nat)) (w.drew.setRow g (cur.toList.take ((i+1)*4) ++ (Zbv L).drop (i*4) ++ cur.toList.drop ((i+1)*4+((Zbv L).drop (i*4)).length)).toArray):=fun ty dc sc=>
    Zc7 w.drew _ _ ty 92 4 g ((i+1)*4) _ dc ⟨g,i*4,none⟩ _ sc (L.length - i) cur 92 _ underlying37 HSZ.o (by show min _ _=_;omega) HG.o hdl (fun j u hj=>by
     rw [Go.WideShapes.add_plain,HXS.o w.drew _ rfl (by have:=(List.getElem?_eq_some_iff.1 hj).1;rw [hdl] at this;omega)]
     rwa [List.getElem?_drop] at hj) hfit (fun u hu=>Zfw _ u (List.mem_of_mem_drop hu))
   obtain⟨C1,hC1⟩:∃ C1,C1=cur.toList.take ((i+1)*4) ++ (Zbv L).drop (i*4) ++ cur.toList.drop ((i+1)*4+((Zbv L).drop (i*4)).length):=⟨_,rfl⟩
   obtain⟨hs1,hs2,hs3⟩:=ZqJ cur.toList (Zbv L) [Value.string p.tm,.string p.re,.int .i64 p.mo,.int .i64 p.fr] 4 i L.length rfl HXL.o hlt HTK.o (by rw [hct];omega) C1 hC1;rw [<- hC1] at hcp1;obtain⟨C2,hC2⟩:∃ C2,C2=C1.take (i*4) ++ [Value.string p.tm,.string p.re,.int .i64 p.mo,.int .i64 p.fr] ++ C1.drop (i*4+([Value.string p.tm,.string p.re,.int .i64 p.mo,.int .i64 p.fr]).length):=⟨_,rfl⟩
   have hcp2:∀ (W:World),W.heap[g]?=some (.cells C1.toArray 92 (0,0))->W.heap[vb]?=w.heap[vb]?->∀ ty dc,(Builtin.copy_ #[37,37] ty #[.slice (some ⟨g,i*4,none⟩) (L.length+1 - i) dc,.slice (some ⟨vb,0,none⟩) 1 1]).run prog W=.ok (goInt (1:Nat)) (W.setRow g C2.toArray):=fun W h1 h2 ty dc=>by
    rw [hC2];exact Zc7 W _ _ ty 92 4 g (i*4) _ dc ⟨vb,0,none⟩ 1 1 1 C1.toArray 92 _ underlying37 HSZ.o (by show min _ _=_;omega) h1 rfl (HNW.o W h2) (by rw [List.size_toArray,hs3,hct];simp only [List.length_cons,List.length_nil];omega) (Zda p)
   rw [<- hC2] at hs1 hs2;have HS:=Zab (And.intro hs1 (And.intro hs2 hs3));have HH1:Hd ((w.drew.setRow g C1.toArray).heap[g]?=some (.cells C1.toArray 92 (0,0))):=setRow_heap w.drew g cur _ _ _ HG.o;have HH2:Hd ((w.drew.setRow g C1.toArray).heap[vb]?=w.heap[vb]?):=setRow_other w.drew g vb _ (fun e=>hgv e.symm);clear hC1 hC2 hs1 hs2 hs3 hdl hfit hsa hsb hfz hfe;go_enter func135,ntmps135;go_wp2_with (simp only [hov]);clear hov
   go_region_law (refine ZeR rfl (.tmp 73) (.tmp 76) 37 37 rfl _ _ (by simp [Act.eval,Act.put]) (by simp [Act.eval,Act.put]) (hcp1 _ _ _) ?_)
   have hcp3:=hcp2 _ HH1.o HH2.o;clear hcp1 hcp2;go_wp2_with (simp only [hcp3]);clear hcp3;go_ret
   have hb:Below base w ((w.drew.setRow g C1.toArray).setRow g C2.toArray):=by
    rw [setRow_setRow];exact⟨rfl,rfl,rfl,by simp [World.setRow],fun k hk=>setRow_other w.drew g k _ (by omega)⟩
   have hgw:w.grownBy ((w.drew.setRow g C1.toArray).setRow g C2.toArray) (some g):=by
    rw [setRow_setRow];exact⟨rfl,rfl,rfl,by simp [World.setRow],fun k _ hk=>setRow_other w.drew g k _ (fun e=>hk (by rw [e]))⟩
   exact⟨_,rfl,⟨by rw [HPO.o];simp only [List.length_append,List.length_take,List.length_drop,HXL.o,List.length_cons,List.length_nil];omega,Or.inr ⟨g,cap,_,rfl,hbg,setRow_heap _ g _ _ _ _ HH1.o,by omega,hcm,by rw [List.size_toArray,HS.o.2.1,Array.length_toList (xs:=cur)];exact HCS.o,by rw [HPO.o];exact HS.o.1⟩⟩,hb,hgw,Or.inl rfl⟩
 . have hgr:cap < i+(L.length+1 - i):=by omega
   have hb8:(cap:Int) < (L.length:Int)+1:=by omega
   have hw3:IntKind.wrap .i64 ((L.length:Int)+1 - (i:Int))=((L.length+1 - i:Nat):Int):=by rw [IntKind.wrap_i64];omega
   have hie:i+(L.length+1 - i)=L.length+1:=by omega
   have hap:=fun ty=>Zem (P:=prog) w 37 3 ty 92 i0 (.agg #[.string ⟨#[]⟩,.string ⟨#[]⟩,.int .i64 0,.int .i64 0]) .i64 .i64 underlying37 underlying3 HI.o.1 HI.o.2.1 ⟨g,0,none⟩ i cap (L.length+1 - i) ((Zbv L).take (i*4)) (by rw [List.length_take,HXL.o,HI.o.2.2.1];omega) (fun j u hj=>by
    rw [List.getElem?_take] at hj
    split at hj
    . rw [Go.WideShapes.add_plain,Nat.zero_add,HXS.o w _ rfl (by omega)]
      exact hj
    . cases hj) (by omega) (by rw [HI.o.2.2.1];omega) hgr (by omega) (growslice_fits hgr (by rw [HI.o.2.2.2];omega)) (by rw [HI.o.2.2.2];omega)
   rw [hie] at hap;have hcg:=grownCap_ge w (L.length+1) cap 92;have hcx:=grownCap_le_maxLen w (L.length+1) cap 92 (by unfold maxLen;omega);generalize grownCap w (L.length+1) cap 92=cap1 at hap hcg hcx;have hzc:∀ n,(Builtin.zeroCells (.agg #[.string ⟨#[]⟩,.string ⟨#[]⟩,.int .i64 0,.int .i64 0]:Value).cells n).size=n*4:=fun n=>size_zeroCells _ n
   obtain⟨C0,hC0⟩:∃ C0:List Value,C0=(((Zbv L).take (i*4)).toArray ++ Builtin.zeroCells (.agg #[.string ⟨#[]⟩,.string ⟨#[]⟩,.int .i64 0,.int .i64 0]:Value).cells (L.length+1 - i) ++ Builtin.zeroCells (.agg #[.string ⟨#[]⟩,.string ⟨#[]⟩,.int .i64 0,.int .i64 0]:Value).cells (cap1 - (L.length+1))).toList:=⟨_,rfl⟩
   have hC0l:C0.length=cap1*4:=by
    rw [hC0,Array.length_toList];simp only [Array.size_append,List.size_toArray,hzc,List.length_take,HXL.o]
    omega
   have hC0t:C0.take (i*4)=(Zbv L).take (i*4):=by
    rw [hC0];simp only [Array.toList_append,List.append_assoc];refine (List.take_append_of_le_length ?_).trans (List.take_of_length_le ?_)
    . simp only [List.length_take,HXL.o];omega
    . simp only [List.length_take];omega
   have hC0a:((Zbv L).take (i*4)).toArray ++ Builtin.zeroCells (.agg #[.string ⟨#[]⟩,.string ⟨#[]⟩,.int .i64 0,.int .i64 0]:Value).cells (L.length+1 - i) ++ Builtin.zeroCells (.agg #[.string ⟨#[]⟩,.string ⟨#[]⟩,.int .i64 0,.int .i64 0]:Value).cells (cap1 - (L.length+1))=C0.toArray:=by rw [hC0]
   rw [hC0a] at hap;obtain⟨W0,hW0⟩:∃ W0,W0=w.drew.alloc (.cells C0.toArray 92):=⟨_,rfl⟩
   rw [<- hW0] at hap;have hZg:W0.heap[w.heap.size]?=some (.cells C0.toArray 92 (0,0)):=by rw [hW0];exact heap_alloc_new w.drew _
   have hZo:∀ k,k < w.heap.size->W0.heap[k]?=w.heap[k]?:=fun k hk=>by rw [hW0];exact heap_alloc_old w.drew _ hk
   obtain⟨C1,hC1⟩:∃ C1,C1=C0.take (i*4) ++ [Value.string p.tm,.string p.re,.int .i64 p.mo,.int .i64 p.fr] ++ C0.drop (i*4+([Value.string p.tm,.string p.re,.int .i64 p.mo,.int .i64 p.fr]).length):=⟨_,rfl⟩
   obtain⟨hs1,hs2,hs3⟩:=ZsO C0 (Zbv L) [Value.string p.tm,.string p.re,.int .i64 p.mo,.int .i64 p.fr] 4 i L.length rfl HXL.o hlt hC0t (by rw [hC0l];omega) C1 hC1
   have hcp2:∀ ty dc,(Builtin.copy_ #[37,37] ty #[.slice (some ⟨w.heap.size,i*4,none⟩) (L.length+1 - i) dc,.slice (some ⟨vb,0,none⟩) 1 1]).run prog W0=.ok (goInt (1:Nat)) (W0.setRow w.heap.size C1.toArray):=fun ty dc=>by
    rw [hC1];exact Zc7 W0 _ _ ty 92 4 w.heap.size (i*4) _ dc ⟨vb,0,none⟩ 1 1 1 C0.toArray 92 _ underlying37 HSZ.o (by show min _ _=_;omega) hZg rfl (HNW.o W0 (hZo vb hvlt)) (by rw [List.size_toArray,hC0l];simp only [List.length_cons,List.length_nil];omega) (Zda p)
   have hdl:((Zbv L).drop (i*4)).length=(L.length - i)*4:=by rw [List.length_drop,HXL.o,Nat.sub_mul]
   have hZ1:(W0.setRow w.heap.size C1.toArray).heap[w.heap.size]?=some (.cells C1.toArray 92 (0,0)):=setRow_heap W0 _ _ _ _ _ hZg;have hZ2:∀ k,k < w.heap.size->(W0.setRow w.heap.size C1.toArray).heap[k]?=w.heap[k]?:=fun k hk=>(setRow_other W0 _ k _ (by omega)).trans (hZo k hk)
   obtain⟨C2,hC2⟩:∃ C2,C2=C1.take ((i+1)*4) ++ (Zbv L).drop (i*4) ++ C1.drop ((i+1)*4+((Zbv L).drop (i*4)).length):=⟨_,rfl⟩
   have hcp1:∀ ty dc sc,(Builtin.copy_ #[37,37] ty #[.slice (some ⟨w.heap.size,(i+1)*4,none⟩) (L.length - i) dc,.slice (some ⟨g,i*4,none⟩) (L.length - i) sc]).run prog (W0.setRow w.heap.size C1.toArray).drew=.ok (goInt (L.length - i:Nat)) ((W0.setRow w.heap.size C1.toArray).drew.setRow w.heap.size C2.toArray):=fun ty dc sc=>by
    rw [hC2]
    exact Zc7 (W0.setRow w.heap.size C1.toArray).drew _ _ ty 92 4 w.heap.size ((i+1)*4) _ dc ⟨g,i*4,none⟩ _ sc (L.length - i) C1.toArray 92 _ underlying37 HSZ.o (by show min _ _=_;omega) hZ1 hdl (fun j u hj=>by
     rw [Go.WideShapes.add_plain,HXS.o (W0.setRow w.heap.size C1.toArray).drew _ (hZ2 g hglt) (by have:=(List.getElem?_eq_some_iff.1 hj).1;rw [hdl] at this;omega)]
     rwa [List.getElem?_drop] at hj) (by rw [hdl,List.size_toArray,hs3,hC0l];omega) (fun u hu=>Zfw _ u (List.mem_of_mem_drop hu))
   rw [<- hC2] at hs1 hs2;have HS:=Zab (And.intro hs1 (And.intro hs2 hC0l));have HZ1:=Zab hZ1;have HZ2:=Zab hZ2;have hb9:¬ (cap1=i):=by omega
   have hq1:(0:Int)<=(i:Int)+1:=by omega
   have hq2:(i:Int)+1<=(L.length:Int)+1:=by omega
   have hq3:(i:Int)<=(L.length:Int)+1:=by omega
   have hq4:i<=L.length+1:=by omega
   have hb10:¬ (cap1=i+1):=by omega
   have hb11:i+1<=cap1:=by omega
   have hsW:W0.heap.size=w.heap.size+1:=by rw [hW0];simp
   have hWp:W0.os=w.os/\W0.tape=w.tape/\W0.output=w.output:=by rw [hW0];exact⟨rfl,rfl,rfl⟩
   have HWP:=Zab hWp;clear hC1 hC2 hs1 hs2 hs3 hC0 hC0l hC0t hC0a hW0 hZg hZo hZ1 hZ2 hdl hzc hWp;go_enter func135,ntmps135
   go_wp2_with (at_builtin;first
    | (refine Lib.wpList_append_run _ rfl (.tmp 34) (.tmp 39) 37 3 rfl _ _ rfl rfl _ _ (hap _) ?_)
    | (refine Zgv _ rfl (.tmp 43) (.tmp 44) 37 37 rfl _ _ rfl rfl (hcp2 _ _) ?_))
   go_region_law (refine ZeR rfl (.tmp 50) (.tmp 53) 37 37 rfl _ _ (by simp [Act.eval,Act.put]) (by simp [Act.eval,Act.put]) (hcp1 _ _ _) ?_)
   clear hcp1 hcp2 hap;go_wp2;go_ret
   have hb:Below base w ((W0.setRow w.heap.size C1.toArray).drew.setRow w.heap.size C2.toArray):=
    ⟨HWP.o.1,HWP.o.2.1,HWP.o.2.2,by simp [World.setRow];omega,fun k hk=>(setRow_other _ _ k _ (by omega)).trans (HZ2.o k (by omega))⟩
   exact⟨_,rfl,⟨by rw [HPO.o];simp only [List.length_append,List.length_take,List.length_drop,HXL.o,List.length_cons,List.length_nil];omega,Or.inr ⟨w.heap.size,cap1,_,rfl,hbase,setRow_heap _ _ _ _ _ _ HZ1.o,hcg,hcx,by rw [List.size_toArray,HS.o.2.1,HS.o.2.2],by rw [HPO.o];exact HS.o.1⟩⟩,hb,⟨HWP.o.1,HWP.o.2.1,HWP.o.2.2,by simp [World.setRow];omega,fun k hk _=>(setRow_other _ _ k _ (by omega)).trans (HZ2.o k (by omega))⟩,Or.inr rfl⟩
theorem ZkU (s:Zy_) (w:World) (hs:s.size<=maxLen):Calls prog 110 #[.string s] w fun e w'=>e=.returned (.bool (Zan s))/\w=w':=(Zao s w hs).mono fun _ _ h=>⟨h.1,h.2.symm⟩
theorem ZkY (n lo hi:Int) (w:World):Calls prog 111 #[.int .i64 n,.int .i64 lo,.int .i64 hi] w fun e w'=>e=.returned (.bool (inB lo hi n))/\w=w':=(ZaQ n lo hi w).mono fun _ _ h=>⟨h.1,h.2.symm⟩
def Zcu (lo hi:Nat) (w:World) (ov gv lv pv:Value) (B:Bk):Prop:=
 ∃ o0 o1 g0 g1 l0 l1 p0 p1:Nat,Zq9 lo hi o0 o1 g0 g1 l0 l1 p0 p1/\Za6 o0 o1 w ov B.os/\Zbe g0 g1 w gv B.gs/\ZaJ l0 l1 w lv B.ls/\Zbx p0 p1 w pv B.ps/\w.ownsRow l0 92 4 lv B.ls.length (Zbv B.ls)/\(∀ g,lv.ownBlock=some g->g < l1)/\l0<=l1
theorem Zcu.own {lo:Nat}{w:World}{ov gv lv pv:Value}{B:Bk} (h:Zcu lo hi w ov gv lv pv B):Zax lo hi w ov gv lv pv B:=by
 obtain⟨o0,o1,g0,g1,l0,l1,p0,p1,ha,h1,h2,h3,h4,-⟩:=h;exact⟨o0,o1,g0,g1,l0,l1,p0,p1,ha,h1,h2,h3,h4⟩
theorem Zcu.below {lo:Nat}{w:World}{ov gv lv pv:Value}{B:Bk} (h:Zcu lo hi w ov gv lv pv B) (hb:Zw_ w w'):Zcu lo hi w' ov gv lv pv B:=by
 obtain⟨o0,o1,g0,g1,l0,l1,p0,p1,ha,h1,h2,h3,h4,h5,h6⟩:=h;exact⟨o0,o1,g0,g1,l0,l1,p0,p1,ha,h1.below hb,h2.below hb,h3.below hb,h4.below hb,Below.ownsB h5 hb,h6⟩
theorem Zcu.wide {lo:Nat}{w:World}{ov gv lv pv:Value}{B:Bk} (h:Zcu lo hi w ov gv lv pv B) (h1:lo'<=lo) (h2:hi<=hi'):Zcu lo' hi' w ov gv lv pv B:=by
 obtain⟨o0,o1,g0,g1,l0,l1,p0,p1,⟨q1,q2,q3,q4,r1,r2,r3,r4,r5,r6⟩,hh⟩:=h;exact⟨o0,o1,g0,g1,l0,l1,p0,p1,⟨by omega,by omega,by omega,by omega,r1,r2,r3,r4,r5,r6⟩,hh⟩
theorem ZoS {lo:Nat}{W':World} (h:W.ownsRow base e sz v n cs) (ht:Zad lo hi W W') (hg:∀ g,v.ownBlock=some g->g < lo\/hi<=g):W'.ownsRow base e sz v n cs:=by
 refine⟨h.1,?_⟩;have hlt:=fun g hg=>Zbj h (g:=g) hg
 rcases h.2 with hv | ⟨g,cap,cur,hv,h1,h2,h3⟩
 . exact Or.inl hv
 . have hb:v.ownBlock=some g:=by rw [hv];rfl
   exact Or.inr ⟨g,cap,cur,hv,h1,by rw [ht.block g (hlt g hb).1 (hg g hb)];exact h2,h3⟩
theorem Zcu.touch {lo:Nat}{w:World}{ov gv lv pv:Value}{B:Bk} (h:Zcu lo hi w ov gv lv pv B) (ht:Zad lo' hi' w w') (ho:hi<=lo'\/hi'<=lo):Zcu lo hi w' ov gv lv pv B:=by
 obtain⟨o0,o1,g0,g1,l0,l1,p0,p1,ha,h1,h2,h3,h4,h5,h6⟩:=h;have:=ha.o;have:=ha.g;have:=ha.l;have:=ha.p;exact⟨o0,o1,g0,g1,l0,l1,p0,p1,ha,h1.touch ht (by omega),h2.touch ht (by omega),h3.touch ht (by omega),h4.touch ht (by omega),ZoS h5 ht (fun g hg=>by have q1:=h6.1 g hg;have q2:=(Zbj h5 hg).2.1;omega),h6⟩
theorem Zod (h:W.ownsRow base e sz v n cs) {p:Addr} (hp:p.block < base) (u:Value):(W.setCell p u).ownsRow base e sz v n cs:=Zad.ownsB h (Zad.setCell p.block (p.block+1) W p u ⟨Nat.le_refl _,Nat.lt_succ_self _⟩) hp
theorem Zis (lo:Nat) (v:Value) (L:List Le) (w:World) (hv:ZbG lo w v L) (hn:L.length<=1048576) :
 Calls prog 166 #[v] w fun e w'=>∃ v',e=.returned v'/\Zw_ w w'/\ZaJ w.heap.size w'.heap.size w' v' L/\w'.ownsRow w.heap.size 92 4 v' L.length (Zbv L):=by
 have hnil:=fun W a n c=>Lib.run_eql_slice_nil (P:=prog) W 37 92 a n c 0 0 underlying37
 obtain⟨i0,hi,hz0,hz1,hz2⟩:=info_parts Tryz.info92;have HI:=Zab (And.intro hi (And.intro hz0 (And.intro hz1 hz2)));clear hi hz0 hz1 hz2;have HV:=Zab hv
 have HZ:Hd (∀ i (hi:i < L.length),Zco L[i]):=fun i hi=>by
  obtain⟨_,_,_,_,_,_,_,hc⟩:=hv.full (fun e=>by rw [e] at hi;simp at hi);exact (hc i hi).1
 obtain⟨a,cap,rfl⟩:=hv.form;clear hv
 cases a with
 | none=>
  have hL:L=[]:=by
   rcases HV.o with ⟨_,_,_,h⟩ | ⟨_,_,_,h,_⟩
   . exact h
   . injection h with h;cases h
  subst hL;go_enter func166,ntmps166;go_wp2;go_ret;exact⟨_,rfl,Below.refl _ _,Or.inl ⟨_,_,rfl,rfl⟩,ZdL _ _ _⟩
 | some ad=>
  go_enter func166,ntmps166;go_wp2_with (at_builtin;refine wpList_append_own_at _ rfl (.tmp 5) (.tmp 6) 37 rfl w.heap.size 92 i0 (.agg #[.string ⟨#[]⟩,.string ⟨#[]⟩,.int .i64 0,.int .i64 0]) 4 48 underlying37 HI.o.1 HI.o.2.1 HI.o.2.2.1 HI.o.2.2.2 rfl (by decide) _ 0 [] rfl (Zb0 _ _ 92 4 rfl Zl_) ad L.length cap (Zbv L) rfl (ZdZ _) (ZjA HV.o (Zac _ _)) (Zfw _) (by unfold maxLen;omega) (by omega) (by simp) ?_;intro v' w4 hown4 hgrow4 hnil4 hat4);rw [Nat.zero_add,List.nil_append] at hown4;have HRW:=Zab hown4;have HO:Hd (ZaJ w.heap.size w4.heap.size w4 v' L):=ZgC hown4 HZ.o;have HB:Hd (Zw_ w w4):=(Zac _ _).trans (ZaZ (Zb0 w w.heap.size 92 4 rfl Zl_) hgrow4 (by simp));clear hown4 hgrow4 hnil4 hat4;go_wp2;go_ret;exact⟨_,rfl,HB.o,HO.o,HRW.o⟩
section
variable (lo:Nat) (ov gv lv pv:Value) (B:Bk) (w:World)
theorem ZiS (h:ZaY lo w ov gv lv pv B) (hn:ZaE B) :
 Calls prog 108 #[.agg #[.int .i64 B.now,.int .i64 B.tick,.int .i64 B.given,ov,gv,lv,pv]] w
  fun e w'=>∃ b0 m0 b1 m1 b2 m2 b3 m3,e=.returned (.agg #[.int .i64 B.now,.int .i64 B.tick,.int .i64 B.given,.slice b0 B.os.length m0,.slice b1 B.gs.length m1,.slice b2 B.ls.length m2,.slice b3 B.ps.length m3])/\Zw_ w w'/\
   Zcu (w.heap.size+2) w'.heap.size w' (.slice b0 B.os.length m0) (.slice b1 B.gs.length m1) (.slice b2 B.ls.length m2) (.slice b3 B.ps.length m3) B:=by
 have HL:=Zab h;obtain⟨a0,k0,rfl⟩:=h.obs.form;obtain⟨a1,k1,rfl⟩:=h.grs.form;obtain⟨a2,k2,rfl⟩:=h.les.form;obtain⟨a3,k3,rfl⟩:=h.pus.form;obtain⟨hn0,hn1,hn2,hn3⟩:=hn;replace hn2:=hn2.1;replace hn3:=hn3.1;clear h;go_enter func108,ntmps108;go_wp2_with fail
 obtain⟨wz,hwz,HX0,HR0,HB0⟩:∃ wz,wz=(w.alloc (.cells #[.int .i64 B.now,.int .i64 B.tick,.int .i64 B.given,.slice a0 B.os.length k0,.slice a1 B.gs.length k1,.slice a2 B.ls.length k2,.slice a3 B.ps.length k3] 40)).alloc (.cells #[.int .i64 0,.int .i64 0,.int .i64 0,.slice none 0 0,.slice none 0 0,.slice none 0 0,.slice none 0 0] 40)/\
  Hd (Box wz w.heap.size #[.int .i64 B.now,.int .i64 B.tick,.int .i64 B.given,.slice a0 B.os.length k0,.slice a1 B.gs.length k1,.slice a2 B.ls.length k2,.slice a3 B.ps.length k3])/\Hd (Box wz (w.heap.size+1) #[.int .i64 0,.int .i64 0,.int .i64 0,.slice none 0 0,.slice none 0 0,.slice none 0 0,.slice none 0 0])/\Hd (Zw_ w wz):=
  ⟨_,rfl,(Box.new w _ _ _ rfl).on (Zac _ _),Box.new _ _ _ _ (by simp),(Zac _ _).trans ((Zac _ _).mono (by simp))⟩
 rw [<- hwz];clear hwz;generalize wz=v0 at*;have hz0:w.heap.size+2<=v0.heap.size:=by have:=HR0.o.lt;omega
 refine (ZlC lo _ B.os _ (HL.o.below HB0.o).obs hn0).mono ?_;rintro e w0 ⟨u0,rfl,hb0,hs0⟩;obtain⟨b0,m0,rfl⟩:=hs0.form;have GX:=Zab (HX0.o.on hb0);have GR:=Zab (HR0.o.on hb0);have GB:=Zab (HB0.o.trans (hb0.mono HB0.o.size));have GN:=Zab hs0;have hsz0:=hb0.size;clear hb0 hs0 HX0 HR0 HB0;have o0:=GX.o.cell 3;have f0:=GX.o.free 3;have x1:=GX.o.cell 4;simp at o0 f0 x1;go_wp2_with fail;clear o0 f0 x1
 obtain⟨v1,hwq,HX1,HR1,HB1,hq1,HS0⟩:∃ wq,wq=w0.setCell ⟨w.heap.size,3,none⟩ (.slice b0 B.os.length m0)/\
  Hd (Box wq w.heap.size #[.int .i64 B.now,.int .i64 B.tick,.int .i64 B.given,.slice b0 B.os.length m0,.slice a1 B.gs.length k1,.slice a2 B.ls.length k2,.slice a3 B.ps.length k3])/\Hd (Box wq (w.heap.size+1) #[.int .i64 0,.int .i64 0,.int .i64 0,.slice none 0 0,.slice none 0 0,.slice none 0 0,.slice none 0 0])/\Hd (Zw_ w wq)/\wq.heap.size=w0.heap.size/\Hd (Za6 v0.heap.size w0.heap.size wq (.slice b0 B.os.length m0) B.os):=
  ⟨_,rfl,GX.o.set (k:=3) (.slice b0 B.os.length m0) (by simp),GR.o.setFar (by dsimp;omega) _,GB.o.setCell (by dsimp;omega) _,by simp [World.setCell],GN.o.setLow (by dsimp;omega) _⟩
 rw [<- hwq];clear hwq GX GR GB GN;have hz1:w.heap.size+2<=v1.heap.size:=by omega
 refine (ZkG lo _ B.gs _ (HL.o.below HB1.o).grs hn1).mono ?_;rintro e w1 ⟨u1,rfl,hb1,hs1⟩;obtain⟨b1,m1,rfl⟩:=hs1.form;have GX:=Zab (HX1.o.on hb1);have GR:=Zab (HR1.o.on hb1);have GB:=Zab (HB1.o.trans (hb1.mono HB1.o.size));have GN:=Zab hs1;have hsz1:=hb1.size;have G0:=Zab (HS0.o.below hb1);clear hb1 hs1 HX1 HR1 HB1 HS0;have o0:=GX.o.cell 4;have f0:=GX.o.free 4;have x1:=GX.o.cell 5;simp at o0 f0 x1;go_wp2_with fail;clear o0 f0 x1
 obtain⟨v2,hwq,HX2,HR2,HB2,hq2,HS1,HS0⟩:∃ wq,wq=w1.setCell ⟨w.heap.size,4,none⟩ (.slice b1 B.gs.length m1)/\
  Hd (Box wq w.heap.size #[.int .i64 B.now,.int .i64 B.tick,.int .i64 B.given,.slice b0 B.os.length m0,.slice b1 B.gs.length m1,.slice a2 B.ls.length k2,.slice a3 B.ps.length k3])/\Hd (Box wq (w.heap.size+1) #[.int .i64 0,.int .i64 0,.int .i64 0,.slice none 0 0,.slice none 0 0,.slice none 0 0,.slice none 0 0])/\Hd (Zw_ w wq)/\wq.heap.size=w1.heap.size/\Hd (Zbe v1.heap.size w1.heap.size wq (.slice b1 B.gs.length m1) B.gs)/\Hd (Za6 v0.heap.size w0.heap.size wq (.slice b0 B.os.length m0) B.os):=
  ⟨_,rfl,GX.o.set (k:=4) (.slice b1 B.gs.length m1) (by simp),GR.o.setFar (by dsimp;omega) _,GB.o.setCell (by dsimp;omega) _,by simp [World.setCell],GN.o.setLow (by dsimp;omega) _,G0.o.setLow (by dsimp;omega) _⟩
 rw [<- hwq];clear hwq GX GR GB GN G0;have hz2:w.heap.size+2<=v2.heap.size:=by omega
 refine (Zis lo _ B.ls _ (HL.o.below HB2.o).les hn2).mono ?_;rintro e w2 ⟨u2,rfl,hb2,hs2,hr2⟩;obtain⟨b2,m2,rfl⟩:=hs2.form;have HRW:=Zab hr2;have HGB:Hd (∀ g,(Value.slice b2 B.ls.length m2).ownBlock=some g->g < w2.heap.size):=fun g hg=>(Zbj hr2 hg).1
 clear hr2;have GX:=Zab (HX2.o.on hb2);have GR:=Zab (HR2.o.on hb2);have GB:=Zab (HB2.o.trans (hb2.mono HB2.o.size));have GN:=Zab hs2;have hsz2:=hb2.size;have G0:=Zab (HS0.o.below hb2);have G1:=Zab (HS1.o.below hb2);clear hb2 hs2 HX2 HR2 HB2 HS0 HS1;have o0:=GX.o.cell 5;have f0:=GX.o.free 5;have x1:=GX.o.cell 6;simp at o0 f0 x1;go_wp2_with fail;clear o0 f0 x1
 obtain⟨v3,hwq,HX3,HR3,HB3,hq3,HS2,HS0,HS1,HRV⟩:∃ wq,wq=w2.setCell ⟨w.heap.size,5,none⟩ (.slice b2 B.ls.length m2)/\
  Hd (Box wq w.heap.size #[.int .i64 B.now,.int .i64 B.tick,.int .i64 B.given,.slice b0 B.os.length m0,.slice b1 B.gs.length m1,.slice b2 B.ls.length m2,.slice a3 B.ps.length k3])/\Hd (Box wq (w.heap.size+1) #[.int .i64 0,.int .i64 0,.int .i64 0,.slice none 0 0,.slice none 0 0,.slice none 0 0,.slice none 0 0])/\Hd (Zw_ w wq)/\wq.heap.size=w2.heap.size/\Hd (ZaJ v2.heap.size w2.heap.size wq (.slice b2 B.ls.length m2) B.ls)/\Hd (Za6 v0.heap.size w0.heap.size wq (.slice b0 B.os.length m0) B.os)/\Hd (Zbe v1.heap.size w1.heap.size wq (.slice b1 B.gs.length m1) B.gs)/\Hd (wq.ownsRow v2.heap.size 92 4 (.slice b2 B.ls.length m2) B.ls.length (Zbv B.ls)):=
  ⟨_,rfl,GX.o.set (k:=5) (.slice b2 B.ls.length m2) (by simp),GR.o.setFar (by dsimp;omega) _,GB.o.setCell (by dsimp;omega) _,by simp [World.setCell],GN.o.setLow (by dsimp;omega) _,G0.o.setLow (by dsimp;omega) _,G1.o.setLow (by dsimp;omega) _,Zad.ownsB HRW.o (Zad.setB _ _ _ _) (by omega)⟩
 rw [<- hwq];clear hwq GX GR GB GN G0 G1;have hz3:w.heap.size+2<=v3.heap.size:=by omega
 refine (ZjF lo _ B.ps _ (HL.o.below HB3.o).pus hn3).mono ?_;rintro e w3 ⟨u3,rfl,hb3,hs3⟩;obtain⟨b3,m3,rfl⟩:=hs3.form;have GX:=Zab (HX3.o.on hb3);have GR:=Zab (HR3.o.on hb3);have GB:=Zab (HB3.o.trans (hb3.mono HB3.o.size));have GN:=Zab hs3;have hsz3:=hb3.size;have G0:=Zab (HS0.o.below hb3);have G1:=Zab (HS1.o.below hb3);have G2:=Zab (HS2.o.below hb3);have GW:=Zab (Below.ownsB HRV.o hb3);clear hb3 hs3 HX3 HR3 HB3 HS0 HS1 HS2;have o0:=GX.o.cell 0;have o1:=GX.o.cell 1;have o2:=GX.o.cell 2;have o3:=GX.o.cell 3;have o4:=GX.o.cell 4;have o5:=GX.o.cell 5;have o6:=GX.o.cell 6;have f6:=GX.o.free 6;have r0:=GR.o.cell 0;have g0:=GR.o.free 0;have r1:=GR.o.cell 1;have g1:=GR.o.free 1;have r2:=GR.o.cell 2;have g2:=GR.o.free 2;have r3:=GR.o.cell 3;have g3:=GR.o.free 3;have r4:=GR.o.cell 4;have g4:=GR.o.free 4
 have r5:=GR.o.cell 5;have g5:=GR.o.free 5;have r6:=GR.o.cell 6;have g6:=GR.o.free 6;simp at o0 r0 o1 r1 o2 r2 o3 r3 o4 r4 o5 r5 o6 r6;go_wp2;refine bodyPost_ret (v:=.agg #[.int .i64 B.now,.int .i64 B.tick,.int .i64 B.given,.slice b0 B.os.length m0,.slice b1 B.gs.length m1,.slice b2 B.ls.length m2,.slice b3 B.ps.length m3]) (by simp [results,results108,go_sem,r0,r1,r2,r3,r4,r5,r6]) rfl ⟨_,_,_,_,_,_,_,_,rfl,?_,v0.heap.size,w0.heap.size,v1.heap.size,w1.heap.size,v2.heap.size,w2.heap.size,v3.heap.size,w3.heap.size,⟨?_,?_,?_,?_,by omega,by omega,by omega,by omega,by omega,by omega⟩,?_,?_,?_,?_,?_,HGB.o,by omega⟩
 . repeat (refine Below.setCell ?_ (by dsimp;omega) _)
   exact GB.o
 . simp [World.setCell];omega
 . simp [World.setCell];omega
 . simp [World.setCell];omega
 . simp [World.setCell];omega
 . repeat (refine Za6.setLow ?_ (by dsimp;omega) _)
   exact G0.o
 . repeat (refine Zbe.setLow ?_ (by dsimp;omega) _)
   exact G1.o
 . repeat (refine ZaJ.setLow ?_ (by dsimp;omega) _)
   exact G2.o
 . repeat (refine Zbx.setLow ?_ (by dsimp;omega) _)
   exact GN.o
 . iterate 8 (refine Zod ?_ (by dsimp;omega) _)
   exact GW.o
end
section
variable (sv mv tv ov gv lv pv:Value) (Ss:List Sh) (Ms:List Md) (Ts:List Tm) (B:Bk) (FF:Nat->List Zy_) (w:World)
theorem Zhe (hl:ZbC 0 w sv mv tv Ss Ms Ts) (h:ZaY 0 w ov gv lv pv B) (hn:ZaE B) (hsh:Zb1 Ss Ms B.os FF) (hbk:ZcW Ss Ms Ts B FF=true) (u0:Value) (u1:Value) (u2:Value) (u3:Value) (C:Bk) (c:Int)
 (hg:∀ (Wx:World) (lo β:Nat) (b0 b1 b2 b3:Option Addr) (m0 m1 m2 m3:Nat),Zw_ w Wx->w.heap.size<=lo->lo<=β->Wx.heap.size=β+1->Box Wx β #[.int .i64 B.now,.int .i64 B.tick,.int .i64 B.given,.slice b0 B.os.length m0,.slice b1 B.gs.length m1,.slice b2 B.ls.length m2,.slice b3 B.ps.length m3]->Zcu lo β Wx (.slice b0 B.os.length m0) (.slice b1 B.gs.length m1) (.slice b2 B.ls.length m2) (.slice b3 B.ps.length m3) B->
   Calls prog 74 #[.pointer (some ⟨β,0,none⟩),u0,u1,u2,u3] Wx fun e w'=>e=.returned (.int .i64 c)/\Zad lo (β+1) Wx w'/\∃ x0 y0 x1 y1 x2 y2 x3 y3,Box w' β #[.int .i64 C.now,.int .i64 C.tick,.int .i64 C.given,.slice x0 C.os.length y0,.slice x1 C.gs.length y1,.slice x2 C.ls.length y2,.slice x3 C.ps.length y3]/\Zax lo w'.heap.size w' (.slice x0 C.os.length y0) (.slice x1 C.gs.length y1) (.slice x2 C.ls.length y2) (.slice x3 C.ps.length y3) C) :
 Calls prog 48 #[.agg #[sv,mv,tv],.agg #[.int .i64 B.now,.int .i64 B.tick,.int .i64 B.given,ov,gv,lv,pv],.func (.func 74) #[] #[u0,u1,u2,u3]] w fun e w'=>Zd2 w e w' C c:=by
 have HG:=Zab hg;clear hg;have HL:=Zab hl;have HK:=Zab h;have HN:=Zab hn;have HSH:=Zab hsh;have HQ:=Zab hbk;obtain⟨sa,sc,rfl⟩:=hl.shs.form;obtain⟨ma,mc,rfl⟩:=hl.mds.form;obtain⟨ta,tc,rfl⟩:=hl.tms.form;obtain⟨a0,k0,rfl⟩:=h.obs.form;obtain⟨a1,k1,rfl⟩:=h.grs.form;obtain⟨a2,k2,rfl⟩:=h.les.form;obtain⟨a3,k3,rfl⟩:=h.pus.form;clear hl h hn hsh hbk;go_enter func48,ntmps48;go_wp2_with fail;generalize hWa:World.alloc (World.alloc (w.alloc _) _) _=Wa;have HBa:Hd (Zw_ w Wa):=by rw [<- hWa];exact ((Zac w _).alloc (by simp) _).alloc (by simp;omega) _
 have FB:Hd (Box Wa (w.heap.size+1) #[.int .i64 B.now,.int .i64 B.tick,.int .i64 B.given,.slice a0 B.os.length k0,.slice a1 B.gs.length k1,.slice a2 B.ls.length k2,.slice a3 B.ps.length k3]):=by rw [<- hWa];exact (Box.new _ _ _ _ (by simp)).on (Zac _ _)
 have FC:Hd (Box Wa (w.heap.size+2) #[.int .i64 0,.int .i64 0,.int .i64 0,.slice none 0 0,.slice none 0 0,.slice none 0 0,.slice none 0 0]):=by rw [<- hWa];exact Box.new _ _ _ _ (by simp)
 clear hWa;refine (Zgg 0 _ _ _ _ _ _ _ Ss Ms Ts B FF _ (HL.o.below HBa.o) (HK.o.below HBa.o) HN.o HSH.o).mono ?_;rintro e w1 ⟨rfl,hb1⟩;rw [HQ.o];have HB1:Hd (Zw_ w w1):=bt HBa.o hb1;replace FB:=Zab (FB.o.on hb1);replace FC:=Zab (FC.o.on hb1);clear hb1 HBa;have g1:=FB.o.cell;go_wp2_with fail;clear g1;refine (ZiS 0 _ _ _ _ B _ (HK.o.below HB1.o) HN.o).mono ?_;rintro e w2 ⟨b0,m0,b1,m1,b2,m2,b3,m3,rfl,hb2,ho2⟩;have HB2:Hd (Zw_ w w2):=bt HB1.o hb2;have hz1:=FC.o.lt;replace FC:=Zab (FC.o.on hb2);have hz2:=FC.o.lt;have hs12:=hb2.size;have hs01:=HB1.o.size;have HO2:=Zab ho2;clear hb2 ho2 HB1 FB;go_wp2_with fail;generalize hWx:w2.alloc _=Wx;have hx:Below w2.heap.size w2 Wx:=by rw [<- hWx];exact Zac _ _
 have FX:Hd (Box Wx w2.heap.size #[.int .i64 B.now,.int .i64 B.tick,.int .i64 B.given,.slice b0 B.os.length m0,.slice b1 B.gs.length m1,.slice b2 B.ls.length m2,.slice b3 B.ps.length m3]):=by rw [<- hWx];exact Box.new _ _ _ _ rfl
 have hxs:Wx.heap.size=w2.heap.size+1:=by rw [<- hWx];simp
 clear hWx;have HBx:Hd (Zw_ w Wx):=bt HB2.o hx;have HOx:=Zab (HO2.o.below hx);replace FC:=Zab (FC.o.on hx);clear hx HB2 HO2;refine (HG.o Wx w1.heap.size w2.heap.size _ _ _ _ _ _ _ _ HBx.o (by omega) (by omega) hxs FX.o (HOx.o.wide (by omega) Zl_)).mono ?_;rintro e w5 ⟨rfl,ht5,x0,y0,x1,y1,x2,y2,x3,y3,hbx,ho5⟩;have s5:=ht5.size;have FX5:=Zab hbx;have HO5:=Zab ho5;have FC5:=Zab (FC.o.touch ht5 (by omega));have HB5:Hd (Zw_ w w5):=HBx.o.trans ((ht5.under (by omega)).mono (by omega));clear ht5 hbx ho5 FX FC HBx HG HOx;have o0:=FX5.o.cell;have r0:=FC5.o.cell;have g0:=FC5.o.free;go_wp2;clear o0 g0
 refine bodyPost_ret (v:=.tuple #[.agg #[.int .i64 C.now,.int .i64 C.tick,.int .i64 C.given,.slice x0 C.os.length y0,.slice x1 C.gs.length y1,.slice x2 C.ls.length y2,.slice x3 C.ps.length y3],.int .i64 c]) (by simp [results,results48,go_sem,r0]) rfl ⟨_,_,_,_,_,_,_,_,rfl,?_,?_⟩
 . repeat (refine Below.setCell ?_ (by dsimp;omega) _)
   exact HB5.o
 . refine Zax.wide (lo:=w1.heap.size) (hi:=w5.heap.size) ?_ (by omega) (by simp [World.setCell])
   iterate 7 (refine Zax.setLow ?_ (by dsimp;omega) _)
   exact HO5.o
end
theorem Zms (Ts:List Tm) (s:Zy_):decide (ZcB Ts s < 0)=!Zec Ts s:=by
 by_cases h:plT Ts s < Ts.length
 . rw [ZfA h]
   have h1:Zec Ts s=true:=by
    unfold Zec;rw [List.any_eq_true];exact⟨Ts[plT Ts s],List.getElem_mem h,List.findIdx_getElem (p:=fun t:Tm=>t.nm.toList == s.toList) (xs:=Ts) (w:=h)⟩
   rw [h1];simp
 . rw [Zfu h]
   have h1:Zec Ts s=false:=by
    unfold Zec;rw [List.any_eq_false];intro x hx hc;exact h (List.findIdx_lt_length_of_exists ⟨x,hx,hc⟩)
   rw [h1];simp
theorem ZfF {Ss:List Sh}{Ms:List Md}{Ts:List Tm}{B:Bk}{FF:Nat->List Zy_} (h:ZcW Ss Ms Ts B FF=true):B.ls.length<=10/\∀ i (hi:i < B.ls.length),(0<=B.ls[i].mo/\B.ls[i].mo<=1000000)/\(0<=B.ls[i].fr/\B.ls[i].fr<=1000000):=by
 unfold ZcW ZdE Zgk at h;simp only [Bool.and_eq_true] at h;obtain⟨-,-,-,-,hl,-⟩:=h;unfold ZaI at hl;simp only [Bool.and_eq_true,decide_eq_true_eq,List.all_eq_true] at hl;obtain⟨⟨l1,l2⟩,l3⟩:=hl;refine⟨l1,fun i hi=>?_⟩;have:=l3 _ (List.getElem_mem hi);unfold leB at this;simp only [Bool.and_eq_true,ZdF,decide_eq_true_eq] at this;obtain⟨⟨-,h2⟩,h3⟩:=this
 omega
def ZoI (Ls:List Le) (t r:Zy_):Nat:=Ls.findIdx (fun y=>decide (0<=Zce y ⟨t,r,0,0⟩))
def Zhz (Ls:List Le) (x:Le) (p:Nat):List Le:=Ls.take p ++ x :: Ls.drop p
def Zf4 (Ls:List Le) (p:Nat) (mo fr:Int):List Le:=match Ls[p]? with
 | some x=>Ls.set p ⟨x.tm,x.re,mo,fr⟩
 | none=>Ls
theorem Zqp (h:p < Ls.length) (mo fr:Int):Zf4 Ls p mo fr=Ls.set p ⟨Ls[p].tm,Ls[p].re,mo,fr⟩:=by
 unfold Zf4;rw [List.getElem?_eq_getElem h]
theorem Zcs (Ls:List Le) (p:Nat) (mo fr:Int):(Zf4 Ls p mo fr).length=Ls.length:=by
 unfold Zf4
 split
 . rw [List.length_set]
 . rfl
theorem ZlR (h:p<=Ls.length):(Zhz Ls x p).length=Ls.length+1:=by
 unfold Zhz;simp only [List.length_append,List.length_take,List.length_cons,List.length_drop]
 omega
theorem Zo8 {t r:Zy_} (h:Zq1 Zce Ls ⟨t,r,0,0⟩ p):ZoI Ls t r=p:=by
 unfold ZoI
 by_cases hp:p < Ls.length
 . refine (List.findIdx_eq hp).2 ⟨decide_eq_true (h.more p hp Zl_),fun j hj=>?_⟩
   have:=h.less j (by omega) hj;exact decide_eq_false (by omega)
 . have hle:=h.le
   have e:p=Ls.length:=by omega
   rw [e];refine List.findIdx_eq_length.2 fun y hy=>?_
   obtain⟨i,hi,rfl⟩:=List.getElem_of_mem hy;have:=h.less i hi (by omega);exact decide_eq_false (by omega)
theorem ZgY (hr:Zdn Zce Ls=true) (t r:Zy_):Zq1 Zce Ls ⟨t,r,0,0⟩ (ZoI Ls t r):=by
 have hri:=ZjP ZdJ hr ⟨t,r,0,0⟩;have hat:∀ h:ZoI Ls t r < Ls.length,0<=Zce Ls[ZoI Ls t r] ⟨t,r,0,0⟩:=fun h=>of_decide_eq_true (List.findIdx_getElem (p:=fun y=>decide (0<=Zce y ⟨t,r,0,0⟩)) (xs:=Ls) (w:=h))
 refine⟨List.findIdx_le_length,fun i hi hip=>?_,fun i hi hip=>?_⟩
 . have:=List.not_of_lt_findIdx (p:=fun y=>decide (0<=Zce y ⟨t,r,0,0⟩)) (xs:=Ls) hip
   simp only [decide_eq_false_iff_not] at this;have h2:¬ (0<=Zce Ls[i] ⟨t,r,0,0⟩):=by simpa using this
   omega
 . rcases Nat.lt_or_ge (ZoI Ls t r) i with h | h
   . have h1:=hat (by omega)
     by_cases h2:Zce Ls[i] ⟨t,r,0,0⟩ < 0
     . have:=hri (ZoI Ls t r) i (by omega) hi h h2
       omega
     . omega
   . have e:i=ZoI Ls t r:=by omega
     subst e;exact hat hi
def Zcw (Ts:List Tm) (t r:Zy_) (mo:Int):Bool:=Zec Ts t&&Zan r&&inB 0 1000000 mo
def ZaT (Ss:List Sh) (Ts:List Tm) (B:Bk) (t r:Zy_) (mo:Int):Bk×Int:=
 if Zcw Ts t r mo=true then
  (if B.ls.any (ZbV t r)=true then
    (match B.ls[(Zks B.ls t r).toNat]? with
     | some x=>if x.fr+mo - x.mo < 0 then (B,3) else (⟨B.now,B.tick,B.given,B.os,B.gs,Zf4 B.ls (Zks B.ls t r).toNat mo (x.fr+mo - x.mo),B.ps⟩,0)
     | none=>(B,3))
   else if wrap64 (mo - wrap64 (ZbF Ss Ts B.os t r)) < 0 then (B,3) else if 10<=B.ls.length then (B,4)
   else (⟨B.now,B.tick,B.given,B.os,B.gs,Zhz B.ls ⟨t,r,mo,wrap64 (mo - wrap64 (ZbF Ss Ts B.os t r))⟩ (ZoI B.ls t r),B.ps⟩,0))
 else (B,2)
theorem Zq7 (h:ZaJ l0 l1 W (.slice (some ⟨b,off,none⟩) Ls.length cap) Ls) {p:Nat} (hp:p < Ls.length) (mo fr:Int) :
 ZaJ l0 l1 ((W.setCell ⟨b,off+p*4+2,none⟩ (.int .i64 mo)).setCell ⟨b,off+p*4+3,none⟩ (.int .i64 fr)) (.slice (some ⟨b,off,none⟩) Ls.length cap) (Zf4 Ls p mo fr)/\
 Zad l0 l1 W ((W.setCell ⟨b,off+p*4+2,none⟩ (.int .i64 mo)).setCell ⟨b,off+p*4+3,none⟩ (.int .i64 fr)):=by
 rcases h with ⟨_,_,_,h⟩ | ⟨b',off',cap',c,X,h1,h2,h3,h4,h5,h6⟩
 . rw [h] at hp;simp at hp
 . injection h1 with e1 _ e3
   injection e1 with e1
   injection e1 with e1 e2
   subst e1 e2 e3;have hr:=h6.row p hp;rw [h5 p hp] at hr;obtain⟨hz,hc⟩:=hr;have hbc:b < c p:=Zk_ h6.bc (h6.le Zz_ (by omega))
   have hst:ZiF W b (off+p*4) (c p) (c (p+1)) W Ls[p]:=⟨ZbX.refl _ _ _ _ _ _,hbc,hc,h6.frz,h6.lt⟩;have hs:=(hst.s2 mo).s3 fr;have hrow:=h6.near hp hs.near (show ZfI b (off+p*4) (c p) (c (p+1)) _ ⟨Ls[p].tm,Ls[p].re,mo,fr⟩ from ⟨⟨hz.s0,hz.s1⟩,hs.cells⟩);refine⟨Or.inr ⟨b,off,cap,c,_,by rw [Zcs],?_,by rw [Zcs];exact h3,by rw [Zcs];exact h4,fun i hi=>?_,by rw [Zcs];exact hrow⟩,hs.near.wide h6.lt (by have:=h6.low;omega) (Nat.le_trans (h6.le (by omega) Zl_) h6.top) ⟨h6.low,h6.bh⟩⟩
   . intro e
     have:=congrArg List.length e;rw [Zcs] at this;exact h2 (List.length_eq_zero_iff.1 (by simpa using this))
   . have hi':i < Ls.length:=by rw [Zcs] at hi;exact hi
     have e:(Zf4 Ls p mo fr)[i]=(Ls.set p ⟨Ls[p].tm,Ls[p].re,mo,fr⟩)[i]'(by rw [List.length_set];exact hi'):=by
      have:=Zqp hp mo fr;simp only [this]
     rw [e,List.getElem_set]
     by_cases ei:i=p
     . subst ei;simp
     . rw [if_neg ei,if_neg (fun h=>ei h.symm)];exact h5 i hi'
theorem Zik (l0 l1 b off cap p:Nat) (Ls:List Le) (mo:Int) (w:World) (h:ZaJ l0 l1 w (.slice (some ⟨b,off,none⟩) Ls.length cap) Ls) (hp:p < Ls.length) (hm:0<=Ls[p].mo/\Ls[p].mo<=1000000) (hf:0<=Ls[p].fr/\Ls[p].fr<=1000000) (hmo:0<=mo/\mo<=1000000) :
 Calls prog 133 #[.pointer (some ⟨b,off+p*4,none⟩),.int .i64 mo] w fun e w'=>(Ls[p].fr+mo - Ls[p].mo < 0/\e=.returned (.int .i64 3)/\Zw_ w w')\/(¬ Ls[p].fr+mo - Ls[p].mo < 0/\e=.returned (.int .i64 0)/\Zad l0 l1 w w'/\ZaJ l0 l1 w' (.slice (some ⟨b,off,none⟩) Ls.length cap) (Zf4 Ls p mo (Ls[p].fr+mo - Ls[p].mo))):=by
 obtain⟨b',off',e',hbw,-,hc⟩:=h.at.full' (by omega);injection e' with e'
 injection e' with e1 e2
 subst e1 e2;obtain⟨_,hcl⟩:=hc p hp;have c2:=hcl.c2;have c3:=hcl.c3;have fz:=h.frz (by omega);have hw1:IntKind.wrap .i64 (Ls[p].fr+mo)=Ls[p].fr+mo:=by rw [IntKind.wrap_i64];omega
 have hw2:IntKind.wrap .i64 (Ls[p].fr+mo - Ls[p].mo)=Ls[p].fr+mo - Ls[p].mo:=by rw [IntKind.wrap_i64];omega
 have HH:=Zab h;clear h hc hcl;go_enter func133,ntmps133;go_wp2
 go_quiet (fail)
 have hbn:Zw_ w (w.drewN nq):=below_drewN Zb_ nq;have HHn:=Zab (HH.o.below hbn);have HBn:=Zab hbn;have d2:(w.drewN nq).cell? ⟨b,off+p*4+2,none⟩=_:=(hbn.cell (p:=⟨b,off+p*4+2,none⟩) hbw).trans c2;have d3:(w.drewN nq).cell? ⟨b,off+p*4+3,none⟩=_:=(hbn.cell (p:=⟨b,off+p*4+3,none⟩) hbw).trans c3;have fn:∀ i,(w.drewN nq).frozen? ⟨b,i,none⟩=false:=fun i=>(hbn.frozen (p:=⟨b,i,none⟩) hbw).trans (fz i)
 clear hbn c2 c3 fz HH;generalize w.drewN nq=Wn at*
 by_cases hn:Ls[p].fr+mo - Ls[p].mo < 0
 . go_wp2
   go_ret
   first
   | exact Or.inl ⟨hn,rfl,HBn.o⟩
   | exact Or.inl ⟨rfl,HBn.o⟩
   | exact⟨rfl,HBn.o⟩
 . have HP:=Zab (Zq7 HHn.o hp mo (Ls[p].fr+mo - Ls[p].mo))
   go_wp2;go_ret;exact Or.inr ⟨by omega,rfl,(Zad.below HBn.o).trans HP.o.2,HP.o.1⟩
theorem Zmj {w:World} (h:ZaJ l0 l1 w v Ls):∀ i (hi:i < Ls.length),Zco Ls[i]:=fun i hi=>by
 obtain⟨_,_,_,_,_,_,_,hc⟩:=h.at.full (fun e=>by rw [e] at hi;simp at hi);exact (hc i hi).1
theorem ZqP {g:Nat}{L:List Le} (h:W.ownsRow base 92 4 (.slice (some ⟨g,0,none⟩) L.length cap) L.length (Zbv L)) (hz:∀ i (hi:i < L.length),Zco L[i]):ZaJ g (g+1) W (.slice (some ⟨g,0,none⟩) L.length cap) L:=by
 by_cases hL:L=[]
 . subst hL;exact Or.inl ⟨_,_,rfl,rfl⟩
 . have hl:=Zbj h (g:=g) rfl
   have ho:=h;have h0:0 < L.length:=List.length_pos_iff.2 hL
   rcases h.2 with ⟨hv,_⟩ | ⟨g',cap',cur,hv,h1,h2,h3,h4,_⟩
   . injection hv with hv;cases hv
   . injection hv with e1 _ e3
     injection e1 with e1
     injection e1 with e1
     subst e1 e3;refine Or.inr ⟨g,0,cap,fun _=>g+1,fun i=>if h:i < L.length then L[i] else L[0],rfl,hL,Nat.le_trans h3 h4,h3,fun i hi=>by simp [hi],hl.1,Nat.le_refl _,Nat.lt_succ_self _,Nat.lt_succ_self _,fun _ _=>Nat.le_refl _,Nat.le_refl _,fun i=>hl.2.2 i,fun i hi=>?_⟩;obtain⟨v0,v1,v2,v3⟩:=Zi9 L i hi;simp only [hi,dif_pos];have ce:∀ j,j < 4->W.cell? ⟨g,0+i*4+j,none⟩=(Zbv L)[i*4+j]?:=fun j hj=>by rw [Nat.zero_add];exact ho.cellAt _ (by omega)
     exact⟨hz i hi,⟨(ce 0 (by omega)).trans v0,(ce 1 (by omega)).trans v1,(ce 2 (by omega)).trans v2,(ce 3 (by omega)).trans v3⟩⟩
theorem ZiI (hz:∀ i (hi:i < Ls.length),Zco Ls[i]) {x:Le} (hx:Zco x) (p:Nat):∀ i (hi:i < (Zhz Ls x p).length),Zco (Zhz Ls x p)[i]:=fun i hi=>by
 have hm:=List.getElem_mem hi;have hm':(Zhz Ls x p)[i] ∈ Ls.take p ++ x :: Ls.drop p:=hm;rw [List.mem_append,List.mem_cons] at hm'
 rcases hm' with hm | hm | hm
 . obtain⟨k,hk,e⟩:=List.getElem_of_mem (List.mem_of_mem_take hm)
   rw [<- e];exact hz k hk
 . rw [hm];exact hx
 . obtain⟨k,hk,e⟩:=List.getElem_of_mem (List.mem_of_mem_drop hm)
   rw [<- e];exact hz k hk
section
variable (lo β:Nat) (sv mv tv:Value) (Ss:List Sh) (Ms:List Md) (Ts:List Tm) (B:Bk) (a0 a1 a2 a3:Option Addr) (k0 k1 k2 k3:Nat) (t r:Zy_) (mo:Int) (w:World)
theorem ZqT (hl:ZbC 0 w sv mv tv Ss Ms Ts) (hX:Box w β #[.int .i64 B.now,.int .i64 B.tick,.int .i64 B.given,.slice a0 B.os.length k0,.slice a1 B.gs.length k1,.slice a2 B.ls.length k2,.slice a3 B.ps.length k3])
 (hO:Zcu lo β w (.slice a0 B.os.length k0) (.slice a1 B.gs.length k1) (.slice a2 B.ls.length k2) (.slice a3 B.ps.length k3) B) (hn:Zbp B.os) (hok:Zq3 B.ls B.ps) (hmost:B.ls.length<=10/\∀ i (hi:i < B.ls.length),(0<=B.ls[i].mo/\B.ls[i].mo<=1000000)/\(0<=B.ls[i].fr/\B.ls[i].fr<=1000000)) (hlo:lo<=β) (ht:t.size<=maxLen) (hr:r.size<=maxLen) :
 Calls prog 75 #[.agg #[sv,mv,tv],.pointer (some ⟨β,0,none⟩),.agg #[.string t,.string r,.int .i64 mo,.int .i64 0]] w fun e w'=>e=.returned (.int .i64 (ZaT Ss Ts B t r mo).2)/\Zad lo (β+1) w w'/\∃ a9 c9,Box w' β #[.int .i64 B.now,.int .i64 B.tick,.int .i64 B.given,.slice a0 B.os.length k0,.slice a1 B.gs.length k1,.slice a9 (ZaT Ss Ts B t r mo).1.ls.length c9,.slice a3 B.ps.length k3]/\
  Zax lo w'.heap.size w' (.slice a0 B.os.length k0) (.slice a1 B.gs.length k1) (.slice a9 (ZaT Ss Ts B t r mo).1.ls.length c9) (.slice a3 B.ps.length k3) (ZaT Ss Ts B t r mo).1:=by
 have HL:=Zab hl;have HX0:=Zab hX;have HO0:=Zab hO;have HN:=Zab hn;have HOK:=Zab hok;have HMO:=Zab hmost.2;have h10:=hmost.1;have hlw:=hX.lt;have hnl:=hok.nl;have HSD:=Zab (And.intro ht hr);obtain⟨sa,sc,rfl⟩:=hl.shs.form;obtain⟨ma,mc,rfl⟩:=hl.mds.form;obtain⟨ta,tc,rfl⟩:=hl.tms.form;clear hl hX hO hn hok hmost ht hr;go_enter func75,ntmps75;go_wp2_with fail;generalize hWa:World.alloc (w.alloc _) _=Wa;have HBa:Hd (Zw_ w Wa):=by rw [<- hWa];exact (Zac w _).alloc (by simp) _
 have hsa:Wa.heap.size=w.heap.size+2:=by rw [<- hWa];simp
 have FL:Hd (Box Wa w.heap.size #[.slice sa Ss.length sc,.slice ma Ms.length mc,.slice ta Ts.length tc]):=by rw [<- hWa];exact (Box.new _ _ _ _ rfl).on (Zac _ _)
 have FP:Hd (Box Wa (w.heap.size+1) #[.string t,.string r,.int .i64 mo,.int .i64 0]):=by rw [<- hWa];exact Box.new _ _ _ _ (by simp)
 clear hWa;refine (Zb3 0 _ Ts t _ (HL.o.below HBa.o).tms).mono ?_;rintro e w1 ⟨rfl,hb1⟩;have HB1:Hd (Zw_ w w1):=bt HBa.o hb1;have hs1:=hb1.size;replace FL:=Zab (FL.o.on hb1);replace FP:=Zab (FP.o.on hb1);have FA:=Zab (HX0.o.on HB1.o);have HO1:=Zab (HO0.o.below HB1.o);clear hb1 HBa HX0 HO0;have hpl:=Zms Ts t;have p0:=FP.o.cell
 by_cases hask:Zcw Ts t r mo=true
 case neg=>
  have HBP:Hd (ZaT Ss Ts B t r mo=(B,2)):=by unfold Hd ZaT;rw [if_neg hask]
  have HFIN:Hd (Zad lo (β+1) w w1/\∃ a9 c9,Box w1 β #[.int .i64 B.now,.int .i64 B.tick,.int .i64 B.given,.slice a0 B.os.length k0,.slice a1 B.gs.length k1,.slice a9 B.ls.length c9,.slice a3 B.ps.length k3]/\Zax lo w1.heap.size w1 (.slice a0 B.os.length k0) (.slice a1 B.gs.length k1) (.slice a9 B.ls.length c9) (.slice a3 B.ps.length k3) B):=
   ⟨Zad.below HB1.o,_,_,FA.o,HO1.o.own.wide Zl_ (by omega)⟩
  unfold Zcw at hask
  cases h1:Zec Ts t with
  | false=>
   rw [h1] at hpl;have hneg:ZcB Ts t < 0:=by simpa using hpl
   clear hpl;go_wp2;go_ret;rw [HBP.o];exact⟨rfl,HFIN.o⟩
  | true=>
   rw [h1] at hpl;have hneg:¬ ZcB Ts t < 0:=by simpa using hpl
   clear hpl
   cases h2:Zan r with
   | false=>
    go_wp2_with (first|(go_at_call 110;refine (ZkU _ _ HSD.o.2).mono ?_;rintro e w' ⟨rfl,rfl⟩)|(go_at_call 111;refine (ZkY _ _ _ _).mono ?_;rintro e w' ⟨rfl,rfl⟩));go_ret;rw [HBP.o];exact⟨rfl,HFIN.o⟩
   | true=>
    have h3:inB 0 1000000 mo=false:=by
     rw [h1,h2] at hask
     simpa using hask
    go_wp2_with (first|(go_at_call 110;refine (ZkU _ _ HSD.o.2).mono ?_;rintro e w' ⟨rfl,rfl⟩)|(go_at_call 111;refine (ZkY _ _ _ _).mono ?_;rintro e w' ⟨rfl,rfl⟩));go_ret;rw [HBP.o];exact⟨rfl,HFIN.o⟩
 have hhas:Zec Ts t=true:=by unfold Zcw at hask;simp only [Bool.and_eq_true] at hask;exact hask.1.1
 have hnm:Zan r=true:=by unfold Zcw at hask;simp only [Bool.and_eq_true] at hask;exact hask.1.2
 have hin:inB 0 1000000 mo=true:=by unfold Zcw at hask;simp only [Bool.and_eq_true] at hask;exact hask.2
 have hmo:0<=mo/\mo<=1000000:=by have:=hin;rw [ZdF] at this;simpa using this
 rw [hhas] at hpl;have hneg:¬ ZcB Ts t < 0:=by simpa using hpl
 have HAK:=Zab hask;clear hpl hask hhas;go_wp2_with (first|(go_at_call 110;refine (ZkU _ _ HSD.o.2).mono ?_;rintro e w' ⟨rfl,rfl⟩)|(go_at_call 111;refine (ZkY _ _ _ _).mono ?_;rintro e w' ⟨rfl,rfl⟩));clear p0 hneg hnm hin;have HL1:=Zab HO1.o.own.at.les
 go_cut [7,8] from 9 (fun pv bv wc=>∃ p:Nat,pv=.int .i64 p/\bv=.bool (B.ls.any (ZbV t r))/\Zq1 Zce B.ls ⟨t,r,0,0⟩ p/\Below w1.heap.size w1 wc)
 case first=>
  have KP:Hd (∀ W,Below w1.heap.size w1 W->((∀ i,W.cell? ⟨w.heap.size+1,i,none⟩=(#[.string t,.string r,.int .i64 mo,.int .i64 0]:Array Value)[i]?)/\(∀ i,W.cell? ⟨β,i,none⟩=(#[.int .i64 B.now,.int .i64 B.tick,.int .i64 B.given,.slice a0 B.os.length k0,.slice a1 B.gs.length k1,.slice a2 B.ls.length k2,.slice a3 B.ps.length k3]:Array Value)[i]?))):=fun W hW=>⟨(FP.o.on hW).cell,(FA.o.on hW).cell⟩
  clear FL FP FA
  go_region_held3 (fun W=>(∀ i,W.cell? ⟨w.heap.size+1,i,none⟩=(#[.string t,.string r,.int .i64 mo,.int .i64 0]:Array Value)[i]?)/\(∀ i,W.cell? ⟨β,i,none⟩=(#[.int .i64 B.now,.int .i64 B.tick,.int .i64 B.given,.slice a0 B.os.length k0,.slice a1 B.gs.length k1,.slice a2 B.ls.length k2,.slice a3 B.ps.length k3]:Array Value)[i]?))
   (first
     | (with_reducible exact KP.o _ (Zb_.drew))
     | (exact KP.o _ HC1.o)
     | assumption)
   (first
     | (go_at_call 109
        refine (Zen lo _ B.ls t r _ (HL1.o.below (Zb_.drew)) hnl HOK.o.rl).mono ?_;rintro e w2 ⟨⟨p,hp,rfl⟩,hb2⟩;have HP:=Zab hp;have HC1:Hd (Below w1.heap.size w1 w2):=Zb_.drew.trans (hb2.mono Zl_);clear hp hb2))
  all_goals go_wp2
  all_goals go_meet
  all_goals exact⟨p,rfl,rfl,HP.o,HC1.o⟩
 case rest=>
 revert wc;intro wd hcut;obtain⟨p,rfl,rfl,hp,hwd⟩:=hcut;have hsd:=hwd.size;replace FL:=Zab (FL.o.on hwd);replace FP:=Zab (FP.o.on hwd);replace FA:=Zab (FA.o.on hwd);have HOd:=Zab (HO1.o.below hwd);have HBd:Hd (Zw_ w wd):=bt HB1.o hwd;have HSP:=Zab hp;clear hwd hp HB1 HL1 HO1
 cases hany:B.ls.any (ZbV t r) with
 | true=>
  obtain⟨hpl,e1,e2⟩:=Zqd HOK.o.rl HSP.o hany;have hkp:Zks B.ls t r=p:=ZqM HOK.o.rl hpl e1 e2
  have HBP:Hd (ZaT Ss Ts B t r mo=if B.ls[p].fr+mo - B.ls[p].mo < 0 then (B,3) else (⟨B.now,B.tick,B.given,B.os,B.gs,Zf4 B.ls p mo (B.ls[p].fr+mo - B.ls[p].mo),B.ps⟩,0)):=by
   unfold Hd ZaT;rw [if_pos HAK.o,if_pos hany,hkp,Int.toNat_natCast,List.getElem?_eq_getElem hpl]
  clear hkp e1 e2 hany;obtain⟨o0,o1,g0,g1,l0,l1,q0,q1,ha,hOo,hGo,hLo,hPo⟩:=HOd.o.own;obtain⟨lb,lf,hla⟩:=hLo.some (by omega);subst hla;have HAP:=Zab ha;have HOo:=Zab hOo;have HGo:=Zab hGo;have HLo:=Zab hLo;have HPo:=Zab hPo;have hyl:=ha.l;have KP:Hd (∀ W,Zad l0 l1 wd W->(∀ i,W.cell? ⟨w.heap.size+1,i,none⟩=(#[.string t,.string r,.int .i64 mo,.int .i64 0]:Array Value)[i]?)/\(∀ i,W.cell? ⟨β,i,none⟩=(#[.int .i64 B.now,.int .i64 B.tick,.int .i64 B.given,.slice a0 B.os.length k0,.slice a1 B.gs.length k1,.slice (some ⟨lb,lf,none⟩) B.ls.length k2,.slice a3 B.ps.length k3]:Array Value)[i]?)):=fun W hW=>⟨(FP.o.touch hW (by omega)).cell,(FA.o.touch hW (by omega)).cell⟩
  clear ha hOo hGo hLo hPo;obtain⟨lb',lf',e',hlw,-,hc⟩:=HLo.o.at.full' (by omega);injection e' with e'
  injection e' with e1 e2
  subst e1 e2;clear hc
  by_cases hng:B.ls[p].fr+mo - B.ls[p].mo < 0
  . have HB3:Hd (ZaT Ss Ts B t r mo=(B,3)):=by unfold Hd;rw [HBP.o,if_pos hng]
    have HNG:=Zab hng;clear hng HBP;go_wp2
    go_region_held3 (fun W=>(∀ i,W.cell? ⟨w.heap.size+1,i,none⟩=(#[.string t,.string r,.int .i64 mo,.int .i64 0]:Array Value)[i]?)/\(∀ i,W.cell? ⟨β,i,none⟩=(#[.int .i64 B.now,.int .i64 B.tick,.int .i64 B.given,.slice a0 B.os.length k0,.slice a1 B.gs.length k1,.slice (some ⟨lb,lf,none⟩) B.ls.length k2,.slice a3 B.ps.length k3]:Array Value)[i]?))
     (first
       | (with_reducible exact KP.o _ (Zad.below (Zb_.drew)))
       | (exact KP.o _ HT2.o)
       | assumption)
     (first
       | (go_at_call 133
          refine (Zik l0 l1 lb lf k2 p B.ls mo _ (HLo.o.below (Zb_.drew)) hpl (HMO.o p hpl).1 (HMO.o p hpl).2 hmo).mono ?_;intro e w2 hpost
          obtain⟨rfl,hb2⟩:e=.returned (.int .i64 3)/\Below wd.drew.heap.size wd.drew w2:=by
           rcases hpost with ⟨_,h2,h3⟩ | ⟨h2,_⟩
           . exact⟨h2,h3⟩
           . exact absurd HNG.o h2
          have HC2:Hd (Below wd.heap.size wd w2):=Zb_.drew.trans (hb2.mono Zl_);have HT2:Hd (Zad l0 l1 wd w2):=Zad.below HC2.o;clear hpost hb2))
    all_goals go_wp2
    all_goals go_ret
    rw [HB3.o];exact⟨rfl,Zad.below (bt HBd.o HC2.o),_,_,FA.o.on HC2.o,(HOd.o.own.below HC2.o).wide Zl_ (by have:=HC2.o.size;omega)⟩
  . have HB0:Hd (ZaT Ss Ts B t r mo=(⟨B.now,B.tick,B.given,B.os,B.gs,Zf4 B.ls p mo (B.ls[p].fr+mo - B.ls[p].mo),B.ps⟩,0)):=by unfold Hd;rw [HBP.o,if_neg hng]
    have HNG:=Zab hng;clear hng HBP;go_wp2
    go_region_held3 (fun W=>(∀ i,W.cell? ⟨w.heap.size+1,i,none⟩=(#[.string t,.string r,.int .i64 mo,.int .i64 0]:Array Value)[i]?)/\(∀ i,W.cell? ⟨β,i,none⟩=(#[.int .i64 B.now,.int .i64 B.tick,.int .i64 B.given,.slice a0 B.os.length k0,.slice a1 B.gs.length k1,.slice (some ⟨lb,lf,none⟩) B.ls.length k2,.slice a3 B.ps.length k3]:Array Value)[i]?))
     (first
       | (with_reducible exact KP.o _ (Zad.below (Zb_.drew)))
       | (exact KP.o _ HT2.o)
       | assumption)
     (first
       | (go_at_call 133
          refine (Zik l0 l1 lb lf k2 p B.ls mo _ (HLo.o.below (Zb_.drew)) hpl (HMO.o p hpl).1 (HMO.o p hpl).2 hmo).mono ?_;intro e w2 hpost
          obtain⟨rfl,ht2,hl2⟩:e=.returned (.int .i64 0)/\Zad l0 l1 wd.drew w2/\ZaJ l0 l1 w2 (.slice (some ⟨lb,lf,none⟩) B.ls.length k2) (Zf4 B.ls p mo (B.ls[p].fr+mo - B.ls[p].mo)):=by
           rcases hpost with ⟨h2,_⟩ | ⟨_,h2,h3,h4⟩
           . exfalso;have:=HNG.o;omega
           . exact⟨h2,h3,h4⟩
          have HT2:Hd (Zad l0 l1 wd w2):=(Zad.below (Zb_.drew)).trans ht2;have HL2:=Zab hl2;clear hpost ht2 hl2))
    all_goals go_wp2
    all_goals go_ret
    obtain⟨⟨y1,y2⟩,⟨y3,y4⟩,⟨y5,y6⟩,⟨y7,y8⟩,yog,yol,yop,ygl,ygp,ylp⟩:=HAP.o;have hs2:=HT2.o.size;have htl:=Zcs B.ls p mo (B.ls[p].fr+mo - B.ls[p].mo);rw [HB0.o];refine⟨rfl,(Zad.below HBd.o).trans (HT2.o.wide (by omega) (by omega)),some ⟨lb,lf,none⟩,k2,?_,?_⟩
    . simp only [htl]
      exact FA.o.touch HT2.o (by omega)
    . simp only [htl]
      exact⟨o0,o1,g0,g1,l0,l1,q0,q1,⟨⟨y1,by omega⟩,⟨y3,by omega⟩,⟨y5,by omega⟩,⟨y7,by omega⟩,yog,yol,yop,ygl,ygp,ylp⟩,HOo.o.touch HT2.o (by omega),HGo.o.touch HT2.o (by omega),HL2.o,HPo.o.touch HT2.o (by omega)⟩
 | false=>
  have HBP:Hd (ZaT Ss Ts B t r mo=if wrap64 (mo - wrap64 (ZbF Ss Ts B.os t r)) < 0 then (B,3) else if 10<=B.ls.length then (B,4) else (⟨B.now,B.tick,B.given,B.os,B.gs,Zhz B.ls ⟨t,r,mo,wrap64 (mo - wrap64 (ZbF Ss Ts B.os t r))⟩ p,B.ps⟩,0)):=by
   unfold Hd ZaT;rw [if_pos HAK.o,hany,if_neg (by simp),Zo8 HSP.o]
  have hple:=HSP.o.le;clear hany;have hwv:IntKind.wrap .i64 (mo - wrap64 (ZbF Ss Ts B.os t r))=wrap64 (mo - wrap64 (ZbF Ss Ts B.os t r)):=by unfold wrap64;exact IntKind.wrap_i64 _
  have HLd:=Zab (HL.o.below HBd.o);have HUd:=Zab (HOd.o.own.at.obs.mono Zz_);go_wp2
  go_cut [] from 9 (fun wc=>Zad (w.heap.size+1) (w.heap.size+1+1) wd wc/\Box wc (w.heap.size+1) #[.string t,.string r,.int .i64 mo,.int .i64 (wrap64 (mo - wrap64 (ZbF Ss Ts B.os t r)))])
  case first=>
   have KP:Hd (∀ W,Below wd.heap.size wd W->(∀ i,W.cell? ⟨w.heap.size,i,none⟩=(#[.slice sa Ss.length sc,.slice ma Ms.length mc,.slice ta Ts.length tc]:Array Value)[i]?)/\(∀ i,W.cell? ⟨β,i,none⟩=(#[.int .i64 B.now,.int .i64 B.tick,.int .i64 B.given,.slice a0 B.os.length k0,.slice a1 B.gs.length k1,.slice a2 B.ls.length k2,.slice a3 B.ps.length k3]:Array Value)[i]?)/\W.cell? ⟨w.heap.size+1,0,none⟩=some (.string t)/\W.cell? ⟨w.heap.size+1,1,none⟩=some (.string r)/\W.cell? ⟨w.heap.size+1,2,none⟩=some (.int .i64 mo)):=fun W hW=>⟨(FL.o.on hW).cell,(FA.o.on hW).cell,(FP.o.on hW).cell 0,(FP.o.on hW).cell 1,(FP.o.on hW).cell 2⟩
   have KQ:Hd (∀ (W0:World) (u:Value),Below wd.heap.size wd W0->(fun W=>(∀ i,W.cell? ⟨w.heap.size,i,none⟩=(#[.slice sa Ss.length sc,.slice ma Ms.length mc,.slice ta Ts.length tc]:Array Value)[i]?)/\(∀ i,W.cell? ⟨β,i,none⟩=(#[.int .i64 B.now,.int .i64 B.tick,.int .i64 B.given,.slice a0 B.os.length k0,.slice a1 B.gs.length k1,.slice a2 B.ls.length k2,.slice a3 B.ps.length k3]:Array Value)[i]?)/\W.cell? ⟨w.heap.size+1,0,none⟩=some (.string t)/\W.cell? ⟨w.heap.size+1,1,none⟩=some (.string r)/\W.cell? ⟨w.heap.size+1,2,none⟩=some (.int .i64 mo)) (W0.setCell ⟨w.heap.size+1,3,none⟩ u)):=fun W0 u hW=>by
    have hb:=(FP.o.on hW).set (k:=3) u (by simp);exact⟨((FL.o.on hW).setFar (by dsimp;omega) u).cell,((FA.o.on hW).setFar (by dsimp;omega) u).cell,hb.cell 0,hb.cell 1,hb.cell 2⟩
   clear FL FA
   go_region_held3 (fun W=>(∀ i,W.cell? ⟨w.heap.size,i,none⟩=(#[.slice sa Ss.length sc,.slice ma Ms.length mc,.slice ta Ts.length tc]:Array Value)[i]?)/\(∀ i,W.cell? ⟨β,i,none⟩=(#[.int .i64 B.now,.int .i64 B.tick,.int .i64 B.given,.slice a0 B.os.length k0,.slice a1 B.gs.length k1,.slice a2 B.ls.length k2,.slice a3 B.ps.length k3]:Array Value)[i]?)/\W.cell? ⟨w.heap.size+1,0,none⟩=some (.string t)/\W.cell? ⟨w.heap.size+1,1,none⟩=some (.string r)/\W.cell? ⟨w.heap.size+1,2,none⟩=some (.int .i64 mo))
    (first
      | (with_reducible exact KP.o _ (Zb_.drew))
      | (exact KP.o _ HC2.o)
      | (exact KQ.o _ _ HC2.o)
      | assumption)
    (first
      | (go_at_call 134
         refine (Zkf 0 _ _ _ _ Ss Ms Ts B.os _ _ _ t r _ (HLd.o.below (Zb_.drew)) (HUd.o.below (Zb_.drew)) HN.o _ _ _ _ _ _ _ _ _).mono ?_;rintro e w2 ⟨rfl,hb2⟩;have HC2:Hd (Below wd.heap.size wd w2):=Zb_.drew.trans (hb2.mono Zl_);have FP2:=Zab (FP.o.on HC2.o);have p3:=FP2.o.cell 3;have f3:=FP2.o.free 3;simp at p3;clear hb2))
   all_goals go_wp2
   all_goals go_meet
   all_goals exact⟨(Zad.below HC2.o).trans (Zad.setB _ _ _ _),FP2.o.set (k:=3) (.int .i64 (wrap64 (mo - wrap64 (ZbF Ss Ts B.os t r)))) (by simp)⟩
  case rest=>
  revert wc;intro we hcut;obtain⟨hte,hpe⟩:=hcut;have hse:=hte.size;have FPe:=Zab hpe;have FAe:=Zab (FA.o.touch hte (by omega));have HOe:=Zab (HOd.o.touch hte (by omega));have HBe:Hd (Zw_ w we):=HBd.o.trans ((hte.under (by omega)).mono (by omega));clear hte hpe FL FP FA HOd HBd HLd HUd;generalize wrap64 (mo - wrap64 (ZbF Ss Ts B.os t r))=fv at*;have p3:=FPe.o.cell 3;have x5:=FAe.o.cell 5;simp at p3 x5
  by_cases hng:fv < 0
  . have HB3:Hd (ZaT Ss Ts B t r mo=(B,3)):=by unfold Hd;rw [HBP.o,if_pos hng]
    go_wp2;go_ret;rw [HB3.o];exact⟨rfl,Zad.below HBe.o,_,_,FAe.o,HOe.o.own.wide Zl_ (by omega)⟩
  by_cases hten:10<=B.ls.length
  . have HB4:Hd (ZaT Ss Ts B t r mo=(B,4)):=by unfold Hd;rw [HBP.o,if_neg hng,if_pos hten]
    have hti:(B.ls.length:Int)=10:=by omega
    have htb:((B.ls.length:Int) == 10)=true:=by simp [hti]
    clear hti;go_wp2;go_ret;rw [HB4.o];exact⟨rfl,Zad.below HBe.o,_,_,FAe.o,HOe.o.own.wide Zl_ (by omega)⟩
  have HB0:Hd (ZaT Ss Ts B t r mo=(⟨B.now,B.tick,B.given,B.os,B.gs,Zhz B.ls ⟨t,r,mo,fv⟩ p,B.ps⟩,0)):=by unfold Hd;rw [HBP.o,if_neg hng,if_neg hten]
  have htb:((B.ls.length:Int) == 10)=false:=by simp;omega
  clear HBP;obtain⟨o0,o1,g0,g1,l0,l1,q0,q1,ha,hOo,hGo,hLo,hPo,hRo,hGb,hl01⟩:=HOe.o;have HAP:=Zab ha;have HOo:=Zab hOo;have HGo:=Zab hGo;have HPo:=Zab hPo;have HRo:=Zab hRo;have HZo:=Zab (Zmj hLo);have HGb:=Zab hGb;have hyl:=ha.l;clear ha hOo hGo hLo hPo hRo hGb;go_wp2;clear p3;have p0:=FPe.o.cell;have x5':∀ o,(we.alloc o).cell? ⟨β,5,none⟩=some (.slice a2 B.ls.length k2):=fun o=>(FAe.o.on (Zac we o)).cell 5
  go_cut [] from 9 (fun wc=>∃ w2 v',w2.ownsRow l0 92 4 v' (B.ls.length+1) (Zbv (B.ls.take p ++ ⟨t,r,mo,fv⟩ :: B.ls.drop p))/\(∃ W,Below we.heap.size we W/\W.grownBy w2 (Value.slice a2 B.ls.length k2).ownBlock/\(v'.ownBlock=(Value.slice a2 B.ls.length k2).ownBlock\/v'.ownBlock=some W.heap.size))/\wc=w2.setCell ⟨β,5,none⟩ v')
  case first=>
   have HNB:Hd ((Value.slice a2 B.ls.length k2).ownBlock≠some we.heap.size):=fun e=>by
    have:=HGb.o _ e
    omega
   have HFB:Hd (∀ W w2:World,Below we.heap.size we W->W.grownBy w2 (Value.slice a2 B.ls.length k2).ownBlock->Box w2 β #[.int .i64 B.now,.int .i64 B.tick,.int .i64 B.given,.slice a0 B.os.length k0,.slice a1 B.gs.length k1,.slice a2 B.ls.length k2,.slice a3 B.ps.length k3]):=fun W w2 hW hg=>by
    have hlt:=FAe.o.lt;refine (FAe.o.on hW).of_block (hg.block β (by have:=hW.size;omega) fun e=>?_);have:=HGb.o β e.symm
    omega
   go_region_law (first
    | (go_simp;go_at_call 135
       refine (Zjf l0 p we.heap.size _ B.ls ⟨t,r,mo,fv⟩ _ (Below.ownsB HRo.o ((Zac _ _).drew)) hple (by omega) (by simp;omega) HNB.o (heap_alloc_new we _)).mono ?_;rintro e w2 ⟨v2,rfl,ho2,hb2,hg2,ha2⟩;obtain⟨a9,c9,rfl⟩:=ZdI ho2;have HO2:=Zab ho2;have HG2:=Zab hg2;have HA2:=Zab ha2;have HF2:=Zab (HFB.o _ _ ((Zac _ _).drew) hg2);have x52:=HF2.o.cell 5;have f52:=HF2.o.free 5;simp at x52;clear ho2 hb2 hg2 ha2;dsimp only))
   all_goals go_wp2
   all_goals go_meet
   all_goals exact⟨w2,.slice a9 (B.ls.length+1) c9,HO2.o,⟨_,(Zac _ _).drew,HG2.o,HA2.o⟩,rfl⟩
  case rest=>
   obtain⟨w2,v',ho2,⟨W,hbW,hgW,haW⟩,rfl⟩:=hcut
   have HTW:Hd (Zad l0 l1 W w2):=by
    refine⟨hgW.os,hgW.tape,hgW.output,hgW.size,fun k hk ho=>hgW.block k hk fun e=>?_⟩;have h1:=HGb.o k e.symm;have h2:=(Zbj HRo.o e.symm).2.1
    omega
   have hsW:=hbW.size;have hs2:=hgW.size;have FW:=Zab ((FAe.o.on hbW).touch HTW.o (by omega));have HO2:=Zab ho2
   have hgl:∀ g',v'.ownBlock=some g'->(l0<=g'/\g' < l1)\/g'=W.heap.size:=fun g' hg'=>by
    rcases haW with h | h
    . rw [hg'] at h
      exact Or.inl ⟨(Zbj HRo.o h.symm).2.1,HGb.o g' h.symm⟩
    . rw [hg'] at h
      exact Or.inr (Option.some.inj h)
   have HBW:=Zab hbW
   rcases ho2.2 with ⟨_,h0⟩ | ⟨g',c9,cur,hv',-⟩
   . omega
   subst hv';have hg':=hgl g' rfl;have hlw:=FAe.o.lt;clear hgl haW hgW hbW ho2 x5 x5' p0;go_wp2;go_ret;rw [HB0.o];have hil:(Zhz B.ls ⟨t,r,mo,fv⟩ p).length=B.ls.length+1:=ZlR hple;obtain⟨⟨y1,y2⟩,⟨y3,y4⟩,⟨y5,y6⟩,⟨y7,y8⟩,yog,yol,yop,ygl,ygp,ylp⟩:=HAP.o;have htc:Zad β (β+1) w2 (w2.setCell ⟨β,5,none⟩ (.slice (some ⟨g',0,none⟩) (B.ls.length+1) c9)):=Zad.setB _ _ _ _;have hrw:=HO2.o;have hgw2:g' < w2.heap.size:=(Zbj hrw (g:=g') rfl).1
   refine⟨rfl,((Zad.below (bt HBe.o HBW.o)).trans (HTW.o.wide (by omega) (by omega))).trans (htc.wide (by omega) Zl_),some ⟨g',0,none⟩,c9,?_,?_⟩
   . simp only [hil]
     exact FW.o.set (k:=5) _ (by simp)
   . simp only [hil]
     refine⟨o0,o1,g0,g1,g',g'+1,q0,q1,⟨⟨y1,by simp [World.setCell];omega⟩,⟨y3,by simp [World.setCell];omega⟩,⟨by omega,by simp [World.setCell];omega⟩,⟨y7,by simp [World.setCell];omega⟩,yog,by omega,yop,by omega,ygp,by omega⟩,((HOo.o.below HBW.o).touch HTW.o (by omega)).touch htc (by omega),((HGo.o.below HBW.o).touch HTW.o (by omega)).touch htc (by omega),?_,((HPo.o.below HBW.o).touch HTW.o (by omega)).touch htc (by omega)⟩;refine ZaJ.touch (lo':=β) (hi':=β+1) ?_ htc (by omega);have:=ZqP (L:=Zhz B.ls ⟨t,r,mo,fv⟩ p) (by rw [hil];exact hrw) (ZiI HZo.o ⟨HSD.o.1,HSD.o.2⟩ p);rw [hil] at this;exact this
end
theorem Zhw (Ss:List Sh) (Ts:List Tm) (B:Bk) (t r:Zy_) (mo:Int):(ZaT Ss Ts B t r mo).1.now=B.now/\(ZaT Ss Ts B t r mo).1.tick=B.tick/\(ZaT Ss Ts B t r mo).1.given=B.given/\(ZaT Ss Ts B t r mo).1.os=B.os/\(ZaT Ss Ts B t r mo).1.gs=B.gs/\(ZaT Ss Ts B t r mo).1.ps=B.ps:=by
 unfold ZaT
 repeat' split
 all_goals exact⟨rfl,rfl,rfl,rfl,rfl,rfl⟩
theorem ZmN (Ss:List Sh) (Ts:List Tm) (B:Bk) (t r:Zy_) (mo:Int) (hr:Zdn Zce B.ls=true):(ZaT Ss Ts B t r mo).1.ls.length<=B.ls.length+1:=by
 unfold ZaT
 repeat' split
 all_goals first
  | exact Nat.le_succ _
  | (rw [Zcs];exact Nat.le_succ _)
  | (rw [ZlR (ZgY hr t r).le];exact Nat.le_refl _)
def Zdk (Ss:List Sh) (Ms:List Md) (Ts:List Tm) (B:Bk) (FF:Nat->List Zy_) (t r:Zy_) (mo:Int):Bk×Int:=
 if ZcW Ss Ms Ts B FF=true then ZaT Ss Ts B t r mo else (Zfn,1)
theorem Zg3 {Ss:List Sh}{Ms:List Md}{Ts:List Tm}{B:Bk}{FF:Nat->List Zy_} (t r:Zy_) (mo:Int) (h:ZcW Ss Ms Ts B FF=false):Zdk Ss Ms Ts B FF t r mo=(Zfn,1):=by
 unfold Zdk;rw [h];rfl
theorem ZfK {Ss:List Sh}{Ms:List Md}{Ts:List Tm}{B:Bk}{FF:Nat->List Zy_} (t r:Zy_) (mo:Int) (h:ZcW Ss Ms Ts B FF=true):Zdk Ss Ms Ts B FF t r mo=ZaT Ss Ts B t r mo:=by
 unfold Zdk;rw [if_pos h]
theorem ZjN {Ss:List Sh}{Ms:List Md}{Ts:List Tm}{B:Bk}{FF:Nat->List Zy_} (t r:Zy_) (mo:Int) (hn:ZaE B):ZaE (Zdk Ss Ms Ts B FF t r mo).1:=by
 cases hb:ZcW Ss Ms Ts B FF with
 | false=>rw [Zg3 t r mo hb];exact ZkS
 | true=>
  rw [ZfK t r mo hb];have h10:=(ZfF hb).1;have hl:=ZmN Ss Ts B t r mo (Zg9 hb).rl;obtain⟨e1,e2,e3,e4,e5,e6⟩:=Zhw Ss Ts B t r mo;obtain⟨h1,h2,h3,h4⟩:=hn;unfold ZaE;rw [e4,e5,e6];exact⟨h1,h2,⟨by omega,fun i h=>rfl⟩,h4⟩
section
variable (sv mv tv ov gv lv pv:Value) (Ss:List Sh) (Ms:List Md) (Ts:List Tm) (B:Bk) (FF:Nat->List Zy_) (t r:Zy_) (mo:Int) (w:World)
theorem Zlm (δ:Nat) (hl:ZbC 0 w sv mv tv Ss Ms Ts) (h:ZaY 0 w ov gv lv pv B) (hn:ZaE B) (hsh:Zb1 Ss Ms B.os FF) (ht:t.size<=maxLen) (hr:r.size<=maxLen)
 (h0:Box w δ #[sv,mv,tv]) (h2:Box w (δ+2) #[.string t]) (h3:Box w (δ+3) #[.string r]) (h4:Box w (δ+4) #[.int .i64 mo]) :
 Calls prog 48 #[.agg #[sv,mv,tv],.agg #[.int .i64 B.now,.int .i64 B.tick,.int .i64 B.given,ov,gv,lv,pv],.func (.func 74) #[] #[.pointer (some ⟨δ,0,none⟩),.pointer (some ⟨δ+2,0,none⟩),.pointer (some ⟨δ+3,0,none⟩),.pointer (some ⟨δ+4,0,none⟩)]] w fun e w'=>Zd2 w e w' (Zdk Ss Ms Ts B FF t r mo).1 (Zdk Ss Ms Ts B FF t r mo).2:=by
 cases hb:ZcW Ss Ms Ts B FF with
 | false=>
  rw [Zg3 t r mo hb];exact (Zkm sv mv tv ov gv lv pv Ss Ms Ts B FF w hl h hn hsh hb _).mono fun e w' h=>Zd2.no h
 | true=>
  rw [ZfK t r mo hb];refine Zhe sv mv tv ov gv lv pv Ss Ms Ts B FF w hl h hn hsh hb _ _ _ _ _ _ fun Wx lo β b0 b1 b2 b3 m0 m1 m2 m3 hbw hlo hlb hsz hX hO=>?_
  have hcall:=ZqT lo β sv mv tv Ss Ms Ts B b0 b1 b2 b3 m0 m1 m2 m3 t r mo Wx (hl.below hbw) hX hO hn.1 (Zg9 hb) (ZfF hb) hlb ht hr;have HC:=Zab hcall;have c0:=(h0.on hbw).cell 0;have c1:=(h0.on hbw).cell 1;have c2:=(h0.on hbw).cell 2;have c3:=(h2.on hbw).cell 0;have c4:=(h3.on hbw).cell 0;have c5:=(h4.on hbw).cell 0;simp at c0 c1 c2 c3 c4 c5;have HDS:=Zab (Zhw Ss Ts B t r mo);clear hcall hX hO hl h hn hsh h0 h2 h3 h4 hb;generalize hDP:ZaT Ss Ts B t r mo=DP at HC HDS |-;clear hDP;go_enter func74,ntmps74;go_wp2_with fail;refine HC.o.mono ?_;rintro e w4 ⟨rfl,hpost⟩;have HPO:=Zab hpost;clear hpost c0 c1 c2 c3 c4 c5;go_wp2;go_ret;obtain⟨htc,a9,c9,hx,ho⟩:=HPO.o;obtain⟨e1,e2,e3,e4,e5,e6⟩:=HDS.o;refine⟨rfl,htc,b0,m0,b1,m1,a9,c9,b3,m3,?_,?_⟩
  . rw [e1,e2,e3,e4,e5,e6];exact hx
  . rw [e4,e5,e6];exact ho
theorem Zfk (hl:ZbC 0 w sv mv tv Ss Ms Ts) (h:ZaY 0 w ov gv lv pv B) (hn:ZaE B) (hsh:Zb1 Ss Ms B.os FF) (ht:t.size<=maxLen) (hr:r.size<=maxLen) :
 Calls prog 21 #[.agg #[sv,mv,tv],.agg #[.int .i64 B.now,.int .i64 B.tick,.int .i64 B.given,ov,gv,lv,pv],.string t,.string r,.int .i64 mo] w fun e w'=>Zd2 w e w' (Zdk Ss Ms Ts B FF t r mo).1 (Zdk Ss Ms Ts B FF t r mo).2:=by
 have HL:=Zab hl;have HK:=Zab h;have HN:=Zab hn;have HSH:=Zab hsh;have HSZ:=Zab (And.intro ht hr);obtain⟨sa,sc,rfl⟩:=hl.shs.form;obtain⟨ma,mc,rfl⟩:=hl.mds.form;obtain⟨ta,tc,rfl⟩:=hl.tms.form;obtain⟨a0,k0,rfl⟩:=h.obs.form;obtain⟨a1,k1,rfl⟩:=h.grs.form;obtain⟨a2,k2,rfl⟩:=h.les.form;obtain⟨a3,k3,rfl⟩:=h.pus.form;clear hl h hn hsh ht hr;obtain⟨Bq,c,hA⟩:∃ (Bq:Bk) (c:Int),Zdk Ss Ms Ts B FF t r mo=(Bq,c):=⟨_,_,rfl⟩
 have HA:=Zab hA;rw [hA];clear hA;go_enter func21,ntmps21;go_wp2_with fail;generalize hWa:World.alloc (World.alloc (World.alloc (World.alloc (World.alloc (w.alloc _) _) _) _) _) _=Wa;have HBa:Hd (Zw_ w Wa):=by rw [<- hWa];exact (((((Zac w _).alloc (by simp) _).alloc (by simp;omega) _).alloc (by simp;omega) _).alloc (by simp;omega) _).alloc (by simp;omega) _
 have hsa:Wa.heap.size=w.heap.size+6:=by rw [<- hWa];simp
 have F0:Hd (Box Wa w.heap.size #[.slice sa Ss.length sc,.slice ma Ms.length mc,.slice ta Ts.length tc]):=by rw [<- hWa];exact (((((Box.new _ _ _ _ rfl).on (Zac _ _)).on (Zac _ _)).on (Zac _ _)).on (Zac _ _)).on (Zac _ _)
 have F2:Hd (Box Wa (w.heap.size+2) #[.string t]):=by rw [<- hWa];exact (((Box.new _ _ _ _ (by simp)).on (Zac _ _)).on (Zac _ _)).on (Zac _ _)
 have F3:Hd (Box Wa (w.heap.size+3) #[.string r]):=by rw [<- hWa];exact ((Box.new _ _ _ _ (by simp)).on (Zac _ _)).on (Zac _ _)
 have F4:Hd (Box Wa (w.heap.size+4) #[.int .i64 mo]):=by rw [<- hWa];exact (Box.new _ _ _ _ (by simp)).on (Zac _ _)
 have FC:Hd (Box Wa (w.heap.size+5) #[.int .i64 0,.int .i64 0,.int .i64 0,.slice none 0 0,.slice none 0 0,.slice none 0 0,.slice none 0 0]):=by rw [<- hWa];exact Box.new _ _ _ _ (by simp)
 clear hWa;refine (Zlm _ _ _ _ _ _ _ Ss Ms Ts B FF t r mo _ w.heap.size (HL.o.below HBa.o) (HK.o.below HBa.o) HN.o HSH.o HSZ.o.1 HSZ.o.2 F0.o F2.o F3.o F4.o).mono ?_;intro e w1 hans;rw [HA.o] at hans;obtain⟨b0,m0,b1,m1,b2,m2,b3,m3,rfl,hb1,ho⟩:=hans;have HO:=Zab ho;clear ho;have HB1:Hd (Zw_ w w1):=bt HBa.o hb1;have hs1:=hb1.size;replace FC:=Zab (FC.o.on hb1);clear hb1 HBa;have r0:=FC.o.cell;have g0:=FC.o.free;go_wp2;refine bodyPost_ret (v:=.tuple #[.agg #[.int .i64 Bq.now,.int .i64 Bq.tick,.int .i64 Bq.given,.slice b0 Bq.os.length m0,.slice b1 Bq.gs.length m1,.slice b2 Bq.ls.length m2,.slice b3 Bq.ps.length m3],.int .i64 c]) (by simp [results,results21,go_sem,r0]) rfl ⟨_,_,_,_,_,_,_,_,rfl,?_,?_⟩
 . repeat (refine Below.setCell ?_ (by dsimp;omega) _)
   exact HB1.o
 . refine Zax.wide (lo:=Wa.heap.size) (hi:=w1.heap.size) ?_ (by omega) (by simp [World.setCell])
   iterate 7 (refine Zax.setLow ?_ (by dsimp;omega) _)
   exact HO.o
end
theorem Ziz (s:Zy_) (w:World) (hs:s.size<=maxLen):Calls prog 37 #[.string s] w fun e w'=>e=.returned (.bool (Zan s))/\w=w':=(Zaf s w hs).mono fun _ _ h=>⟨h.1,h.2.symm⟩
theorem inG (n lo hi:Int) (w:World):Calls prog 38 #[.int .i64 n,.int .i64 lo,.int .i64 hi] w fun e w'=>e=.returned (.bool (inB lo hi n))/\w=w':=(Zar n lo hi w).mono fun _ _ h=>⟨h.1,h.2.symm⟩
theorem Zs3 (lo:Nat) (v:Value) (Ts:List Tm) (s:Zy_) (w:World) (hv:Zbn lo w v Ts):Calls prog 71 #[v,.string s] w fun e w'=>e=.returned (.bool (Zec Ts s))/\w=w':=(Za9 lo v Ts s w hv).mono fun _ _ h=>⟨h.1,h.2.symm⟩
theorem Ztg (a b c d:Zy_) (w:World):Calls prog 73 #[.string a,.string b,.string c,.string d] w fun e w'=>e=.returned (.int .i64 (Zd0 a b c d))/\Zw_ w w':=(ZcO a b c d w).mono fun _ _ h=>⟨h.1,by rw [h.2];exact Below.refl _ _⟩
theorem Zei (X:World) (g:Nat) (a b c d:Value) (t:TypeId) (hg:X.heap.size=g):∀ j x,[a,b,c,d][j]?=some x->(X.alloc (.cells #[a,b,c,d] t)).cell? ((⟨g,0,none⟩:Addr).add j)=some x:=by
 intro j x hx;subst hg;rw [Go.WideShapes.add_plain,Nat.zero_add,ZbH _ _ _ _ _ rfl]
 simpa using hx
theorem ZgV (p:Le):∀ u ∈ [Value.string p.tm,.string p.re,.int .i64 p.mo,.int .i64 p.fr],u.oneCell'=true:=by
 intro u hu;simp only [List.mem_cons,List.not_mem_nil,or_false] at hu
 rcases hu with rfl | rfl | rfl | rfl <;> rfl
theorem ZsG (h:ZaJ l0 l1 W (.slice (some ⟨b,off,none⟩) Ls.length cap) Ls) (hp:0 < Ls.length):l0<=b/\b < l1:=by
 rcases h with ⟨_,_,_,h⟩ | ⟨b',off',cap',c,X,h1,h2,h3,h4,h5,h6⟩
 . rw [h] at hp;simp at hp
 . injection h1 with e1 _ e3
   injection e1 with e1
   injection e1 with e1 e2
   subst e1;exact⟨h6.low,h6.bh⟩
def Zbs (Ls:List Le) (x:Le) (p k:Nat):List Le:=if k<=p then Ls.take k else Ls.take p ++ x :: (Ls.take k).drop p
theorem ZoU (h:k < p) (hk:k < Ls.length):Zbs Ls x p (k+1)=Zbs Ls x p k ++ [Ls[k]]:=by
 unfold Zbs;rw [if_pos (by omega),if_pos (by omega),List.take_succ_eq_append_getElem hk]
theorem Zm6 (h:p < k) (hk:k < Ls.length):Zbs Ls x p (k+1)=Zbs Ls x p k ++ [Ls[k]]:=by
 unfold Zbs;rw [if_neg (by omega),if_neg (by omega),List.take_succ_eq_append_getElem hk,List.drop_append_of_le_length (by rw [List.length_take];omega)];simp
theorem Zql (hk:p < Ls.length):Zbs Ls x p (p+1)=Zbs Ls x p p ++ [x] ++ [Ls[p]]:=by
 unfold Zbs;rw [if_neg (by omega),if_pos Zl_,List.take_succ_eq_append_getElem hk,List.drop_append,List.drop_of_length_le (by rw [List.length_take];omega),List.length_take,Nat.min_eq_left (by omega),Nat.sub_self];simp
theorem Zkn (h:p < Ls.length):Zbs Ls x p Ls.length=Zhz Ls x p:=by
 unfold Zbs Zhz;rw [if_neg (by omega),List.take_of_length_le Zl_]
theorem Zio (h:p=Ls.length):Zbs Ls x p Ls.length ++ [x]=Zhz Ls x p:=by
 unfold Zbs Zhz;subst h;rw [if_pos Zl_,List.drop_of_length_le Zl_]
theorem Zpr (Ls:List Le) (x:Le) (p k:Nat) (hk:k<=Ls.length):(Zbs Ls x p k).length<=k+1:=by
 unfold Zbs
 split
 . rw [List.length_take];omega
 . simp only [List.length_append,List.length_take,List.length_cons,List.length_drop]
   omega
structure Zjs (w wr:World) (v:Value) (F:List Le):Prop where
 bel:Zw_ w wr
 own:wr.ownsRow w.heap.size 92 4 v F.length (Zbv F)
theorem Zjs.below {w:World} (h:Zjs w wr v F) (hb:Below wr.heap.size wr wr'):Zjs w wr' v F:=⟨bt h.bel hb,Below.ownsB h.own hb⟩
theorem Zjs.grown {w:World}{v':Value} (h:Zjs w wr v F) (hb:Below w.heap.size wr wr') (y:Le) (ho:wr'.ownsRow w.heap.size 92 4 v' (F.length+1) (Zbv F ++ [.string y.tm,.string y.re,.int .i64 y.mo,.int .i64 y.fr])):Zjs w wr' v' (F ++ [y]):=
 ⟨h.bel.trans hb,by rw [ZgD,List.length_append];exact ho⟩
theorem Ztb {t r:Zy_} (h:Ls.any (ZbV t r)=false) {k:Nat} (hk:k < Ls.length):Zd0 Ls[k].tm Ls[k].re t r≠0:=fun e=>by
 obtain⟨e1,e2⟩:=Zdf.1 e;rw [List.any_eq_false] at h;refine h _ (List.getElem_mem hk) ?_;unfold ZbV;rw [e1,e2];simp
section
variable (sv mv tv ov gv lv pv:Value) (Ss:List Sh) (Ms:List Md) (Ts:List Tm) (B:Bk) (FF:Nat->List Zy_) (t r:Zy_) (mo:Int) (w:World)
theorem Zi4 (hl:ZbC 0 w sv mv tv Ss Ms Ts) (h:ZaY 0 w ov gv lv pv B) (hn:ZaE B) (hsh:Zb1 Ss Ms B.os FF) (ht:t.size<=maxLen) (hr:r.size<=maxLen) :
 Calls prog 20 #[.agg #[sv,mv,tv],.agg #[.int .i64 B.now,.int .i64 B.tick,.int .i64 B.given,ov,gv,lv,pv],.string t,.string r,.int .i64 mo] w fun e w'=>Zd2 w e w' (Zdk Ss Ms Ts B FF t r mo).1 (Zdk Ss Ms Ts B FF t r mo).2:=by
 obtain⟨i0,hi,hz0,hz1,hz2⟩:=info_parts Tryz.info92;have HI:=Zab (And.intro hi (And.intro hz0 (And.intro hz1 hz2)));clear hi hz0 hz1 hz2;have HL:=Zab hl;have HK:=Zab h;have HN:=Zab hn;have HSH:=Zab hsh;have HSD:=Zab (And.intro ht hr);obtain⟨sa,sc,rfl⟩:=hl.shs.form;obtain⟨ma,mc,rfl⟩:=hl.mds.form;obtain⟨ta,tc,rfl⟩:=hl.tms.form;obtain⟨a0,k0,rfl⟩:=h.obs.form;obtain⟨a1,k1,rfl⟩:=h.grs.form;obtain⟨a2,k2,rfl⟩:=h.les.form;obtain⟨a3,k3,rfl⟩:=h.pus.form;clear hl h hn hsh ht hr;go_enter func20,ntmps20;go_wp2_with fail;generalize hWa:World.alloc (World.alloc (w.alloc _) _) _=Wa;have HBa:Hd (Zw_ w Wa):=by rw [<- hWa];exact ((Zac w _).alloc (by simp) _).alloc (by simp;omega) _
 have FL:Hd (Box Wa w.heap.size #[.slice sa Ss.length sc,.slice ma Ms.length mc,.slice ta Ts.length tc]):=by rw [<- hWa];exact ((Box.new _ _ _ _ rfl).on (Zac _ _)).on (Zac _ _)
 have FB:Hd (Box Wa (w.heap.size+1) #[.int .i64 B.now,.int .i64 B.tick,.int .i64 B.given,.slice a0 B.os.length k0,.slice a1 B.gs.length k1,.slice a2 B.ls.length k2,.slice a3 B.ps.length k3]):=by rw [<- hWa];exact (Box.new _ _ _ _ (by simp)).on (Zac _ _)
 have FR:Hd (Box Wa (w.heap.size+2) #[.int .i64 0,.int .i64 0,.int .i64 0,.slice none 0 0,.slice none 0 0,.slice none 0 0,.slice none 0 0]):=by rw [<- hWa];exact Box.new _ _ _ _ (by simp)
 clear hWa;refine (ZjV 0 _ _ _ _ _ _ _ Ss Ms Ts B FF _ (HL.o.below HBa.o) (HK.o.below HBa.o) HN.o HSH.o).mono ?_;rintro e w1 ⟨rfl,hb1⟩;have HB1:Hd (Zw_ w w1):=bt HBa.o hb1;replace FL:=Zab (FL.o.on hb1);replace FB:=Zab (FB.o.on hb1);replace FR:=Zab (FR.o.on hb1);clear hb1 HBa
 cases hbk:ZcW Ss Ms Ts B FF with
 | false=>
  have HE:Hd (Zdk Ss Ms Ts B FF t r mo=(Zfn,1)):=Zg3 t r mo hbk;have r0:=FR.o.cell;have g0:=FR.o.free;go_wp2;refine bodyPost_ret (v:=.tuple #[.agg #[.int .i64 0,.int .i64 0,.int .i64 0,.slice none 0 0,.slice none 0 0,.slice none 0 0,.slice none 0 0],.int .i64 1]) (by simp [results,results20,go_sem,r0]) rfl ?_;rw [HE.o];refine Zd2.no ⟨rfl,?_⟩
  repeat (refine Below.setCell ?_ (by dsimp;omega) _)
  exact HB1.o
 | true=>
 have HDA:Hd (Zdk Ss Ms Ts B FF t r mo=ZaT Ss Ts B t r mo):=ZfK t r mo hbk;have hx:=FB.o.cell;go_wp2_with fail;clear hx;refine (Zmp 0 _ _ _ _ B _ (HK.o.below HB1.o) HN.o).mono ?_;rintro e w2 ⟨b0,m0,b1,m1,b2,m2,b3,m3,rfl,hb2,ho2⟩;have HB2:Hd (Zw_ w w2):=bt HB1.o hb2;have HO2:=Zab ho2;have hs1:=FR.o.lt;have hs2:=hb2.size;replace FL:=Zab (FL.o.on hb2);replace FB:=Zab (FB.o.on hb2);replace FR:=Zab (FR.o.on hb2);clear hb2 ho2 HB1;have h10:=(ZfF hbk).1;have HMO:=Zab (ZfF hbk).2;have HOK:=Zab (Zg9 hbk);clear hbk;have hx2:=FL.o.cell 2;simp at hx2;have hlx:=FL.o.lt;have hx1:∀ o,(w2.alloc o).cell? ⟨w.heap.size,2,none⟩=_:=fun o=>(Zak _ _ _ _ hlx).trans hx2
 go_wp2_with fail;clear hx1 hlx hx2;generalize hWb:w2.alloc _=Wb;have hbb:Below w2.heap.size w2 Wb:=by rw [<- hWb];exact Zac _ _
 have FX:Hd (Box Wb w2.heap.size #[.int .i64 B.now,.int .i64 B.tick,.int .i64 B.given,.slice b0 B.os.length m0,.slice b1 B.gs.length m1,.slice b2 B.ls.length m2,.slice b3 B.ps.length m3]):=by rw [<- hWb];exact Box.new _ _ _ _ rfl
 have hsb:Wb.heap.size=w2.heap.size+1:=by rw [<- hWb];simp
 have HBb:Hd (Zw_ w Wb):=bt HB2.o hbb;have HOb:=Zab (HO2.o.below hbb);replace FL:=Zab (FL.o.on hbb);replace FR:=Zab (FR.o.on hbb);replace FB:=Zab (FB.o.on hbb);clear hWb hbb HO2 HB2;refine (Zs3 0 _ Ts t _ (HL.o.below HBb.o).tms).mono ?_;rintro e w3 ⟨rfl,rfl⟩
 have HNO:Hd (∀ (W:World) (c:Int),Zw_ w W->Zax w1.heap.size w2.heap.size W (.slice b0 B.os.length m0) (.slice b1 B.gs.length m1) (.slice b2 B.ls.length m2) (.slice b3 B.ps.length m3) B->w2.heap.size<=W.heap.size->∀ u0 u1 u2 u3 u4 u5 u6:Value,Zd2 w (.returned (.tuple #[.agg #[.int .i64 B.now,.int .i64 B.tick,.int .i64 B.given,.slice b0 B.os.length m0,.slice b1 B.gs.length m1,.slice b2 B.ls.length m2,.slice b3 B.ps.length m3],.int .i64 c])) (((((((W.setCell ⟨w.heap.size+2,0,none⟩ u0).setCell ⟨w.heap.size+2,1,none⟩ u1).setCell ⟨w.heap.size+2,2,none⟩ u2).setCell ⟨w.heap.size+2,3,none⟩ u3).setCell ⟨w.heap.size+2,4,none⟩ u4).setCell ⟨w.heap.size+2,5,none⟩ u5).setCell ⟨w.heap.size+2,6,none⟩ u6) B c):=fun W c hW hO hz u0 u1 u2 u3 u4 u5 u6=>by
  refine⟨_,_,_,_,_,_,_,_,rfl,?_,?_⟩
  . repeat (refine Below.setCell ?_ (by dsimp;omega) _)
    exact hW
  . refine Zax.wide (lo:=w1.heap.size) (hi:=w2.heap.size) ?_ (by omega) (by simp [World.setCell];omega)
    iterate 7 (refine Zax.setLow ?_ (by dsimp;omega) _)
    exact hO
 by_cases hask:Zcw Ts t r mo=true
 case neg=>
  have HDP:Hd (ZaT Ss Ts B t r mo=(B,2)):=by unfold Hd ZaT;rw [if_neg hask]
  have x0:=FX.o.cell;have r0:=FR.o.cell;have g0:=FR.o.free;unfold Zcw at hask
  cases h1:Zec Ts t with
  | false=>
   go_wp2_with (first|(go_at_call 37;refine (Ziz _ _ HSD.o.2).mono ?_;rintro e w' ⟨rfl,rfl⟩)|(go_at_call 38;refine (inG _ _ _ _).mono ?_;rintro e w' ⟨rfl,rfl⟩));refine bodyPost_ret (v:=.tuple #[.agg #[.int .i64 B.now,.int .i64 B.tick,.int .i64 B.given,.slice b0 B.os.length m0,.slice b1 B.gs.length m1,.slice b2 B.ls.length m2,.slice b3 B.ps.length m3],.int .i64 2]) (by simp [results,results20,go_sem,r0]) rfl ?_;rw [HDA.o,HDP.o];exact HNO.o _ 2 HBb.o HOb.o (by omega) _ _ _ _ _ _ _
  | true=>
   cases h2:Zan r with
   | false=>
    go_wp2_with (first|(go_at_call 37;refine (Ziz _ _ HSD.o.2).mono ?_;rintro e w' ⟨rfl,rfl⟩)|(go_at_call 38;refine (inG _ _ _ _).mono ?_;rintro e w' ⟨rfl,rfl⟩));refine bodyPost_ret (v:=.tuple #[.agg #[.int .i64 B.now,.int .i64 B.tick,.int .i64 B.given,.slice b0 B.os.length m0,.slice b1 B.gs.length m1,.slice b2 B.ls.length m2,.slice b3 B.ps.length m3],.int .i64 2]) (by simp [results,results20,go_sem,r0]) rfl ?_;rw [HDA.o,HDP.o];exact HNO.o _ 2 HBb.o HOb.o (by omega) _ _ _ _ _ _ _
   | true=>
    have h3:inB 0 1000000 mo=false:=by
     rw [h1,h2] at hask
     simpa using hask
    go_wp2_with (first|(go_at_call 37;refine (Ziz _ _ HSD.o.2).mono ?_;rintro e w' ⟨rfl,rfl⟩)|(go_at_call 38;refine (inG _ _ _ _).mono ?_;rintro e w' ⟨rfl,rfl⟩));refine bodyPost_ret (v:=.tuple #[.agg #[.int .i64 B.now,.int .i64 B.tick,.int .i64 B.given,.slice b0 B.os.length m0,.slice b1 B.gs.length m1,.slice b2 B.ls.length m2,.slice b3 B.ps.length m3],.int .i64 2]) (by simp [results,results20,go_sem,r0]) rfl ?_;rw [HDA.o,HDP.o];exact HNO.o _ 2 HBb.o HOb.o (by omega) _ _ _ _ _ _ _
 have hhas:Zec Ts t=true:=by unfold Zcw at hask;simp only [Bool.and_eq_true] at hask;exact hask.1.1
 have hnm:Zan r=true:=by unfold Zcw at hask;simp only [Bool.and_eq_true] at hask;exact hask.1.2
 have hin:inB 0 1000000 mo=true:=by unfold Zcw at hask;simp only [Bool.and_eq_true] at hask;exact hask.2
 have hmo:0<=mo/\mo<=1000000:=by have:=hin;rw [ZdF] at this;simpa using this
 have HAK:=Zab hask;clear hask;have xb0:=FB.o.cell;go_wp2_with (first|(go_at_call 37;refine (Ziz _ _ HSD.o.2).mono ?_;rintro e w' ⟨rfl,rfl⟩)|(go_at_call 38;refine (inG _ _ _ _).mono ?_;rintro e w' ⟨rfl,rfl⟩));clear xb0 hhas hnm hin;refine (ZaW 0 _ _ _ _ B _ _ _ (HK.o.below HBb.o)).mono ?_;rintro e w4 ⟨rfl,hb4⟩;have HB4:Hd (Zw_ w w4):=bt HBb.o hb4;have HO4:=Zab (HOb.o.below hb4);have hs4:=hb4.size;replace FL:=Zab (FL.o.on hb4);replace FX:=Zab (FX.o.on hb4);replace FR:=Zab (FR.o.on hb4);replace FB:=Zab (FB.o.on hb4);clear hb4 HOb HBb
 cases hany:B.ls.any (ZbV t r) with
 | true=>
  obtain⟨p,hpl,hkp⟩:=Zpa hany
  have HBP:Hd (ZaT Ss Ts B t r mo=if B.ls[p].fr+mo - B.ls[p].mo < 0 then (B,3) else (⟨B.now,B.tick,B.given,B.os,B.gs,Zf4 B.ls p mo (B.ls[p].fr+mo - B.ls[p].mo),B.ps⟩,0)):=by
   unfold Hd ZaT;rw [if_pos HAK.o,if_pos hany,hkp,Int.toNat_natCast,List.getElem?_eq_getElem hpl]
  rw [hkp];clear hkp hany;have hgp:(0:Int)<=(p:Int):=by omega
  obtain⟨lb,lf,hla,hlw,-,hlc⟩:=HK.o.les.full' (by omega);subst hla;obtain⟨_,hcl⟩:=hlc p hpl;have c2:=(hcl.below HB4.o hlw).c2;have c3:=(hcl.below HB4.o hlw).c3;have hfp:=HMO.o p hpl;have x5:=FB.o.cell 5;simp at x5;have hw1:IntKind.wrap .i64 (B.ls[p].fr+mo)=B.ls[p].fr+mo:=by rw [IntKind.wrap_i64];omega
  have hw2:IntKind.wrap .i64 (B.ls[p].fr+mo - B.ls[p].mo)=B.ls[p].fr+mo - B.ls[p].mo:=by rw [IntKind.wrap_i64];omega
  clear hlc hcl;go_wp2
  go_quiet (fail)
  have hbn:Below w4.heap.size w4 (w4.drewN nq):=below_drewN Zb_ nq;have HB5:Hd (Zw_ w (w4.drewN nq)):=bt HB4.o hbn;have HO5:=Zab (HO4.o.below hbn);have hs5:=hbn.size;replace FX:=Zab (FX.o.on hbn);replace FR:=Zab (FR.o.on hbn);clear hbn c2 c3 x5 FL FB HO4 HB4 hlw;generalize w4.drewN nq=w5 at*;have r0:=FR.o.cell;have g0:=FR.o.free
  by_cases hng:B.ls[p].fr+mo - B.ls[p].mo < 0
  . have HB3:Hd (ZaT Ss Ts B t r mo=(B,3)):=by unfold Hd;rw [HBP.o,if_pos hng]
    have x0:=FX.o.cell;go_wp2;refine bodyPost_ret (v:=.tuple #[.agg #[.int .i64 B.now,.int .i64 B.tick,.int .i64 B.given,.slice b0 B.os.length m0,.slice b1 B.gs.length m1,.slice b2 B.ls.length m2,.slice b3 B.ps.length m3],.int .i64 3]) (by simp [results,results20,go_sem,r0]) rfl ?_;rw [HDA.o,HB3.o];exact HNO.o _ 3 HB5.o HO5.o (by omega) _ _ _ _ _ _ _
  have HB0:Hd (ZaT Ss Ts B t r mo=(⟨B.now,B.tick,B.given,B.os,B.gs,Zf4 B.ls p mo (B.ls[p].fr+mo - B.ls[p].mo),B.ps⟩,0)):=by unfold Hd;rw [HBP.o,if_neg hng]
  clear r0 g0 HBP;obtain⟨o0,o1,g0,g1,l0,l1,q0,q1,ha,hOo,hGo,hLo,hPo⟩:=HO5.o;have HAP:=Zab ha;have HOo:=Zab hOo;have HGo:=Zab hGo;have HPo:=Zab hPo;obtain⟨xb,xf,hxa⟩:=hLo.some (by omega);subst hxa;obtain⟨xb',xf',e',hxw,-,hc⟩:=hLo.at.full' (by omega);injection e' with e'
  injection e' with e1 e2
  subst e1 e2;obtain⟨_,hcl⟩:=hc p hpl;have c2:=hcl.c2;have c3:=hcl.c3;have fz:=hLo.frz (by omega);have HPT:=Zab (Zq7 hLo hpl mo (B.ls[p].fr+mo - B.ls[p].mo));have hll:=ZsG hLo (by omega);have hyl:=ha.l;clear ha hOo hGo hLo hPo hc hcl;generalize hfv:B.ls[p].fr+mo - B.ls[p].mo=fv at*;have FX1:=Zab (FX.o.setFar (p:=⟨xb,xf+p*4+2,none⟩) (by dsimp;omega) (.int .i64 mo));have FX2:=Zab (FX1.o.setFar (p:=⟨xb,xf+p*4+3,none⟩) (by dsimp;omega) (.int .i64 fv));have FR2:=Zab ((FR.o.setFar (p:=⟨xb,xf+p*4+2,none⟩) (by dsimp;omega) (.int .i64 mo)).setFar (p:=⟨xb,xf+p*4+3,none⟩) (by dsimp;omega) (.int .i64 fv));have x5:=FX.o.cell 5;have x51:=FX1.o.cell 5;simp at x5 x51;have x0:=FX2.o.cell;have r0:=FR2.o.cell;have gz:=FR2.o.free;clear FX FX1 FR;go_wp2;clear x0 x5 x51 c2 c3 fz
  refine bodyPost_ret (v:=.tuple #[.agg #[.int .i64 B.now,.int .i64 B.tick,.int .i64 B.given,.slice b0 B.os.length m0,.slice b1 B.gs.length m1,.slice (some ⟨xb,xf,none⟩) B.ls.length m2,.slice b3 B.ps.length m3],.int .i64 0]) (by simp [results,results20,go_sem,r0]) rfl ?_;obtain⟨⟨y1,y2⟩,⟨y3,y4⟩,⟨y5,y6⟩,⟨y7,y8⟩,yog,yol,yop,ygl,ygp,ylp⟩:=HAP.o;have htl:=Zcs B.ls p mo fv;rw [HDA.o,HB0.o];refine⟨b0,m0,b1,m1,some ⟨xb,xf,none⟩,m2,b3,m3,by simp only [htl],?_,?_⟩
  . repeat (refine Below.setCell ?_ (by dsimp;omega) _)
    exact HB5.o
  . refine Zax.wide (lo:=w1.heap.size) (hi:=w2.heap.size) ?_ (by omega) (by simp [World.setCell];omega)
    iterate 7 (refine Zax.setLow ?_ (by dsimp;omega) _)
    simp only [htl];exact⟨o0,o1,g0,g1,l0,l1,q0,q1,⟨⟨y1,y2⟩,⟨y3,y4⟩,⟨y5,y6⟩,⟨y7,y8⟩,yog,yol,yop,ygl,ygp,ylp⟩,HOo.o.touch HPT.o.2 (by omega),HGo.o.touch HPT.o.2 (by omega),HPT.o.1,HPo.o.touch HPT.o.2 (by omega)⟩
 | false=>
  have hneg:Zks B.ls t r < 0:=by have:=ZiU B.ls t r;rw [hany] at this;simpa using this
  have hnge:¬ (0<=Zks B.ls t r):=by omega
  have HSP:=Zab (ZgY HOK.o.rl t r);have hple:=(ZgY HOK.o.rl t r).le;have HNL:Hd (∀ k (hk:k < B.ls.length),Zd0 B.ls[k].tm B.ls[k].re t r≠0):=fun k hk=>Ztb hany hk
  have HBP:Hd (ZaT Ss Ts B t r mo=if wrap64 (mo - wrap64 (ZbF Ss Ts B.os t r)) < 0 then (B,3) else if 10<=B.ls.length then (B,4) else (⟨B.now,B.tick,B.given,B.os,B.gs,Zhz B.ls ⟨t,r,mo,wrap64 (mo - wrap64 (ZbF Ss Ts B.os t r))⟩ (ZoI B.ls t r),B.ps⟩,0)):=by
   unfold Hd ZaT;rw [if_pos HAK.o,hany,if_neg (by simp)]
  have hwv:IntKind.wrap .i64 (mo - wrap64 (ZbF Ss Ts B.os t r))=wrap64 (mo - wrap64 (ZbF Ss Ts B.os t r)):=by unfold wrap64;exact IntKind.wrap_i64 _
  clear hany;have xl:=FL.o.cell;have xb0:=FB.o.cell;go_wp2_with fail;clear xl xb0;refine (Zej 0 _ _ _ _ Ss Ms Ts B.os _ _ _ t r _ (HL.o.below HB4.o) (HK.o.below HB4.o).obs HN.o.1 _ _ _ _ _ _ _ _ _).mono ?_;rintro e w5 ⟨rfl,hb5⟩;have HB5:Hd (Zw_ w w5):=bt HB4.o hb5;have HO5:=Zab (HO4.o.below hb5);have hs5:=hb5.size;replace FX:=Zab (FX.o.on hb5);replace FR:=Zab (FR.o.on hb5);replace FB:=Zab (FB.o.on hb5);clear hb5 HO4 HB4 FL hneg hnge;generalize hfv:wrap64 (mo - wrap64 (ZbF Ss Ts B.os t r))=fv at*;generalize hpp:ZoI B.ls t r=p at*;clear hpp;have x1:∀ o i,(w5.alloc o).cell? ⟨w2.heap.size,i,none⟩=(#[.int .i64 B.now,.int .i64 B.tick,.int .i64 B.given,.slice b0 B.os.length m0,.slice b1 B.gs.length m1,.slice b2 B.ls.length m2,.slice b3 B.ps.length m3]:Array Value)[i]?:=fun o=>(FX.o.on (Zac _ _)).cell
  have r0:∀ o i,(w5.alloc o).cell? ⟨w.heap.size+2,i,none⟩=_:=fun o=>(FR.o.on (Zac _ _)).cell
  have g0:∀ o i,(w5.alloc o).frozen? ⟨w.heap.size+2,i,none⟩=_:=fun o=>(FR.o.on (Zac _ _)).free
  have b5:∀ o,(w5.alloc o).cell? ⟨w.heap.size+1,5,none⟩=some (.slice a2 B.ls.length k2):=fun o=>(FB.o.on (Zac _ _)).cell 5
  by_cases hng:fv < 0
  . have HB3:Hd (ZaT Ss Ts B t r mo=(B,3)):=by unfold Hd;rw [HBP.o,if_pos hng]
    go_wp2;refine bodyPost_ret (v:=.tuple #[.agg #[.int .i64 B.now,.int .i64 B.tick,.int .i64 B.given,.slice b0 B.os.length m0,.slice b1 B.gs.length m1,.slice b2 B.ls.length m2,.slice b3 B.ps.length m3],.int .i64 3]) (by simp [results,results20,go_sem,r0]) rfl ?_;rw [HDA.o,HB3.o];exact HNO.o _ 3 (bt HB5.o (Zac _ _)) (HO5.o.below (Zac _ _)) (by simp;omega) _ _ _ _ _ _ _
  by_cases hten:10<=B.ls.length
  . have HB4:Hd (ZaT Ss Ts B t r mo=(B,4)):=by unfold Hd;rw [HBP.o,if_neg hng,if_pos hten]
    have hti:(10:Int)<=(B.ls.length:Int):=by omega
    go_wp2;refine bodyPost_ret (v:=.tuple #[.agg #[.int .i64 B.now,.int .i64 B.tick,.int .i64 B.given,.slice b0 B.os.length m0,.slice b1 B.gs.length m1,.slice b2 B.ls.length m2,.slice b3 B.ps.length m3],.int .i64 4]) (by simp [results,results20,go_sem,r0]) rfl ?_;rw [HDA.o,HB4.o];exact HNO.o _ 4 (bt HB5.o (Zac _ _)) (HO5.o.below (Zac _ _)) (by simp;omega) _ _ _ _ _ _ _
  have HB0:Hd (ZaT Ss Ts B t r mo=(⟨B.now,B.tick,B.given,B.os,B.gs,Zhz B.ls ⟨t,r,mo,fv⟩ p,B.ps⟩,0)):=by unfold Hd;rw [HBP.o,if_neg hng,if_neg hten]
  have hti:¬ ((10:Int)<=(B.ls.length:Int)):=by omega
  clear HBP HNO HMO;go_wp2;clear x1 r0 g0 b5;generalize hWg:w5.alloc _=Wg;have hbg:Below w5.heap.size w5 Wg:=by rw [<- hWg];exact Zac _ _
  have hsg:Wg.heap.size=w5.heap.size+1:=by rw [<- hWg];simp
  have FG:Hd (Box Wg w5.heap.size #[.string t,.string r,.int .i64 mo,.int .i64 fv]):=by rw [<- hWg];exact Box.new _ _ _ _ rfl
  have HBg:Hd (Zw_ w Wg):=bt HB5.o hbg;have HOg:=Zab (HO5.o.below hbg);replace FX:=Zab (FX.o.on hbg);replace FR:=Zab (FR.o.on hbg);clear hWg hbg HO5 HB5 FB;have HLg:=Zab HOg.o.at.les
  have HZL:Hd (∀ i (hi:i < B.ls.length),Zco B.ls[i]):=fun i hi=>by
   obtain⟨_,_,_,_,_,_,_,hc⟩:=HLg.o.full (fun e=>by rw [e] at hi;simp at hi);exact (hc i hi).1
  have HS0:Hd (Zjs Wg (Wg.alloc (.cells #[] 92)) (.slice (some ⟨w5.heap.size+1,0,none⟩) 0 0) []):=⟨Zac _ _,Zb0 _ _ _ 4 hsg (by omega)⟩
  go_loopw [16,17,18] (fun v b i wr=>∃ (k:Nat),i=.int .i64 k/\k<=B.ls.length/\b=.bool (decide (p < k))/\Zjs Wg wr v (Zbs B.ls (⟨t,r,mo,fv⟩:Le) p k)) (fun _ _ i _=>B.ls.length - (intOf i).toNat)
  case atStart=>exact⟨0,rfl,by omega,by simp,by simpa [Zbs] using HS0.o⟩
  case round=>
  obtain⟨k,rfl,hk,rfl,hst⟩:=hrel;have HST:=Zab hst;obtain⟨va,vcap,rfl⟩:=ZdI hst.own;have hFl:=Zpr B.ls ⟨t,r,mo,fv⟩ p k hk;have hsz:=hst.bel.size;clear hst HS0
  by_cases hlt:k < B.ls.length
  . obtain⟨rb,ro,hra,hrb,-,hrc⟩:=HLg.o.full' (by omega)
    subst hra;obtain⟨_,hcell⟩:=hrc k hlt;have HCW:=Zab hcell;clear hrc hcell
    have KP:Hd (∀ W,Below wr.heap.size wr W->((∀ i,W.cell? ⟨w2.heap.size,i,none⟩=(#[.int .i64 B.now,.int .i64 B.tick,.int .i64 B.given,.slice b0 B.os.length m0,.slice b1 B.gs.length m1,.slice (some ⟨rb,ro,none⟩) B.ls.length m2,.slice b3 B.ps.length m3]:Array Value)[i]?)/\(∀ i,W.cell? ⟨w5.heap.size,i,none⟩=(#[.string t,.string r,.int .i64 mo,.int .i64 fv]:Array Value)[i]?)/\W.cell? ⟨rb,ro+k*4,none⟩=some (.string B.ls[k].tm)/\W.cell? ⟨rb,ro+k*4+1,none⟩=some (.string B.ls[k].re)/\W.cell? ⟨rb,ro+k*4+2,none⟩=some (.int .i64 B.ls[k].mo)/\W.cell? ⟨rb,ro+k*4+3,none⟩=some (.int .i64 B.ls[k].fr))):=fun W hW=>by
     have hB:=bt HST.o.bel hW;have hq:=HCW.o.below hB hrb;exact⟨(FX.o.on hB).cell,(FG.o.on hB).cell,hq.c0,hq.c1,hq.c2,hq.c3⟩
    rcases Nat.lt_trichotomy k p with hkp | hkp | hkp
    . have hlow:Zd0 B.ls[k].tm B.ls[k].re t r < 0:=HSP.o.less k hlt hkp
      have hdn:decide (p < k)=false:=decide_eq_false (by omega);have hdn1:decide (p < k+1)=false:=decide_eq_false (by omega);have HNX:=Zab (ZoU (x:=⟨t,r,mo,fv⟩) hkp hlt);rw [hdn];obtain⟨y0,z0,d0,d1,d2,d3⟩:=KP.o _ Zb_;go_wp2;clear y0 z0 d0 d1 d2 d3
      go_region_held3 (fun W=>(∀ i,W.cell? ⟨w2.heap.size,i,none⟩=(#[.int .i64 B.now,.int .i64 B.tick,.int .i64 B.given,.slice b0 B.os.length m0,.slice b1 B.gs.length m1,.slice (some ⟨rb,ro,none⟩) B.ls.length m2,.slice b3 B.ps.length m3]:Array Value)[i]?)/\(∀ i,W.cell? ⟨w5.heap.size,i,none⟩=(#[.string t,.string r,.int .i64 mo,.int .i64 fv]:Array Value)[i]?)/\W.cell? ⟨rb,ro+k*4,none⟩=some (.string B.ls[k].tm)/\W.cell? ⟨rb,ro+k*4+1,none⟩=some (.string B.ls[k].re)/\W.cell? ⟨rb,ro+k*4+2,none⟩=some (.int .i64 B.ls[k].mo)/\W.cell? ⟨rb,ro+k*4+3,none⟩=some (.int .i64 B.ls[k].fr))
       (first
         | (with_reducible exact KP.o _ (Zb_.drew))
         | (exact KP.o _ HC1.o)
         | assumption)
       (first
         | (go_at_call 73
            refine (Ztg _ _ _ _ _).mono ?_;rintro e w6 ⟨rfl,hb6⟩;have HC1:Hd (Below wr.heap.size wr w6):=Zb_.drew.trans (hb6.mono Zl_);clear hb6))
      have HS2:=Zab (HST.o.below HC1.o);have hs6:=HC1.o.size;obtain⟨y0,z0,d0,d1,d2,d3⟩:=KP.o _ HC1.o
      change Hd (Zjs Wg w6 (.slice va (Zbs B.ls (⟨t,r,mo,fv⟩:Le) p k).length vcap) (Zbs B.ls (⟨t,r,mo,fv⟩:Le) p k)) at HS2
      generalize hcv:Zd0 B.ls[k].tm B.ls[k].re t r=cv at hlow |-;have h1:¬ (0 < cv):=by omega
      clear hcv;go_wp2_with (at_builtin;refine wpList_append_own_at _ rfl (.tmp 131) (.tmp 137) 37 rfl Wg.heap.size 92 i0 (.agg #[.string ⟨#[]⟩,.string ⟨#[]⟩,.int .i64 0,.int .i64 0]) 4 48 underlying37 HI.o.1 HI.o.2.1 HI.o.2.2.1 HI.o.2.2.2 rfl (by decide) _ (Zbs B.ls (⟨t,r,mo,fv⟩:Le) p k).length (Zbv (Zbs B.ls (⟨t,r,mo,fv⟩:Le) p k)) rfl (Below.ownsB HS2.o.own (Zac _ _)) ⟨w6.heap.size,0,none⟩ 1 1 [.string B.ls[k].tm,.string B.ls[k].re,.int .i64 B.ls[k].mo,.int .i64 B.ls[k].fr] rfl rfl (Zei _ _ _ _ _ _ _ rfl) (ZgV _) (by unfold maxLen;omega) (by omega) (by simp;omega) ?_;intro v' w7 hown7 hgrow7 hnil7 hat7);have HS4:Hd (Zjs Wg w7 v' (Zbs B.ls (⟨t,r,mo,fv⟩:Le) p k ++ [B.ls[k]])):=HS2.o.grown (((Zac w6 _).mono (by omega)).trans (ZaZ (Below.ownsB HS2.o.own (Zac _ _)) hgrow7 (by simp;omega))) B.ls[k] hown7
      clear hown7 hgrow7 hnil7 hat7 y0 z0 d0 d1 d2 d3;go_wp2;go_roundw
      . exact⟨k+1,by go_num,by omega,by rw [hdn1],by rw [HNX.o];exact HS4.o⟩
      . simp [intOf];omega
    . have hge:0<=Zd0 B.ls[k].tm B.ls[k].re t r:=HSP.o.more k hlt (by omega)
      have hne:=HNL.o k hlt;have hdn:decide (p < k)=false:=decide_eq_false (by omega);have hdn1:decide (p < k+1)=true:=decide_eq_true (by omega)
      have HNX:Hd (Zbs B.ls ⟨t,r,mo,fv⟩ p (k+1)=Zbs B.ls ⟨t,r,mo,fv⟩ p k ++ [⟨t,r,mo,fv⟩] ++ [B.ls[k]]):=by
       subst hkp;exact Zql hlt
      rw [hdn];clear hkp;obtain⟨y0,z0,d0,d1,d2,d3⟩:=KP.o _ Zb_;go_wp2;clear y0 z0 d0 d1 d2 d3
      go_region_held3 (fun W=>(∀ i,W.cell? ⟨w2.heap.size,i,none⟩=(#[.int .i64 B.now,.int .i64 B.tick,.int .i64 B.given,.slice b0 B.os.length m0,.slice b1 B.gs.length m1,.slice (some ⟨rb,ro,none⟩) B.ls.length m2,.slice b3 B.ps.length m3]:Array Value)[i]?)/\(∀ i,W.cell? ⟨w5.heap.size,i,none⟩=(#[.string t,.string r,.int .i64 mo,.int .i64 fv]:Array Value)[i]?)/\W.cell? ⟨rb,ro+k*4,none⟩=some (.string B.ls[k].tm)/\W.cell? ⟨rb,ro+k*4+1,none⟩=some (.string B.ls[k].re)/\W.cell? ⟨rb,ro+k*4+2,none⟩=some (.int .i64 B.ls[k].mo)/\W.cell? ⟨rb,ro+k*4+3,none⟩=some (.int .i64 B.ls[k].fr))
       (first
         | (with_reducible exact KP.o _ (Zb_.drew))
         | (exact KP.o _ HC1.o)
         | assumption)
       (first
         | (go_at_call 73
            refine (Ztg _ _ _ _ _).mono ?_;rintro e w6 ⟨rfl,hb6⟩;have HC1:Hd (Below wr.heap.size wr w6):=Zb_.drew.trans (hb6.mono Zl_);clear hb6))
      have HS2:=Zab (HST.o.below HC1.o);have hs6:=HC1.o.size;obtain⟨y0,z0,d0,d1,d2,d3⟩:=KP.o _ HC1.o
      change Hd (Zjs Wg w6 (.slice va (Zbs B.ls (⟨t,r,mo,fv⟩:Le) p k).length vcap) (Zbs B.ls (⟨t,r,mo,fv⟩:Le) p k)) at HS2
      generalize hcv:Zd0 B.ls[k].tm B.ls[k].re t r=cv at hge hne |-;have h1:0 < cv:=by omega
      clear hcv hge hne
      go_wp2_with (first
       | (at_builtin;refine wpList_append_own_at _ rfl (.tmp 127) (.tmp 129) 37 rfl Wg.heap.size 92 i0 (.agg #[.string ⟨#[]⟩,.string ⟨#[]⟩,.int .i64 0,.int .i64 0]) 4 48 underlying37 HI.o.1 HI.o.2.1 HI.o.2.2.1 HI.o.2.2.2 rfl (by decide) _ (Zbs B.ls (⟨t,r,mo,fv⟩:Le) p k).length (Zbv (Zbs B.ls (⟨t,r,mo,fv⟩:Le) p k)) rfl (Below.ownsB HS2.o.own (Zac _ _)) ⟨w6.heap.size,0,none⟩ 1 1 [.string t,.string r,.int .i64 mo,.int .i64 fv] rfl rfl (Zei _ _ _ _ _ _ _ rfl) (ZgV (⟨t,r,mo,fv⟩:Le)) (by unfold maxLen;omega) (by omega) (by simp;omega) ?_;intro v' w7 hown7 hgrow7 hnil7 hat7;have HS4:Hd (Zjs Wg w7 v' (Zbs B.ls (⟨t,r,mo,fv⟩:Le) p k ++ [⟨t,r,mo,fv⟩])):=HS2.o.grown (((Zac w6 _).mono (by omega)).trans (ZaZ (Below.ownsB HS2.o.own (Zac _ _)) hgrow7 (by simp;omega))) ⟨t,r,mo,fv⟩ hown7;obtain⟨e0,e1,e2,e3⟩:=HCW.o.below HS4.o.bel hrb;have ex:=(FX.o.on HS4.o.bel).cell)
       | (at_builtin;refine wpList_append_own_at _ rfl (.tmp 131) (.tmp 137) 37 rfl Wg.heap.size 92 i0 (.agg #[.string ⟨#[]⟩,.string ⟨#[]⟩,.int .i64 0,.int .i64 0]) 4 48 underlying37 HI.o.1 HI.o.2.1 HI.o.2.2.1 HI.o.2.2.2 rfl (by decide) _ (Zbs B.ls (⟨t,r,mo,fv⟩:Le) p k ++ [(⟨t,r,mo,fv⟩:Le)]).length (Zbv (Zbs B.ls (⟨t,r,mo,fv⟩:Le) p k ++ [(⟨t,r,mo,fv⟩:Le)])) rfl (Below.ownsB HS4.o.own (Zac _ _)) ⟨w7.heap.size,0,none⟩ 1 1 [.string B.ls[k].tm,.string B.ls[k].re,.int .i64 B.ls[k].mo,.int .i64 B.ls[k].fr] rfl rfl (Zei _ _ _ _ _ _ _ rfl) (ZgV _) (by simp only [List.length_append,List.length_cons,List.length_nil];unfold maxLen;omega) (by simp only [List.length_append,List.length_cons,List.length_nil];omega) (by have:=HS4.o.bel.size;simp;omega) ?_;intro v5 w8 hown8 hgrow8 hnil8 hat8))
      clear hown7 hgrow7 hnil7 hat7 y0 z0 d0 d1 d2 d3;have HS5:Hd (Zjs Wg w8 v5 (Zbs B.ls (⟨t,r,mo,fv⟩:Le) p k ++ [⟨t,r,mo,fv⟩] ++ [B.ls[k]])):=HS4.o.grown (((Zac w7 _).mono (by have:=HS4.o.bel.size;omega)).trans (ZaZ (Below.ownsB HS4.o.own (Zac _ _)) hgrow8 (by have:=HS4.o.bel.size;simp;omega))) B.ls[k] hown8;clear hown8 hgrow8 hnil8 hat8 e0 e1 e2 e3 ex;go_wp2;go_roundw
      . exact⟨k+1,by go_num,by omega,by rw [hdn1],by rw [HNX.o];exact HS5.o⟩
      . simp [intOf];omega
    . have hdn:decide (p < k)=true:=decide_eq_true (by omega)
      have hdn1:decide (p < k+1)=true:=decide_eq_true (by omega);have HNX:=Zab (Zm6 (x:=⟨t,r,mo,fv⟩) hkp hlt);rw [hdn];obtain⟨y0,z0,d0,d1,d2,d3⟩:=KP.o _ Zb_;go_wp2;clear y0 z0 d0 d1 d2 d3
      go_quiet (fail)
      have HC1:Hd (Below wr.heap.size wr (wr.drewN nq)):=below_drewN Zb_ nq;generalize wr.drewN nq=w6 at*;have HS2:=Zab (HST.o.below HC1.o);have hs6:=HC1.o.size;obtain⟨y0,z0,d0,d1,d2,d3⟩:=KP.o _ HC1.o
      change Hd (Zjs Wg w6 (.slice va (Zbs B.ls (⟨t,r,mo,fv⟩:Le) p k).length vcap) (Zbs B.ls (⟨t,r,mo,fv⟩:Le) p k)) at HS2
      go_wp2_with (at_builtin;refine wpList_append_own_at _ rfl (.tmp 131) (.tmp 137) 37 rfl Wg.heap.size 92 i0 (.agg #[.string ⟨#[]⟩,.string ⟨#[]⟩,.int .i64 0,.int .i64 0]) 4 48 underlying37 HI.o.1 HI.o.2.1 HI.o.2.2.1 HI.o.2.2.2 rfl (by decide) _ (Zbs B.ls (⟨t,r,mo,fv⟩:Le) p k).length (Zbv (Zbs B.ls (⟨t,r,mo,fv⟩:Le) p k)) rfl (Below.ownsB HS2.o.own (Zac _ _)) ⟨w6.heap.size,0,none⟩ 1 1 [.string B.ls[k].tm,.string B.ls[k].re,.int .i64 B.ls[k].mo,.int .i64 B.ls[k].fr] rfl rfl (Zei _ _ _ _ _ _ _ rfl) (ZgV _) (by unfold maxLen;omega) (by omega) (by simp;omega) ?_;intro v' w7 hown7 hgrow7 hnil7 hat7);have HS4:Hd (Zjs Wg w7 v' (Zbs B.ls (⟨t,r,mo,fv⟩:Le) p k ++ [B.ls[k]])):=HS2.o.grown (((Zac w6 _).mono (by omega)).trans (ZaZ (Below.ownsB HS2.o.own (Zac _ _)) hgrow7 (by simp;omega))) B.ls[k] hown7
      clear hown7 hgrow7 hnil7 hat7 y0 z0 d0 d1 d2 d3;go_wp2;go_roundw
      . exact⟨k+1,by go_num,by omega,by rw [hdn1],by rw [HNX.o];exact HS4.o⟩
      . simp [intOf];omega
  . have hkl:k=B.ls.length:=by omega
    subst hkl;have xe:=(FX.o.on HST.o.bel).cell;have ge:=(FG.o.on HST.o.bel).cell;have hgs:=(FR.o.on HST.o.bel).lt
    by_cases hpe:p < B.ls.length
    . have hdn:decide (p < B.ls.length)=true:=decide_eq_true hpe
      obtain⟨a6,c6,n6,hv6,hn6⟩:∃ a6 c6 n6,Value.slice va (Zbs B.ls ⟨t,r,mo,fv⟩ p B.ls.length).length vcap=.slice a6 n6 c6/\(Zhz B.ls ⟨t,r,mo,fv⟩ p).length=n6:=⟨va,vcap,_,by rw [Zkn hpe],rfl⟩
      have HSE:Hd (Zjs Wg wr (.slice a6 n6 c6) (Zhz B.ls ⟨t,r,mo,fv⟩ p)):=by
       have:=HST.o;rw [hv6,Zkn hpe] at this;exact this
      have HE:Hd (ZaJ Wg.heap.size wr.heap.size wr (.slice a6 n6 c6) (Zhz B.ls ⟨t,r,mo,fv⟩ p)):=ZgC HSE.o.own (ZiI HZL.o ⟨HSD.o.1,HSD.o.2⟩ p);rw [hdn,hv6];clear xe ge hv6 HST hFl;have FXq:=Zab (FX.o.on HSE.o.bel);have FRq:=Zab (FR.o.on HSE.o.bel);have FX7:=Zab (FXq.o.set (k:=5) (.slice a6 n6 c6) (by simp));have FR7:=Zab (FRq.o.setFar (p:=⟨w2.heap.size,5,none⟩) (by dsimp;omega) (.slice a6 n6 c6));have x0:=FX7.o.cell;have r0:=FR7.o.cell;have gz:=FR7.o.free;have f5:=FXq.o.free 5;have x5:=FXq.o.cell 5;simp at x5;go_wp2;clear x0 f5 x5;refine bodyPost_ret (v:=.tuple #[.agg #[.int .i64 B.now,.int .i64 B.tick,.int .i64 B.given,.slice b0 B.os.length m0,.slice b1 B.gs.length m1,.slice a6 n6 c6,.slice b3 B.ps.length m3],.int .i64 0]) (by simp [results,results20,go_sem,r0]) rfl ?_;rw [HDA.o,HB0.o]
      obtain⟨o0,o1,g0,g1,l0,l1,q0,q1,⟨⟨y1,y2⟩,⟨y3,y4⟩,⟨y5,y6⟩,⟨y7,y8⟩,yog,yol,yop,ygl,ygp,ylp⟩,hOo,hGo,-,hPo⟩:=HOg.o.below HSE.o.bel;have hse:=HSE.o.bel.size;refine⟨b0,m0,b1,m1,a6,c6,b3,m3,by rw [<- hn6],?_,?_⟩
      . repeat (refine Below.setCell ?_ (by dsimp;omega) _)
        exact bt HBg.o HSE.o.bel
      . have ht7:Zad w2.heap.size (w2.heap.size+1) wr (World.setCell wr ⟨w2.heap.size,5,none⟩ (.slice a6 n6 c6)):=Zad.setB _ _ _ _
        refine Zax.wide (lo:=w1.heap.size) (hi:=World.heap wr |>.size) ?_ (by omega) (by simp [World.setCell])
        iterate 7 (refine Zax.setLow ?_ (by dsimp;omega) _)
        rw [<- hn6] at HE ht7 |-;exact⟨o0,o1,g0,g1,Wg.heap.size,World.heap wr |>.size,q0,q1,⟨⟨y1,by omega⟩,⟨y3,by omega⟩,⟨by omega,by omega⟩,⟨y7,by omega⟩,yog,by omega,yop,by omega,ygp,by omega⟩,hOo.touch ht7 (by omega),hGo.touch ht7 (by omega),HE.o.touch ht7 (by omega),hPo.touch ht7 (by omega)⟩
    . have hdn:decide (p < B.ls.length)=false:=decide_eq_false hpe
      rw [hdn]
      go_wp2_with (at_builtin;refine wpList_append_own_at _ rfl (.tmp 141) (.tmp 143) 37 rfl Wg.heap.size 92 i0 (.agg #[.string ⟨#[]⟩,.string ⟨#[]⟩,.int .i64 0,.int .i64 0]) 4 48 underlying37 HI.o.1 HI.o.2.1 HI.o.2.2.1 HI.o.2.2.2 rfl (by decide) _ (Zbs B.ls (⟨t,r,mo,fv⟩:Le) p B.ls.length).length (Zbv (Zbs B.ls (⟨t,r,mo,fv⟩:Le) p B.ls.length)) rfl (Below.ownsB HST.o.own (Zac _ _)) ⟨wr.heap.size,0,none⟩ 1 1 [.string t,.string r,.int .i64 mo,.int .i64 fv] rfl rfl (Zei _ _ _ _ _ _ _ rfl) (ZgV (⟨t,r,mo,fv⟩:Le)) (by unfold maxLen;omega) (by omega) (by simp;omega) ?_
                   intro v' w7 hown7 hgrow7 hnil7 hat7;obtain⟨n6,hnn⟩:∃ n6,(Zbs B.ls ⟨t,r,mo,fv⟩ p B.ls.length).length+1=n6:=⟨_,rfl⟩
                   obtain⟨a6,c6,hv6⟩:=ZdI hown7;rw [hnn] at hv6;subst hv6;have hn6:(Zhz B.ls ⟨t,r,mo,fv⟩ p).length=n6:=by rw [<- Zio (by omega),List.length_append,<- hnn];rfl
                   have HSE:Hd (Zjs Wg w7 (.slice a6 n6 c6) (Zhz B.ls ⟨t,r,mo,fv⟩ p)):=by
                    have:=HST.o.grown (((Zac wr _).mono (by omega)).trans (ZaZ (Below.ownsB HST.o.own (Zac _ _)) hgrow7 (by simp;omega))) ⟨t,r,mo,fv⟩ hown7;rw [Zio (by omega)] at this;exact this
                   have HE:Hd (ZaJ Wg.heap.size w7.heap.size w7 (.slice a6 n6 c6) (Zhz B.ls ⟨t,r,mo,fv⟩ p)):=ZgC (by rw [hn6];exact hn6 ▸ HSE.o.own) (ZiI HZL.o ⟨HSD.o.1,HSD.o.2⟩ p);clear hown7 hgrow7 hnil7 hat7 xe ge hnn HST hFl;have FXq:=Zab (FX.o.on HSE.o.bel);have FRq:=Zab (FR.o.on HSE.o.bel);have FX7:=Zab (FXq.o.set (k:=5) (.slice a6 n6 c6) (by simp));have FR7:=Zab (FRq.o.setFar (p:=⟨w2.heap.size,5,none⟩) (by dsimp;omega) (.slice a6 n6 c6));have x0:=FX7.o.cell;have r0:=FR7.o.cell;have gz:=FR7.o.free;have f5:=FXq.o.free 5;have x5:=FXq.o.cell 5;simp at x5
                   )
      clear x0 f5 x5;refine bodyPost_ret (v:=.tuple #[.agg #[.int .i64 B.now,.int .i64 B.tick,.int .i64 B.given,.slice b0 B.os.length m0,.slice b1 B.gs.length m1,.slice a6 n6 c6,.slice b3 B.ps.length m3],.int .i64 0]) (by simp [results,results20,go_sem,r0]) rfl ?_;rw [HDA.o,HB0.o];obtain⟨o0,o1,g0,g1,l0,l1,q0,q1,⟨⟨y1,y2⟩,⟨y3,y4⟩,⟨y5,y6⟩,⟨y7,y8⟩,yog,yol,yop,ygl,ygp,ylp⟩,hOo,hGo,-,hPo⟩:=HOg.o.below HSE.o.bel;have hse:=HSE.o.bel.size;refine⟨b0,m0,b1,m1,a6,c6,b3,m3,by rw [<- hn6],?_,?_⟩
      . repeat (refine Below.setCell ?_ (by dsimp;omega) _)
        exact bt HBg.o HSE.o.bel
      . have ht7:Zad w2.heap.size (w2.heap.size+1) w7 (World.setCell w7 ⟨w2.heap.size,5,none⟩ (.slice a6 n6 c6)):=Zad.setB _ _ _ _
        refine Zax.wide (lo:=w1.heap.size) (hi:=World.heap w7 |>.size) ?_ (by omega) (by simp [World.setCell])
        iterate 7 (refine Zax.setLow ?_ (by dsimp;omega) _)
        rw [<- hn6] at HE ht7 |-;exact⟨o0,o1,g0,g1,Wg.heap.size,World.heap w7 |>.size,q0,q1,⟨⟨y1,by omega⟩,⟨y3,by omega⟩,⟨by omega,by omega⟩,⟨y7,by omega⟩,yog,by omega,yop,by omega,ygp,by omega⟩,hOo.touch ht7 (by omega),hGo.touch ht7 (by omega),HE.o.touch ht7 (by omega),hPo.touch ht7 (by omega)⟩
end
end Go.Proofs.YtfohnageehneoaaGreat
