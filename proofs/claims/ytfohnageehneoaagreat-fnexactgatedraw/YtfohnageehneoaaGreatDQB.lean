import Derived.Test.YtfohnageehneoaaGreatDOI
import Derived.Lib.Overlaps
import Derived.Lib.AppendZeros
import Derived.Defers
set_option maxHeartbeats 16000000
set_option maxRecDepth 100000
open Go.Proofs.Tryz
namespace Go.Proofs.YtfohnageehneoaaGreat
open Go.RowKit Go.Deep
variable {P:Program} {Ps Ls F:List Pu} {x:Pu} {p l0 l1 b off cap k:Nat} {v:Value} {W wr wr':World}
theorem Zc9 (w:World) (dT sT ty elem:TypeId) (k g o dLen dCap:Nat) (a:Addr) (sLen sCap m:Nat) (cur:Array Value) (t:TypeId) (cs:List Value)
 (hu:P.underlying dT=some (.slice elem)) (hs:(P.info? elem).map (·.size)=some k) (hm:Nat.min sLen dLen=m)
 (hg:w.heap[g]?=some (.cells cur t (0,0))) (hn:cs.length=m*k)
 (hsrc:∀ j v,cs[j]?=some v->w.cell? (a.add j)=some v) (hfit:o+cs.length<=cur.size) (h1:∀ v ∈ cs,v.oneCell'=true) :
 (Builtin.copy_ #[dT,sT] ty #[.slice (some ⟨g,o,none⟩) dLen dCap,.slice (some a) sLen sCap]).run P w=
   .ok (goInt m) (w.setRow g (cur.toList.take o ++ cs ++ cur.toList.drop (o+cs.length)).toArray):=by
 subst hm;have hl:=run_firstCells_some (P:=P) w k (Nat.min sLen dLen) a sLen sCap cs hn hsrc;have hst:=run_storeCells_at P g o t cs 0 cur w hg (by simpa using hfit) h1;simp only [Nat.add_zero] at hst
 cases hq:P.info? elem with
 | none=>simp [hq] at hs
 | some i=>
  have hi:i.size=k:=by simpa [hq] using hs
  simp [Builtin.copy_,run_underlying hu,Builtin.lenOf,sizeOf,typeInfo,hq,hi,hl,hst]
theorem Zej (w:World) (t tn ty e:TypeId) (i:TypeInfo) (z:Value) (k kn:IntKind) (ht:P.underlying t=some (.slice e)) (htn:P.underlying tn=some (.int kn)) (hi:P.info? e=some i) (hz:i.zero=some z)
 (b:Addr) (sLen sCap n:Nat) (olds:List Value) (hlo:olds.length=sLen*i.size) (holds:∀ j v,olds[j]?=some v->w.cell? (b.add j)=some v)
 (h0:0 < n) (hs:0 < i.size) (hg:sCap < sLen+n) (h63:((sLen+n:Nat):Int)<=9223372036854775807) (hfit:Builtin.nextslicecap (sLen+n) sCap*i.bytes<=281474976710656) (h48:n*i.bytes<=281474976710656) :
 (Builtin.append_ #[t,tn] ty #[.slice (some b) sLen sCap,.int k n]).run P w=
   .ok (.slice (some ⟨w.heap.size,0,none⟩) (sLen+n) (grownCap w (sLen+n) sCap e))
    (w.drew.alloc (.cells (olds.toArray ++ Builtin.zeroCells z.cells n ++ Builtin.zeroCells z.cells (grownCap w (sLen+n) sCap e - (sLen+n))) e)):=by
 have hn:¬ (sLen+n<=sCap):=by omega
 have hn0:n≠0:=by omega
 have hw:IntKind.i64.wrap (n:Int)=n:=by rw [IntKind.wrap_i64];omega
 have h63':¬ (9223372036854775807 < ((sLen:Int)+(n:Int))):=by omega
 have h48':¬ (281474976710656 < Builtin.nextslicecap (sLen+n) sCap*i.bytes):=by omega
 have h48i:¬ (281474976710656 < (n:Int)*(i.bytes:Int)):=by rw [<- Int.natCast_mul];omega
 have hneg:¬ ((n:Int) < 0):=by omega
 have hns:¬ (n*i.size=0):=Nat.mul_ne_zero hn0 (by omega);have hfo:=run_firstCells_some (P:=P) w.drew i.size sLen b sLen sCap olds hlo (by simpa using holds);simp [Builtin.append_,run_underlying ht,run_underlying htn,sizeOf,typeInfo,zeroValue,hi,hz,asInt,asIntOf,hw,hn,hneg,hns,h63',h48',h48i,Question.forced,hfo,newRow,grownCap]
theorem Zgy (w:World) {ops:Array Oper} {rest:List Oper} {o:Oper} {a:Act} {Q:Exit->Act->World->Prop} (hgd:o.guard=none) (d s:Operand) (t t':TypeId)
 (ho:o.op=.call { callee:=.builtin .copy,args:=#[d,s],argTypes:=#[t,t'] }) (v u:Value) (hd:a.eval d=v) (hs:a.eval s=u) {v':Value} {w':World}
 (hr:(Builtin.copy_ #[t,t'] o.type #[v,u]).run P w=.ok v' w') (h:wpList P ops Q rest (a.put o.dst v') w'):wpList P ops Q (o :: rest) a w:=
 wpList_plain hgd fun _ hK=>by
  unfold Oper.wp execOp;simp only [ho,resolve,invoke,builtin,Sem.run_bind,Sem.run_pure,Result.andThen_ok,List.map_toArray,List.map_cons,List.map_nil,hd,hs,hr];exact hK _ _ h
theorem ZeW {ops:Array Oper}{o:Oper}{a:Act}{w:World}{K:Act->World->Prop}{Q:Exit->Act->World->Prop}{E:Prop}
 (hg:o.guard=none) (d x:Operand) (dT sT:TypeId) (hop:o.op=Op.call { callee:=Callee.builtin Builtin.copy,args:=#[d,x],argTypes:=#[dT,sT] })
 (v u:Value) (hd:a.eval d=v) (hx:a.eval x=u) {v':Value} {w':World} (hr:(Builtin.copy_ #[dT,sT] o.type #[v,u]).run P w=.ok v' w') (hK:K (a.put o.dst v') w') :
 if Region.wanted o (yielded ops a.tmps)=true then Oper.wp P o a w K Q else E:=by
 have hw:Region.wanted o (yielded ops a.tmps)=true:=by simp [Region.wanted,hg]
 rw [if_pos hw];unfold Oper.wp;simp [execOp,hop,resolve,invoke,builtin,hd,hx,hr,Result.andThen];exact hK
theorem Zq5 {X:Type} (cur xs pv:List X) (k i n:Nat) (hp:pv.length=k) (hx:xs.length=n*k) (hi:i < n) (ht:cur.take (n*k)=xs) (hc:(n+1)*k<=cur.length) (c1:List X) (h1:c1=cur.take ((i+1)*k) ++ xs.drop (i*k) ++ cur.drop ((i+1)*k+(xs.drop (i*k)).length)) :
 (c1.take (i*k) ++ pv ++ c1.drop (i*k+pv.length)).take ((n+1)*k)=xs.take (i*k) ++ pv ++ xs.drop (i*k)/\(c1.take (i*k) ++ pv ++ c1.drop (i*k+pv.length)).length=cur.length/\c1.length=cur.length:=by
 have e1:(i+1)*k=i*k+k:=Nat.succ_mul i k;have e2:(n+1)*k=n*k+k:=Nat.succ_mul n k;have e3:i*k+k<=n*k:=by rw [<- e1];exact Nat.mul_le_mul_right _ hi
 have hdl:(xs.drop (i*k)).length=n*k - i*k:=by rw [List.length_drop,hx]
 have ht1:c1.take (i*k)=xs.take (i*k):=by
  rw [h1,List.append_assoc,List.take_append_of_le_length (by rw [List.length_take];omega),List.take_take,Nat.min_eq_left (by omega),<- ht,List.take_take,Nat.min_eq_left (by omega)]
 have hd1:c1.drop (i*k+pv.length)=xs.drop (i*k) ++ cur.drop ((i+1)*k+(xs.drop (i*k)).length):=by
  rw [h1,List.append_assoc,List.drop_append,List.drop_of_length_le (by rw [List.length_take];omega),List.length_take,Nat.min_eq_left (by omega),hp,e1,Nat.sub_self,List.nil_append,List.drop_zero]
 have hl1:c1.length=cur.length:=by
  rw [h1];simp only [List.length_append,List.length_take,List.length_drop]
  omega
 refine⟨?_,?_,hl1⟩
 . rw [ht1,hd1,<- List.append_assoc]
   refine List.take_append_of_le_length ?_ |>.trans (List.take_of_length_le ?_)
   . simp only [List.length_append,List.length_take,hdl];omega
   . simp only [List.length_append,List.length_take,hdl];omega
 . simp only [List.length_append,List.length_take,List.length_drop]
   omega
theorem Zs1 {X:Type} (cur xs pv:List X) (k i n:Nat) (hp:pv.length=k) (hx:xs.length=n*k) (hi:i < n) (ht:cur.take (i*k)=xs.take (i*k)) (hc:(n+1)*k<=cur.length) (c1:List X) (h1:c1=cur.take (i*k) ++ pv ++ cur.drop (i*k+pv.length)) :
 (c1.take ((i+1)*k) ++ xs.drop (i*k) ++ c1.drop ((i+1)*k+(xs.drop (i*k)).length)).take ((n+1)*k)=xs.take (i*k) ++ pv ++ xs.drop (i*k)/\(c1.take ((i+1)*k) ++ xs.drop (i*k) ++ c1.drop ((i+1)*k+(xs.drop (i*k)).length)).length=cur.length/\c1.length=cur.length:=by
 have e1:(i+1)*k=i*k+k:=Nat.succ_mul i k;have e2:(n+1)*k=n*k+k:=Nat.succ_mul n k;have e3:i*k+k<=n*k:=by rw [<- e1];exact Nat.mul_le_mul_right _ hi
 have hdl:(xs.drop (i*k)).length=n*k - i*k:=by rw [List.length_drop,hx]
 have hl1:c1.length=cur.length:=by
  rw [h1];simp only [List.length_append,List.length_take,List.length_drop]
  omega
 have ht1:c1.take ((i+1)*k)=xs.take (i*k) ++ pv:=by
  rw [h1,ht];refine List.take_append_of_le_length ?_ |>.trans (List.take_of_length_le ?_)
  . simp only [List.length_append,List.length_take];omega
  . simp only [List.length_append,List.length_take];omega
 refine⟨?_,?_,hl1⟩
 . rw [ht1]
   refine List.take_append_of_le_length ?_ |>.trans (List.take_of_length_le ?_)
   . simp only [List.length_append,List.length_take,hdl];omega
   . simp only [List.length_append,List.length_take,hdl];omega
 . simp only [List.length_append,List.length_take,List.length_drop]
   omega
theorem Zc8 (p:Pu):∀ u ∈ [Value.string p.dr,.string p.tm,.string p.re,.int .i64 p.am,.int .i64 p.un],u.oneCell'=true:=by
 intro u hu;simp only [List.mem_cons,List.not_mem_nil,or_false] at hu
 rcases hu with rfl | rfl | rfl | rfl | rfl <;> rfl
theorem ZhT (L:List Pu) (p:Pu) (i:Nat) (hi:i<=L.length):Zbs (L.take i ++ p :: L.drop i)=(Zbs L).take (i*5) ++ [Value.string p.dr,.string p.tm,.string p.re,.int .i64 p.am,.int .i64 p.un] ++ (Zbs L).drop (i*5):=by
 rw [ZgK,Zpf L i hi,<- ZoR L i hi,List.append_assoc]
 rfl
theorem Zi1 (base i vb:Nat) (v:Value) (L:List Pu) (p:Pu) (w:World) (hown:w.ownsRow base 94 5 v L.length (Zbs L)) (hi:i<=L.length) (hn:L.length<=1048576) (hbase:base<=w.heap.size) (hvb:v.ownBlock≠some vb) (hv:w.heap[vb]?=some (.cells #[Value.string p.dr,.string p.tm,.string p.re,.int .i64 p.am,.int .i64 p.un] 94 (0,0))) :
 Calls prog 173 #[v,.int .i64 i,.slice (some ⟨vb,0,none⟩) 1 1] w fun e w'=>∃ v',e=.returned v'/\w'.ownsRow base 94 5 v' (L.length+1) (Zbs (L.take i ++ p :: L.drop i))/\Below base w w':=by
 obtain⟨i0,hin,hz0,hz1,hz2⟩:=info_parts Tryz.info94;have HI:=Zab (And.intro hin (And.intro hz0 (And.intro hz1 hz2)));have hsz:(prog.info? 94).map (·.size)=some 5:=by rw [hin];simp [hz1]
 have HSZ:=Zab hsz;clear hin hz0 hz1 hz2 hsz;have hvlt:vb < w.heap.size:=(Array.getElem?_eq_some_iff.1 hv).1
 have HNW:Hd (∀ W:World,W.heap[vb]?=w.heap[vb]?->∀ j u,[Value.string p.dr,.string p.tm,.string p.re,.int .i64 p.am,.int .i64 p.un][j]?=some u->W.cell? ((⟨vb,0,none⟩:Addr).add j)=some u):=fun W hW j u hu=>by
  rw [Go.WideShapes.add_plain,Nat.zero_add];unfold World.cell?;rw [hW,hv]
  simpa using hu
 have HV:=Zab hv;have HOW:=Zab hown;have HXL:Hd ((Zbs L).length=L.length*5):=Zdv L;have HPO:=Zab (ZhT L p i hi);generalize hR:Zbs (L.take i ++ p :: L.drop i)=R at HPO |-;clear hR
 by_cases hil:i=L.length
 . subst hil
   have HEN:Hd (R=Zbs L ++ [Value.string p.dr,.string p.tm,.string p.re,.int .i64 p.am,.int .i64 p.un]):=by
    unfold Hd;rw [HPO.o,List.take_of_length_le (by rw [HXL.o];exact Nat.le_refl _),List.drop_of_length_le (by rw [HXL.o];exact Nat.le_refl _),List.append_nil]
   have hii:(L.length:Int)<=L.length:=Int.le_refl _;have hz:¬ ((L.length:Int) < 0):=by omega
   rcases hown.2 with ⟨hvn,hln⟩ | ⟨g,cap,cur,hvs,hbg,hg,hnc,hcm,hcs,htk⟩
   . subst hvn
     clear hown hvb hv;rw [hln];go_enter func173,ntmps173;go_wp2_with (at_builtin;refine wpList_append_own_at _ rfl (.tmp 23) (.tmp 24) 38 rfl base 94 i0 (.agg #[.string ⟨#[]⟩,.string ⟨#[]⟩,.string ⟨#[]⟩,.int .i64 0,.int .i64 0]) 5 64 underlying38 HI.o.1 HI.o.2.1 HI.o.2.2.1 HI.o.2.2.2 rfl (by decide) _ L.length (Zbs L) rfl HOW.o ⟨vb,0,none⟩ 1 1 [Value.string p.dr,.string p.tm,.string p.re,.int .i64 p.am,.int .i64 p.un] rfl rfl (HNW.o _ rfl) (Zc8 p) (by unfold maxLen;omega) (by omega) hbase ?_;intro v' w4 hown4 hgrow4 hnil4 hat4);have HO4:Hd (w4.ownsRow base 94 5 v' (L.length+1) R):=by unfold Hd;rw [HEN.o];exact hown4
     have HB4:Hd (Below base w w4):=ZaP HOW.o hgrow4 hbase;clear hown4 hgrow4 hnil4 hat4;go_wp2;go_ret;rw [hln] at HO4;exact⟨_,rfl,HO4.o,HB4.o⟩
   . subst hvs
     clear hown hvb hv hg htk hcs;have hlc:L.length<=cap:=hnc
     by_cases hcl:cap=L.length
     all_goals
      go_enter func173,ntmps173;go_wp2_with (at_builtin;refine wpList_append_own_at _ rfl (.tmp 23) (.tmp 24) 38 rfl base 94 i0 (.agg #[.string ⟨#[]⟩,.string ⟨#[]⟩,.string ⟨#[]⟩,.int .i64 0,.int .i64 0]) 5 64 underlying38 HI.o.1 HI.o.2.1 HI.o.2.2.1 HI.o.2.2.2 rfl (by decide) _ L.length (Zbs L) rfl HOW.o ⟨vb,0,none⟩ 1 1 [Value.string p.dr,.string p.tm,.string p.re,.int .i64 p.am,.int .i64 p.un] rfl rfl (HNW.o _ rfl) (Zc8 p) (by unfold maxLen;omega) (by omega) hbase ?_;intro v' w4 hown4 hgrow4 hnil4 hat4);have HO4:Hd (w4.ownsRow base 94 5 v' (L.length+1) R):=by unfold Hd;rw [HEN.o];exact hown4
      have HB4:Hd (Below base w w4):=ZaP HOW.o hgrow4 hbase;clear hown4 hgrow4 hnil4 hat4;go_wp2;go_ret;exact⟨_,rfl,HO4.o,HB4.o⟩
 have hlt:i < L.length:=by omega
 rcases hown.2 with ⟨hvn,hln⟩ | ⟨g,cap,cur,hvs,hbg,hg,hnc,hcm,hcs,htk⟩
 . omega
 subst hvs;have hgv:g≠vb:=fun e=>hvb (by rw [e];rfl)
 have HG:=Zab hg;have HTK:=Zab htk;have HCS:=Zab hcs;have hglt:g < w.heap.size:=(Array.getElem?_eq_some_iff.1 hg).1
 have HXS:Hd (∀ W:World,(∀ k,W.heap[g]?=w.heap[g]?->k < L.length*5->W.cell? ⟨g,k,none⟩=(Zbs L)[k]?)):=fun W k hW hk=>by
  unfold World.cell?;rw [hW,HG.o];simp only [];rw [<- HTK.o,List.getElem?_take,if_pos hk];simp
 have hii:¬ ((i:Int)=(L.length:Int)):=by omega
 have hi1:(i:Int)<=(L.length:Int):=by omega
 have hcapI:(cap:Int)<=9223372036854775807:=by unfold maxLen at hcm;omega
 have hw1:IntKind.wrap .i64 ((L.length:Int)+1)=(L.length:Int)+1:=by rw [IntKind.wrap_i64];omega
 have hw2:IntKind.wrap .i64 ((i:Int)+1)=(i:Int)+1:=by rw [IntKind.wrap_i64];omega
 have hti:((i:Int)+1).toNat=i+1:=by omega
 have htn:((L.length:Int)+1).toNat=L.length+1:=by omega
 have hb1:¬ (cap=i):=by omega
 have hb3:i<=cap:=by omega
 clear hown hvb hv hg htk hcs hil
 by_cases hroom:L.length+1<=cap
 . have hb4:¬ (cap=i+1):=by omega
   have hb5:i+1<=cap:=by omega
   have hq1:(0:Int)<=(i:Int)+1:=by omega
   have hq2:(i:Int)+1<=(L.length:Int)+1:=by omega
   have hq3:(i:Int)<=(L.length:Int)+1:=by omega
   have hq4:i<=L.length+1:=by omega
   have hb6:(L.length:Int)+1<=(cap:Int):=by omega
   have hb7:i<=L.length:=by omega
   have hb8:¬ ((cap:Int) < (L.length:Int)+1):=by omega
   have hfz:w.frozen? ⟨vb,0,none⟩=false:=by unfold World.frozen?;rw [HV.o];simp
   have hfe:w.frozen? ⟨vb,5,none⟩=false:=by unfold World.frozen?;rw [HV.o];simp
   have hsa:w.shape? vb=some (94,5):=by unfold World.shape?;rw [HV.o];rfl
   have hsb:w.shape? g=some (94,cur.size):=by unfold World.shape?;rw [HG.o]
   have hov:∀ o lb cb,(callFunc 213 #[.slice (some ⟨vb,0,none⟩) 1 1,.slice (some ⟨g,o,none⟩) lb cb]).run prog w=.ok (.value (.bool false)) w:=fun o lb cb=>by
    rw [run_callFunc_extern func213 (by kernel_rfl) (by kernel_rfl) (by kernel_rfl) (e:=Extern.SlicesOverlaps.overlaps #[38,38] #[4]) (by kernel_rfl),
     Lib.run_overlaps_apart w 38 4 94 underlying38 5 (fun w=>by simp [sizeOf,typeInfo,HI.o.1,HI.o.2.2.1]) ⟨vb,0,none⟩ ⟨g,o,none⟩ 1 1 lb cb (fun e=>hgv e.symm) _ _ 5 cur.size hsa hsb (by rw [HCS.o];omega) hfz hfe]
    rfl
   have hdl:((Zbs L).drop (i*5)).length=(L.length - i)*5:=by rw [List.length_drop,HXL.o,Nat.sub_mul]
   have hfit:(i+1)*5+((Zbs L).drop (i*5)).length<=cur.size:=by rw [hdl,HCS.o];omega
   have hct:cur.toList.length=cap*5:=(Array.length_toList (xs:=cur)).trans HCS.o
   have hcp1:∀ ty dc sc,(Builtin.copy_ #[38,38] ty #[.slice (some ⟨g,(i+1)*5,none⟩) (L.length - i) dc,.slice (some ⟨g,i*5,none⟩) (L.length+1 - i) sc]).run prog w.drew=.ok (goInt (L.length - i:Nat)) (w.drew.setRow g (cur.toList.take ((i+1)*5) ++ (Zbs L).drop (i*5) ++ cur.toList.drop ((i+1)*5+((Zbs L).drop (i*5)).length)).toArray):=fun ty dc sc=>
    Zc9 w.drew _ _ ty 94 5 g ((i+1)*5) _ dc ⟨g,i*5,none⟩ _ sc (L.length - i) cur 94 _ underlying38 HSZ.o (by show min _ _=_;omega) HG.o hdl (fun j u hj=>by
     rw [Go.WideShapes.add_plain,HXS.o w.drew _ rfl (by have:=(List.getElem?_eq_some_iff.1 hj).1;rw [hdl] at this;omega)]
     rwa [List.getElem?_drop] at hj) hfit (fun u hu=>ZeE _ u (List.mem_of_mem_drop hu))
   obtain⟨C1,hC1⟩:∃ C1,C1=cur.toList.take ((i+1)*5) ++ (Zbs L).drop (i*5) ++ cur.toList.drop ((i+1)*5+((Zbs L).drop (i*5)).length):=⟨_,rfl⟩
   obtain⟨hs1,hs2,hs3⟩:=Zq5 cur.toList (Zbs L) [Value.string p.dr,.string p.tm,.string p.re,.int .i64 p.am,.int .i64 p.un] 5 i L.length rfl HXL.o hlt HTK.o (by rw [hct];omega) C1 hC1;rw [<- hC1] at hcp1;obtain⟨C2,hC2⟩:∃ C2,C2=C1.take (i*5) ++ [Value.string p.dr,.string p.tm,.string p.re,.int .i64 p.am,.int .i64 p.un] ++ C1.drop (i*5+([Value.string p.dr,.string p.tm,.string p.re,.int .i64 p.am,.int .i64 p.un]).length):=⟨_,rfl⟩
   have hcp2:∀ (W:World),W.heap[g]?=some (.cells C1.toArray 94 (0,0))->W.heap[vb]?=w.heap[vb]?->∀ ty dc,(Builtin.copy_ #[38,38] ty #[.slice (some ⟨g,i*5,none⟩) (L.length+1 - i) dc,.slice (some ⟨vb,0,none⟩) 1 1]).run prog W=.ok (goInt (1:Nat)) (W.setRow g C2.toArray):=fun W h1 h2 ty dc=>by
    rw [hC2];exact Zc9 W _ _ ty 94 5 g (i*5) _ dc ⟨vb,0,none⟩ 1 1 1 C1.toArray 94 _ underlying38 HSZ.o (by show min _ _=_;omega) h1 rfl (HNW.o W h2) (by rw [List.size_toArray,hs3,hct];simp only [List.length_cons,List.length_nil];omega) (Zc8 p)
   rw [<- hC2] at hs1 hs2;have HS:=Zab (And.intro hs1 (And.intro hs2 hs3));have HH1:Hd ((w.drew.setRow g C1.toArray).heap[g]?=some (.cells C1.toArray 94 (0,0))):=setRow_heap w.drew g cur _ _ _ HG.o;have HH2:Hd ((w.drew.setRow g C1.toArray).heap[vb]?=w.heap[vb]?):=setRow_other w.drew g vb _ (fun e=>hgv e.symm);clear hC1 hC2 hs1 hs2 hs3 hdl hfit hsa hsb hfz hfe;go_enter func173,ntmps173;go_wp2_with (simp only [hov]);clear hov
   go_region_law (refine ZeW rfl (.tmp 73) (.tmp 76) 38 38 rfl _ _ (by simp [Act.eval,Act.put]) (by simp [Act.eval,Act.put]) (hcp1 _ _ _) ?_)
   have hcp3:=hcp2 _ HH1.o HH2.o;clear hcp1 hcp2;go_wp2_with (simp only [hcp3]);clear hcp3;go_ret
   have hb:Below base w ((w.drew.setRow g C1.toArray).setRow g C2.toArray):=by
    rw [setRow_setRow];exact⟨rfl,rfl,rfl,by simp [World.setRow],fun k hk=>setRow_other w.drew g k _ (by omega)⟩
   exact⟨_,rfl,⟨by rw [HPO.o];simp only [List.length_append,List.length_take,List.length_drop,HXL.o,List.length_cons,List.length_nil];omega,Or.inr ⟨g,cap,_,rfl,hbg,setRow_heap _ g _ _ _ _ HH1.o,by omega,hcm,by rw [List.size_toArray,HS.o.2.1,Array.length_toList (xs:=cur)];exact HCS.o,by rw [HPO.o];exact HS.o.1⟩⟩,hb⟩
 . have hgr:cap < i+(L.length+1 - i):=by omega
   have hb8:(cap:Int) < (L.length:Int)+1:=by omega
   have hw3:IntKind.wrap .i64 ((L.length:Int)+1 - (i:Int))=((L.length+1 - i:Nat):Int):=by rw [IntKind.wrap_i64];omega
   have hie:i+(L.length+1 - i)=L.length+1:=by omega
   have hap:=fun ty=>Zej (P:=prog) w 38 3 ty 94 i0 (.agg #[.string ⟨#[]⟩,.string ⟨#[]⟩,.string ⟨#[]⟩,.int .i64 0,.int .i64 0]) .i64 .i64 underlying38 underlying3 HI.o.1 HI.o.2.1 ⟨g,0,none⟩ i cap (L.length+1 - i) ((Zbs L).take (i*5)) (by rw [List.length_take,HXL.o,HI.o.2.2.1];omega) (fun j u hj=>by
    rw [List.getElem?_take] at hj
    split at hj
    . rw [Go.WideShapes.add_plain,Nat.zero_add,HXS.o w _ rfl (by omega)]
      exact hj
    . cases hj) (by omega) (by rw [HI.o.2.2.1];omega) hgr (by omega) (growslice_fits hgr (by rw [HI.o.2.2.2];omega)) (by rw [HI.o.2.2.2];omega)
   rw [hie] at hap;have hcg:=grownCap_ge w (L.length+1) cap 94;have hcx:=grownCap_le_maxLen w (L.length+1) cap 94 (by unfold maxLen;omega);generalize grownCap w (L.length+1) cap 94=cap1 at hap hcg hcx;have hzc:∀ n,(Builtin.zeroCells (.agg #[.string ⟨#[]⟩,.string ⟨#[]⟩,.string ⟨#[]⟩,.int .i64 0,.int .i64 0]:Value).cells n).size=n*5:=fun n=>size_zeroCells _ n
   obtain⟨C0,hC0⟩:∃ C0:List Value,C0=(((Zbs L).take (i*5)).toArray ++ Builtin.zeroCells (.agg #[.string ⟨#[]⟩,.string ⟨#[]⟩,.string ⟨#[]⟩,.int .i64 0,.int .i64 0]:Value).cells (L.length+1 - i) ++ Builtin.zeroCells (.agg #[.string ⟨#[]⟩,.string ⟨#[]⟩,.string ⟨#[]⟩,.int .i64 0,.int .i64 0]:Value).cells (cap1 - (L.length+1))).toList:=⟨_,rfl⟩
   have hC0l:C0.length=cap1*5:=by
    rw [hC0,Array.length_toList];simp only [Array.size_append,List.size_toArray,hzc,List.length_take,HXL.o]
    omega
   have hC0t:C0.take (i*5)=(Zbs L).take (i*5):=by
    rw [hC0];simp only [Array.toList_append,List.append_assoc];refine (List.take_append_of_le_length ?_).trans (List.take_of_length_le ?_)
    . simp only [List.length_take,HXL.o];omega
    . simp only [List.length_take];omega
   have hC0a:((Zbs L).take (i*5)).toArray ++ Builtin.zeroCells (.agg #[.string ⟨#[]⟩,.string ⟨#[]⟩,.string ⟨#[]⟩,.int .i64 0,.int .i64 0]:Value).cells (L.length+1 - i) ++ Builtin.zeroCells (.agg #[.string ⟨#[]⟩,.string ⟨#[]⟩,.string ⟨#[]⟩,.int .i64 0,.int .i64 0]:Value).cells (cap1 - (L.length+1))=C0.toArray:=by rw [hC0]
   rw [hC0a] at hap;obtain⟨W0,hW0⟩:∃ W0,W0=w.drew.alloc (.cells C0.toArray 94):=⟨_,rfl⟩
   rw [<- hW0] at hap;have hZg:W0.heap[w.heap.size]?=some (.cells C0.toArray 94 (0,0)):=by rw [hW0];exact heap_alloc_new w.drew _
   have hZo:∀ k,k < w.heap.size->W0.heap[k]?=w.heap[k]?:=fun k hk=>by rw [hW0];exact heap_alloc_old w.drew _ hk
   obtain⟨C1,hC1⟩:∃ C1,C1=C0.take (i*5) ++ [Value.string p.dr,.string p.tm,.string p.re,.int .i64 p.am,.int .i64 p.un] ++ C0.drop (i*5+([Value.string p.dr,.string p.tm,.string p.re,.int .i64 p.am,.int .i64 p.un]).length):=⟨_,rfl⟩
   obtain⟨hs1,hs2,hs3⟩:=Zs1 C0 (Zbs L) [Value.string p.dr,.string p.tm,.string p.re,.int .i64 p.am,.int .i64 p.un] 5 i L.length rfl HXL.o hlt hC0t (by rw [hC0l];omega) C1 hC1
   have hcp2:∀ ty dc,(Builtin.copy_ #[38,38] ty #[.slice (some ⟨w.heap.size,i*5,none⟩) (L.length+1 - i) dc,.slice (some ⟨vb,0,none⟩) 1 1]).run prog W0=.ok (goInt (1:Nat)) (W0.setRow w.heap.size C1.toArray):=fun ty dc=>by
    rw [hC1];exact Zc9 W0 _ _ ty 94 5 w.heap.size (i*5) _ dc ⟨vb,0,none⟩ 1 1 1 C0.toArray 94 _ underlying38 HSZ.o (by show min _ _=_;omega) hZg rfl (HNW.o W0 (hZo vb hvlt)) (by rw [List.size_toArray,hC0l];simp only [List.length_cons,List.length_nil];omega) (Zc8 p)
   have hdl:((Zbs L).drop (i*5)).length=(L.length - i)*5:=by rw [List.length_drop,HXL.o,Nat.sub_mul]
   have hZ1:(W0.setRow w.heap.size C1.toArray).heap[w.heap.size]?=some (.cells C1.toArray 94 (0,0)):=setRow_heap W0 _ _ _ _ _ hZg;have hZ2:∀ k,k < w.heap.size->(W0.setRow w.heap.size C1.toArray).heap[k]?=w.heap[k]?:=fun k hk=>(setRow_other W0 _ k _ (by omega)).trans (hZo k hk)
   obtain⟨C2,hC2⟩:∃ C2,C2=C1.take ((i+1)*5) ++ (Zbs L).drop (i*5) ++ C1.drop ((i+1)*5+((Zbs L).drop (i*5)).length):=⟨_,rfl⟩
   have hcp1:∀ ty dc sc,(Builtin.copy_ #[38,38] ty #[.slice (some ⟨w.heap.size,(i+1)*5,none⟩) (L.length - i) dc,.slice (some ⟨g,i*5,none⟩) (L.length - i) sc]).run prog (W0.setRow w.heap.size C1.toArray).drew=.ok (goInt (L.length - i:Nat)) ((W0.setRow w.heap.size C1.toArray).drew.setRow w.heap.size C2.toArray):=fun ty dc sc=>by
    rw [hC2]
    exact Zc9 (W0.setRow w.heap.size C1.toArray).drew _ _ ty 94 5 w.heap.size ((i+1)*5) _ dc ⟨g,i*5,none⟩ _ sc (L.length - i) C1.toArray 94 _ underlying38 HSZ.o (by show min _ _=_;omega) hZ1 hdl (fun j u hj=>by
     rw [Go.WideShapes.add_plain,HXS.o (W0.setRow w.heap.size C1.toArray).drew _ (hZ2 g hglt) (by have:=(List.getElem?_eq_some_iff.1 hj).1;rw [hdl] at this;omega)]
     rwa [List.getElem?_drop] at hj) (by rw [hdl,List.size_toArray,hs3,hC0l];omega) (fun u hu=>ZeE _ u (List.mem_of_mem_drop hu))
   rw [<- hC2] at hs1 hs2;have HS:=Zab (And.intro hs1 (And.intro hs2 hC0l));have HZ1:=Zab hZ1;have HZ2:=Zab hZ2;have hb9:¬ (cap1=i):=by omega
   have hq1:(0:Int)<=(i:Int)+1:=by omega
   have hq2:(i:Int)+1<=(L.length:Int)+1:=by omega
   have hq3:(i:Int)<=(L.length:Int)+1:=by omega
   have hq4:i<=L.length+1:=by omega
   have hb10:¬ (cap1=i+1):=by omega
   have hb11:i+1<=cap1:=by omega
   have hsW:W0.heap.size=w.heap.size+1:=by rw [hW0];simp
   have hWp:W0.os=w.os/\W0.tape=w.tape/\W0.output=w.output:=by rw [hW0];exact⟨rfl,rfl,rfl⟩
   have HWP:=Zab hWp;clear hC1 hC2 hs1 hs2 hs3 hC0 hC0l hC0t hC0a hW0 hZg hZo hZ1 hZ2 hdl hzc hWp;go_enter func173,ntmps173
   go_wp2_with (at_builtin;first
    | (refine Lib.wpList_append_run _ rfl (.tmp 34) (.tmp 39) 38 3 rfl _ _ rfl rfl _ _ (hap _) ?_)
    | (refine Zgy _ rfl (.tmp 43) (.tmp 44) 38 38 rfl _ _ rfl rfl (hcp2 _ _) ?_))
   go_region_law (refine ZeW rfl (.tmp 50) (.tmp 53) 38 38 rfl _ _ (by simp [Act.eval,Act.put]) (by simp [Act.eval,Act.put]) (hcp1 _ _ _) ?_)
   clear hcp1 hcp2 hap;go_wp2;go_ret
   have hb:Below base w ((W0.setRow w.heap.size C1.toArray).drew.setRow w.heap.size C2.toArray):=
    ⟨HWP.o.1,HWP.o.2.1,HWP.o.2.2,by simp [World.setRow];omega,fun k hk=>(setRow_other _ _ k _ (by omega)).trans (HZ2.o k (by omega))⟩
   exact⟨_,rfl,⟨by rw [HPO.o];simp only [List.length_append,List.length_take,List.length_drop,HXL.o,List.length_cons,List.length_nil];omega,Or.inr ⟨w.heap.size,cap1,_,rfl,hbase,setRow_heap _ _ _ _ _ _ HZ1.o,hcg,hcx,by rw [List.size_toArray,HS.o.2.1,HS.o.2.2],by rw [HPO.o];exact HS.o.1⟩⟩,hb⟩
def Zda (Ps:List Pu) (x:Pu):Nat:=Ps.findIdx (fun y=>decide (0<=ZbJ y x))
def Zbz (Ps:List Pu) (x:Pu):Bool:=ZgI ZbJ Ps x (Zda Ps x)
def ZrB (Ps:List Pu) (x:Pu):Int:=if Zbz Ps x=true then (match Ps[Zda Ps x]? with | some y=>y.am | none=>0) else 0
def Zgz (Ps:List Pu) (x:Pu):List Pu:=Ps.take (Zda Ps x) ++ x :: Ps.drop (Zda Ps x+(if Zbz Ps x=true then 1 else 0))
def Zc3 (Ps:List Pu) (x:Pu):List Pu:=Zgz Ps ⟨x.dr,x.tm,x.re,x.am+ZrB Ps x,x.un⟩
theorem Zma (Ps:List Pu) (x:Pu) (a u:Int):Zda Ps ⟨x.dr,x.tm,x.re,a,u⟩=Zda Ps x:=rfl
theorem Zih (Ps:List Pu) (x:Pu) (a u:Int):Zbz Ps ⟨x.dr,x.tm,x.re,a,u⟩=Zbz Ps x:=rfl
theorem Zl1 (h:Zmb ZbJ Ps x p):Zda Ps x=p:=by
 unfold Zda
 by_cases hp:p < Ps.length
 . refine (List.findIdx_eq hp).2 ⟨decide_eq_true (h.more p hp Zl_),fun j hj=>?_⟩
   have:=h.less j (by omega) hj;exact decide_eq_false (by omega)
 . have hle:=h.le
   have e:p=Ps.length:=by omega
   rw [e];refine List.findIdx_eq_length.2 fun y hy=>?_
   obtain⟨i,hi,rfl⟩:=List.getElem_of_mem hy;have:=h.less i hi (by omega);exact decide_eq_false (by omega)
theorem ZoT (h:Zmb ZbJ Ps x p) (ha:ZgI ZbJ Ps x p=false):Zc3 Ps x=Ps.take p ++ x :: Ps.drop p:=by
 have hp:=Zl1 h;have ht:Zbz Ps x=false:=by unfold Zbz;rw [hp];exact ha
 unfold Zc3 Zgz;rw [Zma,Zih,hp,ht];unfold ZrB;rw [ht];simp
theorem Zmv (h:Zmb ZbJ Ps x p) (ha:ZgI ZbJ Ps x p=true) (hl:p < Ps.length):Zc3 Ps x=Ps.set p ⟨x.dr,x.tm,x.re,x.am+Ps[p].am,x.un⟩:=by
 have hp:=Zl1 h;have ht:Zbz Ps x=true:=by unfold Zbz;rw [hp];exact ha
 unfold Zc3 Zgz;rw [Zma,Zih,hp,ht];unfold ZrB;rw [ht,hp,List.getElem?_eq_getElem hl];simp only [if_true];rw [List.set_eq_take_append_cons_drop,if_pos hl]
theorem ZlU (ha:ZgI ZbJ Ps x p=true):p < Ps.length:=by
 unfold ZgI at ha
 rcases Nat.lt_or_ge p Ps.length with h | h
 . exact h
 . rw [List.getElem?_eq_none h] at ha;simp at ha
theorem ZqU (hz:∀ i (hi:i < Ps.length),ZbB Ps[i]) {x:Pu} (hx:ZbB x) (p:Nat):∀ i (hi:i < (Ps.take p ++ x :: Ps.drop p).length),ZbB (Ps.take p ++ x :: Ps.drop p)[i]:=fun i hi=>by
 have hm:=List.getElem_mem hi;rw [List.mem_append,List.mem_cons] at hm
 rcases hm with hm | hm | hm
 . obtain⟨k,hk,e⟩:=List.getElem_of_mem (List.mem_of_mem_take hm)
   rw [<- e];exact hz k hk
 . rw [hm];exact hx
 . obtain⟨k,hk,e⟩:=List.getElem_of_mem (List.mem_of_mem_drop hm)
   rw [<- e];exact hz k hk
theorem ZaS.wide {lo hi lo' hi':Nat}{w:World} (h:ZaS lo hi w v Ps) (h1:lo'<=lo) (h2:hi<=hi'):ZaS lo' hi' w v Ps:=by
 rcases h with h | ⟨b,off,cap,c,X,e1,e2,e3,e4,e5,e6⟩
 . exact Or.inl h
 . exact Or.inr ⟨b,off,cap,c,X,e1,e2,e3,e4,e5,⟨e6.lt,Nat.le_trans h1 e6.low,e6.bc,Zk_ e6.bh h2,e6.mono,Nat.le_trans e6.top h2,e6.frz,e6.row⟩⟩
theorem ZsS (h:ZaS l0 l1 W (.slice (some ⟨b,off,none⟩) Ls.length cap) Ls) {p:Nat} (hp:p < Ls.length) (x:Pu) (hx:ZbB x) :
 ZaS l0 l1 (((((W.setCell ⟨b,off+p*5,none⟩ (.string x.dr)).setCell ⟨b,off+p*5+1,none⟩ (.string x.tm)).setCell ⟨b,off+p*5+2,none⟩ (.string x.re)).setCell ⟨b,off+p*5+3,none⟩ (.int .i64 x.am)).setCell ⟨b,off+p*5+4,none⟩ (.int .i64 x.un)) (.slice (some ⟨b,off,none⟩) Ls.length cap) (Ls.set p x)/\
 Zad l0 l1 W (((((W.setCell ⟨b,off+p*5,none⟩ (.string x.dr)).setCell ⟨b,off+p*5+1,none⟩ (.string x.tm)).setCell ⟨b,off+p*5+2,none⟩ (.string x.re)).setCell ⟨b,off+p*5+3,none⟩ (.int .i64 x.am)).setCell ⟨b,off+p*5+4,none⟩ (.int .i64 x.un)):=by
 rcases h with ⟨_,_,_,h⟩ | ⟨b',off',cap',c,X,h1,h2,h3,h4,h5,h6⟩
 . rw [h] at hp;simp at hp
 . injection h1 with e1 _ e3
   injection e1 with e1
   injection e1 with e1 e2
   subst e1 e2 e3;have hr:=h6.row p hp;rw [h5 p hp] at hr;obtain⟨hz,hc⟩:=hr;have hbc:b < c p:=Zk_ h6.bc (h6.le Zz_ (by omega))
   have hst:ZhE W b (off+p*5) (c p) (c (p+1)) W Ls[p]:=⟨ZbZ.refl _ _ _ _ _ _,hbc,hc,h6.frz,h6.lt⟩;have hs:=((((hst.s0 x.dr).s1 x.tm).s2 x.re).s3 x.am).s4 x.un;have hrow:=h6.near hp hs.near (show ZfC b (off+p*5) (c p) (c (p+1)) _ x from ⟨hx,hs.cells⟩);refine⟨Or.inr ⟨b,off,cap,c,_,by rw [List.length_set],?_,by rw [List.length_set];exact h3,by rw [List.length_set];exact h4,fun i hi=>?_,by rw [List.length_set];exact hrow⟩,hs.near.wide h6.lt (by have:=h6.low;omega) (Nat.le_trans (h6.le (by omega) Zl_) h6.top) ⟨h6.low,h6.bh⟩⟩
   . intro e
     have:=congrArg List.length e;rw [List.length_set] at this;exact h2 (List.length_eq_zero_iff.1 (by simpa using this))
   . have hi':i < Ls.length:=by rw [List.length_set] at hi;exact hi
     rw [List.getElem_set]
     by_cases ei:i=p
     . subst ei;simp
     . rw [if_neg ei,if_neg (fun h=>ei h.symm)];exact h5 i hi'
theorem Zi9 (lo:Nat) (v:Value) (L:List Pu) (w:World) (hv:ZbA lo w v L) (hn:L.length<=1048576) :
 Calls prog 167 #[v] w fun e w'=>∃ v',e=.returned v'/\Zw_ w w'/\w'.ownsRow w.heap.size 94 5 v' L.length (Zbs L):=by
 have hnil:=fun W a n c=>Lib.run_eql_slice_nil (P:=prog) W 38 94 a n c 0 0 underlying38
 obtain⟨i0,hi,hz0,hz1,hz2⟩:=info_parts Tryz.info94;have HI:=Zab (And.intro hi (And.intro hz0 (And.intro hz1 hz2)));clear hi hz0 hz1 hz2;have HV:=Zab hv;obtain⟨a,cap,rfl⟩:=hv.form;clear hv
 cases a with
 | none=>
  have hL:L=[]:=by
   rcases HV.o with ⟨_,_,_,h⟩ | ⟨_,_,_,h,_⟩
   . exact h
   . injection h with h;cases h
  subst hL;go_enter func167,ntmps167;go_wp2;go_ret;exact⟨_,rfl,Below.refl _ _,ZdO _ _ _⟩
 | some ad=>
  go_enter func167,ntmps167;go_wp2_with (at_builtin;refine wpList_append_own_at _ rfl (.tmp 5) (.tmp 6) 38 rfl w.heap.size 94 i0 (.agg #[.string ⟨#[]⟩,.string ⟨#[]⟩,.string ⟨#[]⟩,.int .i64 0,.int .i64 0]) 5 64 underlying38 HI.o.1 HI.o.2.1 HI.o.2.2.1 HI.o.2.2.2 rfl (by decide) _ 0 [] rfl (Zbr _ _ 94 5 rfl Zl_) ad L.length cap (Zbs L) rfl (Zdv _) (Zhd HV.o (Zac _ _)) (ZeE _) (by unfold maxLen;omega) (by omega) (by simp) ?_;intro v' w4 hown4 hgrow4 hnil4 hat4);rw [Nat.zero_add,List.nil_append] at hown4;have HO:=Zab hown4;have HB:Hd (Zw_ w w4):=(Zac _ _).trans (ZaP (Zbr w w.heap.size 94 5 rfl Zl_) hgrow4 (by simp));clear hown4 hgrow4 hnil4 hat4;go_wp2;go_ret;exact⟨_,rfl,HB.o,HO.o⟩
theorem ZrT (h:ZaS l0 l1 W (.slice (some ⟨b,off,none⟩) Ls.length cap) Ls) (hp:0 < Ls.length):∀ i,W.frozen? ⟨b,i,none⟩=false:=by
 rcases h with ⟨_,_,_,h⟩ | ⟨b',off',cap',c,X,h1,h2,h3,h4,h5,h6⟩
 . rw [h] at hp;simp at hp
 . injection h1 with e1 _ e3
   injection e1 with e1
   injection e1 with e1 e2
   subst e1 e2 e3;exact h6.frz
theorem ZnQ (lo:Nat) (pv:Value) (Ps:List Pu) (x:Pu) (w:World) (h:ZbA lo w pv Ps) (hn:Ps.length<=1048576) (hr:ZcN ZbJ Ps=true) (hxs:ZbB x) (hx:0<=x.am/\x.am<=1000000) (ham:∀ i (h:i < Ps.length),0<=Ps[i].am/\Ps[i].am<=1000000) :
 Calls prog 113 #[pv,.agg #[.string x.dr,.string x.tm,.string x.re,.int .i64 x.am,.int .i64 x.un]] w fun e w'=>∃ v',e=.returned v'/\Zw_ w w'/\ZaS w.heap.size w'.heap.size w' v' (Zc3 Ps x):=by
 have HV:=Zab h;have HR:=Zab hr;have HXS:=Zab hxs;have HAM:=Zab ham
 have HZ:Hd (∀ i (hi:i < Ps.length),ZbB Ps[i]):=fun i hi=>by
  obtain⟨_,_,_,_,_,_,_,hc⟩:=h.full (fun e=>by rw [e] at hi;simp at hi);exact (hc i hi).1
 clear h hr hxs ham;go_enter func113,ntmps113;go_wp2_with fail;generalize hWa:w.alloc _=Wa;have HBa:Hd (Zw_ w Wa):=by rw [<- hWa];exact Zac _ _
 have hsa:Wa.heap.size=w.heap.size+1:=by rw [<- hWa];simp
 have FB:Hd (Box Wa w.heap.size #[.string x.dr,.string x.tm,.string x.re,.int .i64 x.am,.int .i64 x.un]):=by rw [<- hWa];exact Box.new _ _ _ _ rfl
 clear hWa;refine (Zi9 lo _ Ps _ (HV.o.below HBa.o) hn).mono ?_;rintro e w1 ⟨v1,rfl,hb1,ho1⟩;obtain⟨a1,k1,rfl⟩:=ZeL ho1;have HB1:Hd (Zw_ w w1):=bt HBa.o hb1;have HO1:=Zab ho1;have hs1:=hb1.size;replace FB:=Zab (FB.o.on hb1);clear hb1 ho1 HBa;have g0:=FB.o.cell;go_wp2_with fail;clear g0;refine (ZiM Wa.heap.size _ Ps x _ (Zdw HO1.o HZ.o).at hn (Zhu ZeJ HR.o _)).mono ?_;rintro e w2 ⟨⟨p,hp,rfl⟩,hb2⟩;have HB2:Hd (Zw_ w w2):=bt HB1.o hb2;have HO2:=Zab (Below.ownsB HO1.o hb2);have HP:=Zab hp;have hs2:=hb2.size;have hpl:=hp.le;replace FB:=Zab (FB.o.on hb2);clear hb2 hp HB1 HO1
 cases hat:ZgI ZbJ Ps x p with
 | false=>
  have HF:Hd (Zc3 Ps x=_):=ZoT HP.o hat;have g0:=FB.o.cell;go_wp2_with fail;clear g0;generalize hWb:w2.alloc _=Wb;have hbb:Below w2.heap.size w2 Wb:=by rw [<- hWb];exact Zac _ _
  have hhb:Wb.heap[w2.heap.size]?=some (.cells #[.string x.dr,.string x.tm,.string x.re,.int .i64 x.am,.int .i64 x.un] 94 (0,0)):=by rw [<- hWb];exact heap_alloc_new w2 _
  have hsb:Wb.heap.size=w2.heap.size+1:=by rw [<- hWb];simp
  have hob:(Value.slice a1 Ps.length k1).ownBlock≠some w2.heap.size:=fun e=>by
   have:=(Zcv HO2.o e).1
   omega
  clear hWb;refine (Zi1 Wa.heap.size p w2.heap.size _ Ps x _ (Below.ownsB HO2.o hbb) hpl hn (by omega) hob hhb).mono ?_;rintro e w4 ⟨v',rfl,ho4,hb4⟩;have HB4:Hd (Zw_ w w4):=(bt HB2.o hbb).trans (hb4.mono (by omega));have hs4:=hb4.size
  have HO4:Hd (ZaS w.heap.size w4.heap.size w4 v' (Zc3 Ps x)):=by
   unfold Hd;rw [HF.o];have hl:(Ps.take p ++ x :: Ps.drop p).length=Ps.length+1:=by simp only [List.length_append,List.length_take,List.length_cons,List.length_drop];omega
   rw [<- hl] at ho4;exact (Zdw ho4 (ZqU HZ.o HXS.o p)).wide (by omega) Zl_
  clear ho4 hb4 hbb hhb hob;go_wp2;go_ret;exact⟨_,rfl,HB4.o,HO4.o⟩
 | true=>
  have hlt:=ZlU hat;have HF:Hd (Zc3 Ps x=_):=Zmv HP.o hat hlt;obtain⟨g,o,ha1⟩:=(Zdw HO2.o HZ.o).some (by omega);subst ha1;have HW2:Hd (ZaS Wa.heap.size w2.heap.size w2 (.slice (some ⟨g,o,none⟩) Ps.length k1) Ps):=Zdw HO2.o HZ.o;obtain⟨g',o',e',hgw,-,hc⟩:=HW2.o.at.full' (by omega);injection e' with e'
  injection e' with e1 e2
  subst e1 e2;obtain⟨_,hcl⟩:=hc p hlt;have c3:=hcl.c3;have x3:=FB.o.cell 3;have f3:=FB.o.free 3;simp at x3;have hap:=HAM.o p hlt;clear hc hcl;go_wp2_with fail
  go_cut [] from 8 (fun wc=>Zad w.heap.size (w.heap.size+1) w2 wc/\Box wc w.heap.size #[.string x.dr,.string x.tm,.string x.re,.int .i64 (x.am+Ps[p].am),.int .i64 x.un])
  case first=>
   have FS:=Zab (FB.o.set (k:=3) (.int .i64 (x.am+Ps[p].am)) (by simp))
   go_region
   all_goals go_wp2
   all_goals go_meet
   all_goals exact⟨(Zad.setB _ _ _ _).trans (Zad.below (Zb_.drew)),by simpa using FS.o.drew⟩
  case rest=>
   obtain⟨ht,hbx⟩:=hcut;have hst:=ht.size;have HPc:=Zab (HW2.o.touch ht (by omega));have FBc:=Zab hbx;have HBc:Hd (Zw_ w wc):=HB2.o.trans ((ht.under (by omega)).mono (by omega));clear ht hbx c3 x3 f3 FB HW2 HB2 HO2;obtain⟨g',o',e',hgc,-,hc⟩:=HPc.o.at.full' (by omega);injection e' with e'
   injection e' with e1 e2
   subst e1 e2;obtain⟨_,hcl⟩:=hc p hlt;obtain⟨c0,c1,c2,c3,c4⟩:=hcl;have fz:=ZrT HPc.o (by omega);have y:=FBc.o.cell;have HNW:=Zab (ZsS HPc.o hlt ⟨x.dr,x.tm,x.re,x.am+Ps[p].am,x.un⟩ ⟨HXS.o.s0,HXS.o.s1,HXS.o.s2⟩);clear hc;go_wp2;go_ret;refine⟨_,rfl,HBc.o.trans ((HNW.o.2.under (by omega)).mono (by omega)),?_⟩;rw [HF.o];have:=HNW.o.1.wide (lo':=w.heap.size) (hi':=wc.heap.size) (by omega) (by omega)
   simpa [World.setCell] using this
theorem ZlA (s:Zy_) (w:World) (hs:s.size<=maxLen):Calls prog 110 #[.string s] w fun e w'=>e=.returned (.bool (Zan s))/\w=w':=(Zao s w hs).mono fun _ _ h=>⟨h.1,h.2.symm⟩
theorem ZlD (n lo hi:Int) (w:World):Calls prog 111 #[.int .i64 n,.int .i64 lo,.int .i64 hi] w fun e w'=>e=.returned (.bool (inB lo hi n))/\w=w':=(ZaR n lo hi w).mono fun _ _ h=>⟨h.1,h.2.symm⟩
def Zdi (Ls:List Le) (d t r:Zy_) (am:Int):Bool:=Ls.any (ZbM t r)&&Zan d&&inB 1 1000000 am
def ZpB (Ls:List Le) (t r:Zy_):Int:=match Ls[(Zj3 Ls t r).toNat]? with | some x=>x.fr | none=>0
def Zqn (B:Bk) (d t r:Zy_) (am:Int):Pu:=⟨d,t,r,am,B.tick+10⟩
def Zcp (B:Bk) (d t r:Zy_) (am:Int):Bk×Int:=
 if Zdi B.ls d t r am=true then
  (if ZpB B.ls t r < am then (B,3) else if 24 < (Zc3 B.ps (Zqn B d t r am)).length then (B,4)
   else (⟨B.now,B.tick,B.given,B.os,B.gs,ZeP B.ls (Zj3 B.ls t r).toNat (-am),Zc3 B.ps (Zqn B d t r am)⟩,0))
 else (B,2)
theorem ZiB (u:FrameMode) (γ δ ε β:Nat) (c:Int) (a:Option Addr) (n k:Nat) (u6:Value) (w:World) (hc:w.cell? ⟨γ,0,none⟩=some (.int .i64 c)) (hp:w.cell? ⟨δ,0,none⟩=some (.slice a n k)) (hb:w.cell? ⟨ε,0,none⟩=some (.pointer (some ⟨β,0,none⟩))) (h6:w.cell? ⟨β,6,none⟩=some u6) (hf:w.frozen? ⟨β,6,none⟩=false) :
 CallsD prog 112 #[.pointer (some ⟨γ,0,none⟩),.pointer (some ⟨δ,0,none⟩),.pointer (some ⟨ε,0,none⟩)] u w fun e u' w'=>u'=u/\(e=.returned (.tuple #[])/\w'=if c=0 then w else w.setCell ⟨β,6,none⟩ (.slice a n k)):=by
 by_cases h0:c=0
 . subst h0
   go_enter_d func112,ntmps112
   go_wp2
   go_end0
   exact⟨rfl,rfl⟩
 . rw [if_neg h0]
   have hn:(c != 0)=true:=by simpa using h0
   go_enter_d func112,ntmps112
   go_wp2
   go_end0
   exact⟨rfl,rfl⟩
section
variable (lo β:Nat) (B:Bk) (a0 a1 a2 a3:Option Addr) (k0 k1 k2 k3:Nat) (d t r:Zy_) (am:Int) (w:World)
theorem ZjL (hX:Box w β #[.int .i64 B.now,.int .i64 B.tick,.int .i64 B.given,.slice a0 B.os.length k0,.slice a1 B.gs.length k1,.slice a2 B.ls.length k2,.slice a3 B.ps.length k3])
 (hO:Zaw lo β w (.slice a0 B.os.length k0) (.slice a1 B.gs.length k1) (.slice a2 B.ls.length k2) (.slice a3 B.ps.length k3) B) (hok:Zl0 B.ls B.ps) (ht:0<=B.tick/\B.tick<=1000000) (hlo:lo<=β) (hd:d.size<=maxLen) (htt:t.size<=maxLen) (hrr:r.size<=maxLen) :
 Calls prog 50 #[.pointer (some ⟨β,0,none⟩),.agg #[.string d,.string t,.string r,.int .i64 am,.int .i64 0]] w fun e w'=>e=.returned (.int .i64 (Zcp B d t r am).2)/\Zad lo (β+1) w w'/\∃ a9 c9,Box w' β #[.int .i64 B.now,.int .i64 B.tick,.int .i64 B.given,.slice a0 B.os.length k0,.slice a1 B.gs.length k1,.slice a2 B.ls.length k2,.slice a9 (Zcp B d t r am).1.ps.length c9]/\
  Zaw lo w'.heap.size w' (.slice a0 B.os.length k0) (.slice a1 B.gs.length k1) (.slice a2 B.ls.length k2) (.slice a9 (Zcp B d t r am).1.ps.length c9) (Zcp B d t r am).1:=by
 have hmf:∀ (fn:Fn) (first cap:Array Value) (w:World),(Instr.makeFunc fn first cap).run prog w=.ok (.func fn first cap) w:=fun _ _ _ _=>rfl
 have HX0:=Zab hX;have HO0:=Zab hO;have HOK:=Zab hok;have hlw:=hX.lt;have hnl:=hok.nl;have hnp:=hok.np;have HSD:=Zab (And.intro hd (And.intro htt hrr));clear hX hO hok hd htt hrr
 go_enter_defers func50,ntmps50
 go_wp2;generalize hWa:World.alloc (World.alloc (w.alloc _) _) _=Wa;have HBa:Hd (Zw_ w Wa):=by rw [<- hWa];exact ((Zac w _).alloc (by simp) _).alloc (by simp;omega) _
 have hsa:Wa.heap.size=w.heap.size+3:=by rw [<- hWa];simp
 have FB:Hd (Box Wa w.heap.size #[.pointer (some ⟨β,0,none⟩)]):=by rw [<- hWa];exact ((Box.new _ _ _ _ rfl).on (Zac _ _)).on (Zac _ _)
 have FP:Hd (Box Wa (w.heap.size+1) #[.string d,.string t,.string r,.int .i64 am,.int .i64 0]):=by rw [<- hWa];exact (Box.new _ _ _ _ (by simp)).on (Zac _ _)
 have FC:Hd (Box Wa (w.heap.size+2) #[.int .i64 0]):=by rw [<- hWa];exact Box.new _ _ _ _ (by simp)
 have FA:=Zab (HX0.o.on HBa.o);have HOa:=Zab (HO0.o.below HBa.o);clear hWa HX0 HO0;have HLa:=Zab HOa.o.at.les
 go_cut [5,6] from 8 (fun pv bv wc=>∃ p:Nat,pv=.int .i64 p/\bv=.bool (B.ls.any (ZbM t r))/\Zmb ZcA B.ls ⟨t,r,0,0⟩ p/\Below Wa.heap.size Wa wc)
 case first=>
  have KP:Hd (∀ W,Below Wa.heap.size Wa W->((∀ i,W.cell? ⟨w.heap.size,i,none⟩=(#[.pointer (some ⟨β,0,none⟩)]:Array Value)[i]?)/\(∀ i,W.cell? ⟨w.heap.size+1,i,none⟩=(#[.string d,.string t,.string r,.int .i64 am,.int .i64 0]:Array Value)[i]?)/\(∀ i,W.cell? ⟨β,i,none⟩=(#[.int .i64 B.now,.int .i64 B.tick,.int .i64 B.given,.slice a0 B.os.length k0,.slice a1 B.gs.length k1,.slice a2 B.ls.length k2,.slice a3 B.ps.length k3]:Array Value)[i]?)/\Hd (Below Wa.heap.size Wa W))):=fun W hW=>⟨(FB.o.on hW).cell,(FP.o.on hW).cell,(FA.o.on hW).cell,hW⟩
  clear FB FP FA FC
  go_region_held3 (fun W=>(∀ i,W.cell? ⟨w.heap.size,i,none⟩=(#[.pointer (some ⟨β,0,none⟩)]:Array Value)[i]?)/\(∀ i,W.cell? ⟨w.heap.size+1,i,none⟩=(#[.string d,.string t,.string r,.int .i64 am,.int .i64 0]:Array Value)[i]?)/\(∀ i,W.cell? ⟨β,i,none⟩=(#[.int .i64 B.now,.int .i64 B.tick,.int .i64 B.given,.slice a0 B.os.length k0,.slice a1 B.gs.length k1,.slice a2 B.ls.length k2,.slice a3 B.ps.length k3]:Array Value)[i]?)/\Hd (Below Wa.heap.size Wa W))
   (first
     | (with_reducible exact KP.o _ (Zb_.drew))
     | (exact KP.o _ HC1.o)
     | assumption)
   (first
     | (go_at_call 109
        refine (Zez lo _ B.ls t r _ (HLa.o.below (Zb_.drew)) hnl HOK.o.rl).mono ?_;rintro e w1 ⟨⟨p,hp,rfl⟩,hb1⟩;have HP:=Zab hp;have HC1:Hd (Below Wa.heap.size Wa w1):=Zb_.drew.trans (hb1.mono Zl_);clear hp hb1))
  all_goals go_wp2
  all_goals go_meet
  all_goals exact⟨p,rfl,rfl,HP.o,HC1.o⟩
 case rest=>
 revert wc;intro wd hcut;obtain⟨p,rfl,rfl,hp,hwd⟩:=hcut;have hsc:=hwd.size;replace FB:=Zab (FB.o.on hwd);replace FP:=Zab (FP.o.on hwd);replace FC:=Zab (FC.o.on hwd);replace FA:=Zab (FA.o.on hwd);have HOc:=Zab (HOa.o.below hwd);have HBc:Hd (Zw_ w wd):=bt HBa.o hwd;have HSP:=Zab hp;clear hwd hp HBa HLa HOa
 by_cases hask:Zdi B.ls d t r am=true
 case neg=>
  have HDP:Hd (Zcp B d t r am=(B,2)):=by unfold Hd Zcp;rw [if_neg hask]
  have p0:=FP.o.cell;have c0:=FC.o.cell;have f0:=FC.o.free
  have HFIN:Hd (Zad lo (β+1) w (wd.setCell ⟨w.heap.size+1+1,0,none⟩ (.int .i64 2))/\∃ a9 c9,Box (wd.setCell ⟨w.heap.size+1+1,0,none⟩ (.int .i64 2)) β #[.int .i64 B.now,.int .i64 B.tick,.int .i64 B.given,.slice a0 B.os.length k0,.slice a1 B.gs.length k1,.slice a2 B.ls.length k2,.slice a9 B.ps.length c9]/\Zaw lo (wd.setCell ⟨w.heap.size+1+1,0,none⟩ (.int .i64 2)).heap.size (wd.setCell ⟨w.heap.size+1+1,0,none⟩ (.int .i64 2)) (.slice a0 B.os.length k0) (.slice a1 B.gs.length k1) (.slice a2 B.ls.length k2) (.slice a9 B.ps.length c9) B):=
   ⟨Zad.below (HBc.o.setCell (by dsimp;omega) _),_,_,FA.o.setFar (by dsimp;omega) _,(HOc.o.touch (Zad.setB _ _ _ _) (by omega)).wide Zl_ (by simp [World.setCell];omega)⟩
  unfold Zdi at hask
  cases h1:B.ls.any (ZbM t r) with
  | false=>
   go_wp2;exact⟨.int .i64 2,by simp [results,results50,go_sem,c0],by rw [HDP.o];exact⟨rfl,HFIN.o⟩⟩
  | true=>
   cases h2:Zan d with
   | false=>
    rw [h1,h2] at hask;go_wp2_with (first|(go_at_call 110;refine (ZlA _ _ HSD.o.1).mono ?_;rintro e w' ⟨rfl,rfl⟩)|(go_at_call 111;refine (ZlD _ _ _ _).mono ?_;rintro e w' ⟨rfl,rfl⟩));exact⟨.int .i64 2,by simp [results,results50,go_sem,c0],by rw [HDP.o];exact⟨rfl,HFIN.o⟩⟩
   | true=>
    have h3:inB 1 1000000 am=false:=by
     rw [h1,h2] at hask
     simpa using hask
    go_wp2_with (first|(go_at_call 110;refine (ZlA _ _ HSD.o.1).mono ?_;rintro e w' ⟨rfl,rfl⟩)|(go_at_call 111;refine (ZlD _ _ _ _).mono ?_;rintro e w' ⟨rfl,rfl⟩));exact⟨.int .i64 2,by simp [results,results50,go_sem,c0],by rw [HDP.o];exact⟨rfl,HFIN.o⟩⟩
 have hany:B.ls.any (ZbM t r)=true:=by unfold Zdi at hask;simp only [Bool.and_eq_true] at hask;exact hask.1.1
 have hnm:Zan d=true:=by unfold Zdi at hask;simp only [Bool.and_eq_true] at hask;exact hask.1.2
 have hin:inB 1 1000000 am=true:=by unfold Zdi at hask;simp only [Bool.and_eq_true] at hask;exact hask.2
 have ham:1<=am/\am<=1000000:=by have:=hin;rw [ZdM] at this;simpa using this
 obtain⟨hpl,e1,e2⟩:=ZqC HOK.o.rl HSP.o hany;have hkp:Zj3 B.ls t r=p:=ZqK HOK.o.rl hpl e1 e2;have hfr:ZpB B.ls t r=B.ls[p].fr:=by unfold ZpB;rw [hkp,Int.toNat_natCast,List.getElem?_eq_getElem hpl]
 have HDP:Hd (Zcp B d t r am=if B.ls[p].fr < am then (B,3) else if 24 < (Zc3 B.ps ⟨d,t,r,am,B.tick+10⟩).length then (B,4) else (⟨B.now,B.tick,B.given,B.os,B.gs,ZeP B.ls p (-am),Zc3 B.ps ⟨d,t,r,am,B.tick+10⟩⟩,0)):=by
  unfold Hd Zcp Zqn;rw [if_pos hask,hfr,hkp,Int.toNat_natCast]
 have hwt:IntKind.wrap .i64 (B.tick+10)=B.tick+10:=by rw [IntKind.wrap_i64];omega
 clear hask e1 e2 hkp hfr HSP;rw [hany];have p0:=FP.o.cell;have b0:=FB.o.cell;have x0:=FA.o.cell;have hl0:=FB.o.lt;have hl1:=FP.o.lt;have hl2:=FA.o.lt;have b1:∀ o i,(wd.alloc o).cell? ⟨w.heap.size,i,none⟩=_:=fun o i=>(Zai _ _ _ _ hl0).trans (b0 i)
 have x1:∀ o i,(wd.alloc o).cell? ⟨β,i,none⟩=_:=fun o i=>(Zai _ _ _ _ hl2).trans (x0 i)
 have p1:∀ o i,(wd.alloc o).cell? ⟨w.heap.size+1,i,none⟩=_:=fun o i=>(Zai _ _ _ _ hl1).trans (p0 i)
 have f1:∀ o i,(wd.alloc o).frozen? ⟨w.heap.size+1,i,none⟩=false:=fun o i=>(FP.o.on (Zac wd o)).free i
 go_wp2_with (first|(go_at_call 110;refine (ZlA _ _ HSD.o.1).mono ?_;rintro e w' ⟨rfl,rfl⟩)|(go_at_call 111;refine (ZlD _ _ _ _).mono ?_;rintro e w' ⟨rfl,rfl⟩));clear b0 b1 x0 x1 p0 p1 f1 hl0 hl1 hl2 hany hnm hin;generalize hWd:World.alloc (wd.setCell _ _) _=Wd;have hsz0:(wd.setCell ⟨w.heap.size+1,4,none⟩ (.int .i64 (B.tick+10))).heap.size=wd.heap.size:=by simp [World.setCell]
 have hsd:Wd.heap.size=wd.heap.size+1:=by rw [<- hWd];simp [World.setCell]
 have HBd:Hd (Zw_ w Wd):=by rw [<- hWd];exact (HBc.o.setCell (by dsimp;omega) _).alloc (by rw [hsz0];omega) _
 have FB:Hd (Box Wd w.heap.size #[.pointer (some ⟨β,0,none⟩)]):=by rw [<- hWd];exact (FB.o.setFar (by dsimp;omega) _).on (Zac _ _)
 have FPs:=FP.o.set (k:=4) (.int .i64 (B.tick+10)) (by simp);have FP:Hd (Box Wd (w.heap.size+1) #[.string d,.string t,.string r,.int .i64 am,.int .i64 (B.tick+10)]):=by rw [<- hWd];exact Box.on (by simpa using FPs) (Zac _ _)
 have FC:Hd (Box Wd (w.heap.size+2) #[.int .i64 0]):=by rw [<- hWd];exact (FC.o.setFar (by dsimp;omega) _).on (Zac _ _)
 have FE:Hd (Box Wd wd.heap.size #[.slice a3 B.ps.length k3]):=by rw [<- hWd];exact Box.new _ _ _ _ hsz0
 have FA:Hd (Box Wd β #[.int .i64 B.now,.int .i64 B.tick,.int .i64 B.given,.slice a0 B.os.length k0,.slice a1 B.gs.length k1,.slice a2 B.ls.length k2,.slice a3 B.ps.length k3]):=by rw [<- hWd];exact (FA.o.setFar (by dsimp;omega) _).on (Zac _ _)
 have HOd:Hd (Zaw lo β Wd (.slice a0 B.os.length k0) (.slice a1 B.gs.length k1) (.slice a2 B.ls.length k2) (.slice a3 B.ps.length k3) B):=by rw [<- hWd];exact (HOc.o.touch (Zad.setB _ _ _ _) (by omega)).below (Zac _ _)
 clear hWd FPs HBc HOc hsz0;have HPd:=Zab HOd.o.at.pus
 go_cut [] from 8 (fun wq=>∃ v',Zad β (β+1) Wd wq/\Box wq β #[.int .i64 B.now,.int .i64 B.tick,.int .i64 B.given,.slice a0 B.os.length k0,.slice a1 B.gs.length k1,.slice a2 B.ls.length k2,v']/\ZaS Wd.heap.size wq.heap.size wq v' (Zc3 B.ps ⟨d,t,r,am,B.tick+10⟩))
 case first=>
  have KP:Hd (∀ W,Below Wd.heap.size Wd W->(∀ i,W.cell? ⟨w.heap.size,i,none⟩=(#[.pointer (some ⟨β,0,none⟩)]:Array Value)[i]?)/\(∀ i,W.cell? ⟨w.heap.size+1,i,none⟩=(#[.string d,.string t,.string r,.int .i64 am,.int .i64 (B.tick+10)]:Array Value)[i]?)/\(∀ i,W.cell? ⟨wd.heap.size,i,none⟩=(#[.slice a3 B.ps.length k3]:Array Value)[i]?)):=fun W hW=>⟨(FB.o.on hW).cell,(FP.o.on hW).cell,(FE.o.on hW).cell⟩
  have KQ:Hd (∀ (W0:World) (u:Value),Below Wd.heap.size Wd W0->(fun W=>(∀ i,W.cell? ⟨w.heap.size,i,none⟩=(#[.pointer (some ⟨β,0,none⟩)]:Array Value)[i]?)/\(∀ i,W.cell? ⟨w.heap.size+1,i,none⟩=(#[.string d,.string t,.string r,.int .i64 am,.int .i64 (B.tick+10)]:Array Value)[i]?)/\(∀ i,W.cell? ⟨wd.heap.size,i,none⟩=(#[.slice a3 B.ps.length k3]:Array Value)[i]?)) (W0.setCell ⟨β,6,none⟩ u)):=fun W0 u hW=>⟨((FB.o.on hW).setFar (by dsimp;omega) u).cell,((FP.o.on hW).setFar (by dsimp;omega) u).cell,((FE.o.on hW).setFar (by dsimp;omega) u).cell⟩
  clear FB FP FE FC
  go_region_held3 (fun W=>(∀ i,W.cell? ⟨w.heap.size,i,none⟩=(#[.pointer (some ⟨β,0,none⟩)]:Array Value)[i]?)/\(∀ i,W.cell? ⟨w.heap.size+1,i,none⟩=(#[.string d,.string t,.string r,.int .i64 am,.int .i64 (B.tick+10)]:Array Value)[i]?)/\(∀ i,W.cell? ⟨wd.heap.size,i,none⟩=(#[.slice a3 B.ps.length k3]:Array Value)[i]?))
   (first
     | (with_reducible exact KP.o _ (Zb_.drew))
     | (exact KP.o _ HC1.o)
     | (exact KQ.o _ _ HC1.o)
     | assumption)
   (first
     | (go_at_call 113
        refine (ZnQ lo _ B.ps ⟨d,t,r,am,B.tick+10⟩ _ (HPd.o.below (Zb_.drew)) hnp HOK.o.rp ⟨HSD.o.1,HSD.o.2.1,HSD.o.2.2⟩ ⟨by show (0:Int)<=am;omega,by show am<=1000000;omega⟩ HOK.o.am).mono ?_;rintro e w4 ⟨v4,rfl,hb4,ho4⟩;obtain⟨a9,c9,rfl⟩:=ho4.form;have HP4:=Zab ho4;have HC1:Hd (Below Wd.heap.size Wd w4):=Zb_.drew.trans (hb4.mono Zl_);have FA4:=Zab (FA.o.on HC1.o);have x6:=FA4.o.cell 6;have f6:=FA4.o.free 6;simp at x6;clear ho4 hb4))
  all_goals go_wp2
  all_goals go_meet
  all_goals exact⟨.slice a9 (Zc3 B.ps ⟨d,t,r,am,B.tick+10⟩).length c9,(Zad.below HC1.o).trans (Zad.setB _ _ _ _),FA4.o.set (k:=6) (.slice a9 (Zc3 B.ps ⟨d,t,r,am,B.tick+10⟩).length c9) (by simp),(HP4.o.touch (Zad.setB _ _ _ _) (by simp;omega)).wide (by simp) (by simp [World.setCell])⟩
 case rest=>
 revert wc;intro wq hcut;obtain⟨v9,htq,hbq,hpq⟩:=hcut;obtain⟨a9,c9,rfl⟩:=hpq.form;have hsq:=htq.size;replace FB:=Zab (FB.o.touch htq (by omega));replace FP:=Zab (FP.o.touch htq (by omega));replace FC:=Zab (FC.o.touch htq (by omega));replace FE:=Zab (FE.o.touch htq (by omega));have FQ:=Zab hbq;have HOq:=Zab (HOd.o.touch htq (Or.inl Zl_));have HPq:=Zab hpq;have HTq:Hd (Zad lo (β+1) w wq):=(Zad.below HBd.o).trans (htq.wide hlo Zl_);have hsw:w.heap.size+3<=Wd.heap.size:=by omega
 obtain⟨lb,lf,hla,hlbw,-,hlc⟩:=HOq.o.at.les.full' (by omega);subst hla;obtain⟨_,hcl⟩:=hlc p hpl;have c3:=hcl.c3;have b0:=FB.o.cell;have x5:=FQ.o.cell 5;have p3:=FP.o.cell 3;simp at x5 p3;clear htq hbq hpq hcl hlc HPd HOd HBd FA;go_wp2
 go_quiet (fail)
 have hbn:Below wq.heap.size wq (wq.drewN nq):=below_drewN Zb_ nq;replace FB:=Zab (FB.o.on hbn);replace FP:=Zab (FP.o.on hbn);replace FC:=Zab (FC.o.on hbn);replace FE:=Zab (FE.o.on hbn);replace FQ:=Zab (FQ.o.on hbn);replace HOq:=Zab (HOq.o.below hbn);replace HPq:=Zab (HPq.o.below hbn);replace HTq:=Zab (HTq.o.trans (Zad.below hbn));have hsn:=hbn.size;clear hbn c3 b0 x5 p3 hlbw;generalize wq.drewN nq=Wn at*;have c0:=FC.o.cell;have f0:=FC.o.free
 by_cases hlt:B.ls[p].fr < am
 . have HDC:Hd (Zcp B d t r am=(B,3)):=by unfold Hd;rw [HDP.o,if_pos hlt]
   go_wp2;have FCs:=(FC.o.set (k:=0) (.int .i64 3) (by simp));have FEs:=FE.o.setFar (p:=⟨w.heap.size+2,0,none⟩) (by dsimp;omega) (.int .i64 3);have FBs:=FB.o.setFar (p:=⟨w.heap.size+2,0,none⟩) (by dsimp;omega) (.int .i64 3);have FQs:=FQ.o.setFar (p:=⟨w.heap.size+2,0,none⟩) (by dsimp;omega) (.int .i64 3);refine leaves_cons (f:=112) (args:=#[.pointer (some ⟨w.heap.size+1+1,0,none⟩),.pointer (some ⟨wd.heap.size,0,none⟩),.pointer (some ⟨w.heap.size,0,none⟩)]) (by simp) (by simp [go_sem]) ?_;refine (ZiB .returning _ _ _ β 3 a3 B.ps.length k3 _ _ (FCs.cell 0) (FEs.cell 0) (FBs.cell 0) (FQs.cell 6) (FQs.free 6)).mono ?_;rintro e u' w'' ⟨rfl,rfl,rfl⟩;rw [if_neg (by decide)];have FQt:=FQs.set (k:=6) (.slice a3 B.ps.length k3) (by simp);have c1:=(FCs.setFar (p:=⟨β,6,none⟩) (by dsimp;omega) (.slice a3 B.ps.length k3)).cell 0
   refine⟨.int .i64 3,by simp [results,results50,go_sem,c1],?_⟩;rw [HDC.o];exact⟨rfl,(HTq.o.onB ((Below.refl w.heap.size Wn).setCell (by dsimp;omega) _)).trans ((Zad.setB β _ _ _).wide hlo Zl_),a3,k3,FQt,(((HOq.o.touch (Zad.setB (w.heap.size+2) _ _ _) (by omega)).touch (Zad.setB β _ _ _) (Or.inl Zl_)).wide Zl_ (by simp [World.setCell];omega))⟩
 . have b0:=FB.o.cell
   have x6:=FQ.o.cell 6;simp at x6
   by_cases hmany:24 < (Zc3 B.ps ⟨d,t,r,am,B.tick+10⟩).length
   . have HDC:Hd (Zcp B d t r am=(B,4)):=by unfold Hd;rw [HDP.o,if_neg hlt,if_pos hmany]
     have hmI:(24:Int) < ((Zc3 B.ps ⟨d,t,r,am,B.tick+10⟩).length:Int):=by omega
     go_wp2;have FCs:=(FC.o.set (k:=0) (.int .i64 4) (by simp));have FEs:=FE.o.setFar (p:=⟨w.heap.size+2,0,none⟩) (by dsimp;omega) (.int .i64 4);have FBs:=FB.o.setFar (p:=⟨w.heap.size+2,0,none⟩) (by dsimp;omega) (.int .i64 4);have FQs:=FQ.o.setFar (p:=⟨w.heap.size+2,0,none⟩) (by dsimp;omega) (.int .i64 4);refine leaves_cons (f:=112) (args:=#[.pointer (some ⟨w.heap.size+1+1,0,none⟩),.pointer (some ⟨wd.heap.size,0,none⟩),.pointer (some ⟨w.heap.size,0,none⟩)]) (by simp) (by simp [go_sem]) ?_;refine (ZiB .returning _ _ _ β 4 a3 B.ps.length k3 _ _ (FCs.cell 0) (FEs.cell 0) (FBs.cell 0) (FQs.cell 6) (FQs.free 6)).mono ?_;rintro e u' w'' ⟨rfl,rfl,rfl⟩;rw [if_neg (by decide)];have FQt:=FQs.set (k:=6) (.slice a3 B.ps.length k3) (by simp);have c1:=(FCs.setFar (p:=⟨β,6,none⟩) (by dsimp;omega) (.slice a3 B.ps.length k3)).cell 0
     refine⟨.int .i64 4,by simp [results,results50,go_sem,c1],?_⟩;rw [HDC.o];exact⟨rfl,(HTq.o.onB ((Below.refl w.heap.size Wn).setCell (by dsimp;omega) _)).trans ((Zad.setB β _ _ _).wide hlo Zl_),a3,k3,FQt,(((HOq.o.touch (Zad.setB (w.heap.size+2) _ _ _) (by omega)).touch (Zad.setB β _ _ _) (Or.inl Zl_)).wide Zl_ (by simp [World.setCell];omega))⟩
   . have HDC:Hd (Zcp B d t r am=(⟨B.now,B.tick,B.given,B.os,B.gs,ZeP B.ls p (-am),Zc3 B.ps ⟨d,t,r,am,B.tick+10⟩⟩,0)):=by unfold Hd;rw [HDP.o,if_neg hlt,if_neg hmany]
     have hmI:¬ ((24:Int) < ((Zc3 B.ps ⟨d,t,r,am,B.tick+10⟩).length:Int)):=by omega
     obtain⟨o0,o1,g0,g1,l0,l1,q0,q1,ha,hOo,hGo,hLo,-⟩:=HOq.o;have HAP:=Zab ha;have HOo:=Zab hOo;have HGo:=Zab hGo;have HLo:=Zab hLo;obtain⟨lb',lf',e',hlw,-,hc⟩:=hLo.at.full' (by omega);injection e' with e'
     injection e' with e1 e2
     subst e1 e2;obtain⟨_,hcl⟩:=hc p hpl;have c3:=hcl.c3;have fz:=hLo.frz (by omega);have hfp:=HOK.o.fr' p hpl;have HFR:=Zab (hLo.free hpl (-am));clear ha hOo hGo hLo hc hcl;have p3:=FP.o.cell 3;have x5:=FQ.o.cell 5;simp at p3 x5;have hws:IntKind.wrap .i64 (B.ls[p].fr - am)=B.ls[p].fr - am:=by rw [IntKind.wrap_i64];omega
     go_wp2;have hsub:B.ls[p].fr - am=B.ls[p].fr+ -am:=Int.sub_eq_add_neg
     go_cut [] from 8 (fun wc=>Zad l0 l1 Wn wc/\ZaW l0 l1 wc (.slice (some ⟨lb,lf,none⟩) B.ls.length k2) (ZeP B.ls p (-am)))
     case first=>
      rw [<- hsub] at HFR
      go_region
      all_goals go_wp2
      all_goals go_meet
      all_goals exact⟨HFR.o.2.trans (Zad.below (Zb_.drew)),HFR.o.1.below (Zb_.drew)⟩
     case rest=>
      obtain⟨htz,hlz⟩:=hcut;have hA:=HAP.o;obtain⟨⟨y1,y2⟩,⟨y3,y4⟩,⟨y5,y6⟩,⟨y7,y8⟩,yog,yol,yop,ygl,ygp,ylp⟩:=hA;have hsz:=htz.size;have FCz:=Zab (FC.o.touch htz (by omega));have FEz:=Zab (FE.o.touch htz (by omega));have FBz:=Zab (FB.o.touch htz (by omega));have FQz:=Zab (FQ.o.touch htz (by omega));have HOz:=Zab (HOo.o.touch htz (by omega));have HGz:=Zab (HGo.o.touch htz (by omega));have HPz:=Zab (HPq.o.touch htz (by omega));have HLz:=Zab hlz;have HTz:Hd (Zad lo (β+1) w wc):=HTq.o.trans (htz.wide (by omega) (by omega));clear htz hlz c3 fz p3 x5 x6 b0 c0 f0 FC FE FB FQ HOo HGo HPq HLo HTq HFR FP;have c0:=FCz.o.cell;have f0:=FCz.o.free;go_wp2;clear c0 f0;have FCs:=(FCz.o.set (k:=0) (.int .i64 0) (by simp));have FEs:=FEz.o.setFar (p:=⟨w.heap.size+2,0,none⟩) (by dsimp;omega) (.int .i64 0)
      have FBs:=FBz.o.setFar (p:=⟨w.heap.size+2,0,none⟩) (by dsimp;omega) (.int .i64 0);have FQs:=FQz.o.setFar (p:=⟨w.heap.size+2,0,none⟩) (by dsimp;omega) (.int .i64 0);refine leaves_cons (f:=112) (args:=#[.pointer (some ⟨w.heap.size+1+1,0,none⟩),.pointer (some ⟨wd.heap.size,0,none⟩),.pointer (some ⟨w.heap.size,0,none⟩)]) (by simp) (by simp [go_sem]) ?_;refine (ZiB .returning _ _ _ β 0 a3 B.ps.length k3 _ _ (FCs.cell 0) (FEs.cell 0) (FBs.cell 0) (FQs.cell 6) (FQs.free 6)).mono ?_;rintro e u' w'' ⟨rfl,rfl,rfl⟩;rw [if_pos rfl];have c1:=FCs.cell 0;refine⟨.int .i64 0,by simp [results,results50,go_sem,c1],?_⟩;rw [HDC.o];have ht2:Zad (w.heap.size+2) (w.heap.size+2+1) wc (wc.setCell ⟨w.heap.size+2,0,none⟩ (.int .i64 0)):=Zad.setB _ _ _ _
      refine⟨rfl,HTz.o.onB ((Below.refl w.heap.size wc).setCell (by dsimp;omega) _),a9,c9,FQs,o0,o1,g0,g1,l0,l1,Wd.heap.size,wq.heap.size,⟨⟨y1,by simp [World.setCell];omega⟩,⟨y3,by simp [World.setCell];omega⟩,⟨y5,by simp [World.setCell];omega⟩,⟨by omega,by simp [World.setCell];omega⟩,yog,yol,by omega,ygl,by omega,by omega⟩,HOz.o.touch ht2 (by omega),HGz.o.touch ht2 (by omega),HLz.o.touch ht2 (by omega),HPz.o.touch ht2 (by omega)⟩
end
theorem Zfl (hr:ZcN ZbJ Ps=true) (x:Pu):Zmb ZbJ Ps x (Zda Ps x):=by
 have hri:=Zhu ZeJ hr x
 have hat:∀ h:Zda Ps x < Ps.length,0<=ZbJ Ps[Zda Ps x] x:=fun h=>by
  have:=List.findIdx_getElem (p:=fun y=>decide (0<=ZbJ y x)) (xs:=Ps) (w:=h);exact of_decide_eq_true this
 refine⟨List.findIdx_le_length,fun i hi hip=>?_,fun i hi hip=>?_⟩
 . have:=List.not_of_lt_findIdx (p:=fun y=>decide (0<=ZbJ y x)) (xs:=Ps) hip
   simp only [decide_eq_false_iff_not] at this;have h2:¬ (0<=ZbJ Ps[i] x):=by simpa using this
   omega
 . rcases Nat.lt_or_ge (Zda Ps x) i with h | h
   . have h1:=hat (by omega)
     by_cases h2:ZbJ Ps[i] x < 0
     . have:=hri (Zda Ps x) i (by omega) hi h h2
       omega
     . omega
   . have e:i=Zda Ps x:=by omega
     subst e;exact hat hi
def Za9 (Ps:List Pu) (x:Pu) (k:Nat):List Pu:=if k<=Zda Ps x then Ps.take k else Ps.take (Zda Ps x) ++ x :: (Ps.take k).drop (Zda Ps x+(if Zbz Ps x=true then 1 else 0))
theorem Zp3 (h:k < Zda Ps x) (hk:k < Ps.length):Za9 Ps x (k+1)=Za9 Ps x k ++ [Ps[k]]:=by
 unfold Za9;rw [if_pos (by omega),if_pos (by omega),List.take_succ_eq_append_getElem hk]
theorem Zpo (h:Zda Ps x < k) (hk:k < Ps.length):Za9 Ps x (k+1)=Za9 Ps x k ++ [Ps[k]]:=by
 unfold Za9;have hd:(if Zbz Ps x=true then 1 else 0)<=1:=by split <;> omega
 generalize (if Zbz Ps x=true then 1 else 0)=δ at hd |-;rw [if_neg (by omega),if_neg (by omega),List.take_succ_eq_append_getElem hk,List.drop_append_of_le_length (by rw [List.length_take];omega)];simp
theorem ZrR (hk:Zda Ps x < Ps.length):Za9 Ps x (Zda Ps x+1)=Za9 Ps x (Zda Ps x) ++ (if Zbz Ps x=true then [x] else [x,Ps[Zda Ps x]]):=by
 unfold Za9;rw [if_neg (by omega),if_pos Zl_]
 cases Zbz Ps x with
 | true=>simp only [if_true];rw [List.drop_of_length_le (by rw [List.length_take];omega)]
 | false=>
  simp only [Bool.false_eq_true,if_false,Nat.add_zero];rw [List.take_succ_eq_append_getElem hk,List.drop_append,List.drop_of_length_le (by rw [List.length_take];omega),List.length_take,Nat.min_eq_left (by omega),Nat.sub_self];simp
theorem ZqD (h:Zda Ps x < Ps.length):Za9 Ps x Ps.length=Zgz Ps x:=by
 unfold Za9 Zgz;rw [if_neg (by omega),List.take_of_length_le Zl_]
theorem ZpO (h:Zda Ps x=Ps.length):Za9 Ps x Ps.length ++ [x]=Zgz Ps x:=by
 unfold Za9 Zgz;rw [if_pos (by omega),h,List.drop_of_length_le (by split <;> omega)]
theorem ZqB (Ps:List Pu) (x:Pu) (k:Nat) (hk:k<=Ps.length):(Za9 Ps x k).length<=k+1:=by
 unfold Za9
 split
 . rw [List.length_take];omega
 . simp only [List.length_append,List.length_take,List.length_cons,List.length_drop]
   omega
theorem Zmn (hz:∀ i (hi:i < Ps.length),ZbB Ps[i]) {x:Pu} (hx:ZbB x):∀ i (hi:i < (Zgz Ps x).length),ZbB (Zgz Ps x)[i]:=fun i hi=>by
 have hm:=List.getElem_mem hi;have hm':(Zgz Ps x)[i] ∈ Ps.take (Zda Ps x) ++ x :: Ps.drop (Zda Ps x+(if Zbz Ps x=true then 1 else 0)):=hm;rw [List.mem_append,List.mem_cons] at hm'
 rcases hm' with hm | hm | hm
 . obtain⟨k,hk,e⟩:=List.getElem_of_mem (List.mem_of_mem_take hm)
   rw [<- e];exact hz k hk
 . rw [hm];exact hx
 . obtain⟨k,hk,e⟩:=List.getElem_of_mem (List.mem_of_mem_drop hm)
   rw [<- e];exact hz k hk
theorem Znq (_hr:ZcN ZbJ Ps=true) (x:Pu) (hk:Zda Ps x < Ps.length):Zbz Ps x=decide (ZbJ Ps[Zda Ps x] x=0):=by
 unfold Zbz ZgI;rw [List.getElem?_eq_getElem hk]
theorem Zq8 (hr:ZcN ZbJ Ps=true) {x:Pu} {k:Nat} (h:Zda Ps x < k) (hk:k < Ps.length):0 < ZbJ Ps[k] x:=by
 have hs:=Zfl hr x;have h1:=hs.more k hk (by omega)
 by_cases h2:0 < ZbJ Ps[k] x
 . exact h2
 . exfalso
   have e:ZbJ Ps[k] x=0:=by omega
   have h3:=ZgM ZeJ hr (i:=Zda Ps x) (j:=k) (by omega) hk h;have h4:=hs.more (Zda Ps x) (by omega) Zl_;obtain⟨e1,e2,e3⟩:=Zhp.1 e;unfold ZbJ at h3 h4;rw [e1,e2,e3] at h3
   omega
structure ZjY (w wr:World) (x:Pu) (v:Value) (F:List Pu):Prop where
 bel:Zw_ w wr
 box:Box wr w.heap.size #[.string x.dr,.string x.tm,.string x.re,.int .i64 x.am,.int .i64 x.un]
 own:wr.ownsRow (w.heap.size+1) 94 5 v F.length (Zbs F)
theorem ZjY.below {w:World} (h:ZjY w wr x v F) (hb:Below wr.heap.size wr wr'):ZjY w wr' x v F:=⟨bt h.bel hb,h.box.on hb,Below.ownsB h.own hb⟩
theorem ZjY.grown {w:World}{v':Value} (h:ZjY w wr x v F) (hb:Below (w.heap.size+1) wr wr') (y:Pu) (ho:wr'.ownsRow (w.heap.size+1) 94 5 v' (F.length+1) (Zbs F ++ [.string y.dr,.string y.tm,.string y.re,.int .i64 y.am,.int .i64 y.un])):ZjY w wr' x v' (F ++ [y]):=
 ⟨h.bel.trans (hb.mono (by omega)),h.box.below hb (by omega),by rw [ZgK,List.length_append];exact ho⟩
theorem ZkD (lo:Nat) (pv:Value) (Ps:List Pu) (x:Pu) (w:World) (h:ZbA lo w pv Ps) (hn:Ps.length<=1048576) (hr:ZcN ZbJ Ps=true) (hx:ZbB x) :
 Calls prog 40 #[pv,.agg #[.string x.dr,.string x.tm,.string x.re,.int .i64 x.am,.int .i64 x.un]] w fun e w'=>∃ v',e=.returned v'/\Zw_ w w'/\ZaS w.heap.size w'.heap.size w' v' (Zgz Ps x):=by
 obtain⟨i0,hi,hz0,hz1,hz2⟩:=info_parts Tryz.info94;have HI:=Zab (And.intro hi (And.intro hz0 (And.intro hz1 hz2)));clear hi hz0 hz1 hz2;have HV:=Zab h;have HR:=Zab hr;have HX:=Zab hx
 have HZ:Hd (∀ i (hi:i < Ps.length),ZbB Ps[i]):=fun i hi=>by
  obtain⟨_,_,_,_,_,_,_,hc⟩:=h.full (fun e=>by rw [e] at hi;simp at hi);exact (hc i hi).1
 have HSP:=Zab (Zfl hr x);have hpl:=(Zfl hr x).le;obtain⟨a,cap,rfl⟩:=h.form;clear h hr hx;have HS0:Hd (∀ t,ZjY w ((w.alloc (.cells #[.string x.dr,.string x.tm,.string x.re,.int .i64 x.am,.int .i64 x.un] t)).alloc (.cells #[] 94)) x (.slice (some ⟨w.heap.size+1,0,none⟩) 0 0) []):=fun t=>⟨(Zac _ _).alloc (by simp) _,(Box.new _ _ _ _ rfl).on (Zac _ _),Zbr _ _ _ 5 (by simp) Zl_⟩
 go_enter func40,ntmps40;go_wp2
 go_loopw [5,6,7] (fun v b i wr=>∃ (k:Nat),i=.int .i64 k/\k<=Ps.length/\b=.bool (decide (Zda Ps x < k))/\ZjY w wr x v (Za9 Ps x k)) (fun _ _ i _=>Ps.length - (intOf i).toNat)
 case atStart=>exact⟨0,rfl,by omega,by simp,by simpa [Za9] using HS0.o _⟩
 case round=>
  obtain⟨k,rfl,hk,rfl,hst⟩:=hrel;have HST:=Zab hst;obtain⟨va,vcap,rfl⟩:=ZeL hst.own;have hFl:=ZqB Ps x k hk;have hsz:=hst.bel.size;have hbl:=hst.box.lt;clear hst HS0
  by_cases hlt:k < Ps.length
  . obtain⟨rb,ro,hra,hrb,-,hrc⟩:=HV.o.full' (by omega)
    subst hra;obtain⟨_,hcell⟩:=hrc k hlt;have HCW:=Zab hcell;have hcell':=hcell.below HST.o.bel hrb;have HCL:=Zab hcell';obtain⟨c0,c1,c2,c3,c4⟩:=hcell';clear hrc hcell;have hrw:rb < wr.heap.size:=by omega
    have KP:Hd (∀ W,Below wr.heap.size wr W->((∀ i,W.cell? ⟨w.heap.size,i,none⟩=(#[.string x.dr,.string x.tm,.string x.re,.int .i64 x.am,.int .i64 x.un]:Array Value)[i]?)/\Zcd W rb (ro+k*5) Ps[k]/\W.cell? ⟨rb,ro+k*5,none⟩=some (.string Ps[k].dr)/\W.cell? ⟨rb,ro+k*5+1,none⟩=some (.string Ps[k].tm)/\W.cell? ⟨rb,ro+k*5+2,none⟩=some (.string Ps[k].re)/\W.cell? ⟨rb,ro+k*5+3,none⟩=some (.int .i64 Ps[k].am)/\W.cell? ⟨rb,ro+k*5+4,none⟩=some (.int .i64 Ps[k].un))):=fun W hW=>by
     have hq:=HCL.o.below hW hrw;exact⟨(HST.o.box.on hW).cell,hq,hq.c0,hq.c1,hq.c2,hq.c3,hq.c4⟩
    clear c0 c1 c2 c3 c4
    rcases Nat.lt_trichotomy k (Zda Ps x) with hkp | hkp | hkp
    . have hneg:Zfu Ps[k].dr Ps[k].tm Ps[k].re x.dr x.tm x.re < 0:=HSP.o.less k hlt hkp
      have hdn:decide (Zda Ps x < k)=false:=decide_eq_false (by omega);have hdn1:decide (Zda Ps x < k+1)=false:=decide_eq_false (by omega);have HN:=Zab (Zp3 hkp hlt);rw [hdn];go_wp2
      go_region_held3 (fun W=>(∀ i,W.cell? ⟨w.heap.size,i,none⟩=(#[.string x.dr,.string x.tm,.string x.re,.int .i64 x.am,.int .i64 x.un]:Array Value)[i]?)/\Zcd W rb (ro+k*5) Ps[k]/\W.cell? ⟨rb,ro+k*5,none⟩=some (.string Ps[k].dr)/\W.cell? ⟨rb,ro+k*5+1,none⟩=some (.string Ps[k].tm)/\W.cell? ⟨rb,ro+k*5+2,none⟩=some (.string Ps[k].re)/\W.cell? ⟨rb,ro+k*5+3,none⟩=some (.int .i64 Ps[k].am)/\W.cell? ⟨rb,ro+k*5+4,none⟩=some (.int .i64 Ps[k].un))
       (first
         | (with_reducible exact KP.o _ (Zb_.drew))
         | (exact KP.o _ HC1.o)
         | assumption)
       (first
         | (go_at_call 99
            refine (Zbi Ps[k] x _).mono ?_;rintro e w2 ⟨rfl,hb2⟩;have HC1:Hd (Below wr.heap.size wr w2):=Zb_.drew.trans (hb2.mono Zl_);clear hb2))
      have HS2:=Zab (HST.o.below HC1.o);have hc2:=HCL.o.below HC1.o (by omega);have hs2:=HC1.o.size;obtain⟨d0,d1,d2,d3,d4⟩:=hc2;have y0:=HS2.o.box.cell
      change Hd (ZjY w w2 x (.slice va (Za9 Ps x k).length vcap) (Za9 Ps x k)) at HS2
      generalize hcv:Zfu Ps[k].dr Ps[k].tm Ps[k].re x.dr x.tm x.re=cv at hneg |-;have h1:¬ (0<=cv):=by omega
      have h2:(cv != 0)=true:=by simp;omega
      clear hcv;go_wp2_with (at_builtin;refine wpList_append_own_at _ rfl (.tmp 34) (.tmp 39) 38 rfl (w.heap.size+1) 94 i0 (.agg #[.string ⟨#[]⟩,.string ⟨#[]⟩,.string ⟨#[]⟩,.int .i64 0,.int .i64 0]) 5 64 underlying38 HI.o.1 HI.o.2.1 HI.o.2.2.1 HI.o.2.2.2 rfl (by decide) _ (Za9 Ps x k).length (Zbs (Za9 Ps x k)) rfl (Below.ownsB HS2.o.own (Zac _ _)) ⟨w2.heap.size,0,none⟩ 1 1 [.string Ps[k].dr,.string Ps[k].tm,.string Ps[k].re,.int .i64 Ps[k].am,.int .i64 Ps[k].un] rfl rfl (ZdJ _ _ _ _ _ _ _ _ rfl) (Zf0 _) (by unfold maxLen;omega) (by omega) (by simp;omega) ?_;intro v' w4 hown4 hgrow4 hnil4 hat4);have HS4:Hd (ZjY w w4 x v' (Za9 Ps x k ++ [Ps[k]])):=HS2.o.grown (((Zac w2 _).mono (by omega)).trans (ZaP (Below.ownsB HS2.o.own (Zac _ _)) hgrow4 (by simp;omega))) Ps[k] hown4;clear hown4 hgrow4 hnil4 hat4 y0 d0 d1 d2 d3 d4;go_wp2
      go_roundw
      . exact⟨k+1,by go_num,by omega,by rw [hdn1],by rw [HN.o];exact HS4.o⟩
      . simp [intOf];omega
    . have hge:0<=Zfu Ps[k].dr Ps[k].tm Ps[k].re x.dr x.tm x.re:=HSP.o.more k hlt (by omega)
      have hdn:decide (Zda Ps x < k)=false:=decide_eq_false (by omega);have hdn1:decide (Zda Ps x < k+1)=true:=decide_eq_true (by omega)
      have hth:Zbz Ps x=decide (Zfu Ps[k].dr Ps[k].tm Ps[k].re x.dr x.tm x.re=0):=by
       have:=Znq HR.o x (by omega);subst hkp;exact this
      have HN:Hd (Za9 Ps x (k+1)=Za9 Ps x k ++ (if Zbz Ps x=true then [x] else [x,Ps[k]])):=by
       have:=ZrR (Ps:=Ps) (x:=x) (by omega);subst hkp;exact this
      rw [hth] at HN;rw [hdn];clear hkp;go_wp2
      go_region_held3 (fun W=>(∀ i,W.cell? ⟨w.heap.size,i,none⟩=(#[.string x.dr,.string x.tm,.string x.re,.int .i64 x.am,.int .i64 x.un]:Array Value)[i]?)/\Zcd W rb (ro+k*5) Ps[k]/\W.cell? ⟨rb,ro+k*5,none⟩=some (.string Ps[k].dr)/\W.cell? ⟨rb,ro+k*5+1,none⟩=some (.string Ps[k].tm)/\W.cell? ⟨rb,ro+k*5+2,none⟩=some (.string Ps[k].re)/\W.cell? ⟨rb,ro+k*5+3,none⟩=some (.int .i64 Ps[k].am)/\W.cell? ⟨rb,ro+k*5+4,none⟩=some (.int .i64 Ps[k].un))
       (first
         | (with_reducible exact KP.o _ (Zb_.drew))
         | (exact KP.o _ HC1.o)
         | assumption)
       (first
         | (go_at_call 99
            refine (Zbi Ps[k] x _).mono ?_;rintro e w2 ⟨rfl,hb2⟩;have HC1:Hd (Below wr.heap.size wr w2):=Zb_.drew.trans (hb2.mono Zl_);clear hb2))
      have HS2:=Zab (HST.o.below HC1.o);have hc2:=HCL.o.below HC1.o (by omega);have hs2:=HC1.o.size;obtain⟨d0,d1,d2,d3,d4⟩:=hc2;have y0:=HS2.o.box.cell
      change Hd (ZjY w w2 x (.slice va (Za9 Ps x k).length vcap) (Za9 Ps x k)) at HS2
      generalize hcv:Zfu Ps[k].dr Ps[k].tm Ps[k].re x.dr x.tm x.re=cv at hge hth HN |-;clear hcv hth
      by_cases hz:cv=0
      . have h2:(cv != 0)=false:=by simp [hz]
        have HN2:Hd (Za9 Ps x (k+1)=Za9 Ps x k ++ [x]):=by unfold Hd;rw [HN.o,decide_eq_true hz];rfl
        clear HN;go_wp2_with (at_builtin;refine wpList_append_own_at _ rfl (.tmp 28) (.tmp 30) 38 rfl (w.heap.size+1) 94 i0 (.agg #[.string ⟨#[]⟩,.string ⟨#[]⟩,.string ⟨#[]⟩,.int .i64 0,.int .i64 0]) 5 64 underlying38 HI.o.1 HI.o.2.1 HI.o.2.2.1 HI.o.2.2.2 rfl (by decide) _ (Za9 Ps x k).length (Zbs (Za9 Ps x k)) rfl (Below.ownsB HS2.o.own (Zac _ _)) ⟨w2.heap.size,0,none⟩ 1 1 [.string x.dr,.string x.tm,.string x.re,.int .i64 x.am,.int .i64 x.un] rfl rfl (ZdJ _ _ _ _ _ _ _ _ rfl) (Zf0 _) (by unfold maxLen;omega) (by omega) (by simp;omega) ?_;intro v' w4 hown4 hgrow4 hnil4 hat4);have HS4:Hd (ZjY w w4 x v' (Za9 Ps x k ++ [x])):=HS2.o.grown (((Zac w2 _).mono (by omega)).trans (ZaP (Below.ownsB HS2.o.own (Zac _ _)) hgrow4 (by simp;omega))) x hown4;clear hown4 hgrow4 hnil4 hat4 y0 d0 d1 d2 d3 d4;go_wp2;go_roundw
        . exact⟨k+1,by go_num,by omega,by rw [hdn1],by rw [HN2.o];exact HS4.o⟩
        . simp [intOf];omega
      . have h2:(cv != 0)=true:=by simpa using hz
        have HN2:Hd (Za9 Ps x (k+1)=Za9 Ps x k ++ [x] ++ [Ps[k]]):=by unfold Hd;rw [HN.o,decide_eq_false hz];simp
        clear HN
        go_wp2_with (first
         | (at_builtin;refine wpList_append_own_at _ rfl (.tmp 28) (.tmp 30) 38 rfl (w.heap.size+1) 94 i0 (.agg #[.string ⟨#[]⟩,.string ⟨#[]⟩,.string ⟨#[]⟩,.int .i64 0,.int .i64 0]) 5 64 underlying38 HI.o.1 HI.o.2.1 HI.o.2.2.1 HI.o.2.2.2 rfl (by decide) _ (Za9 Ps x k).length (Zbs (Za9 Ps x k)) rfl (Below.ownsB HS2.o.own (Zac _ _)) ⟨w2.heap.size,0,none⟩ 1 1 [.string x.dr,.string x.tm,.string x.re,.int .i64 x.am,.int .i64 x.un] rfl rfl (ZdJ _ _ _ _ _ _ _ _ rfl) (Zf0 _) (by unfold maxLen;omega) (by omega) (by simp;omega) ?_;intro v' w4 hown4 hgrow4 hnil4 hat4;have HS4:Hd (ZjY w w4 x v' (Za9 Ps x k ++ [x])):=HS2.o.grown (((Zac w2 _).mono (by omega)).trans (ZaP (Below.ownsB HS2.o.own (Zac _ _)) hgrow4 (by simp;omega))) x hown4;obtain⟨q0,q1,q2,q3,q4⟩:=HCW.o.below HS4.o.bel hrb;have hl4:=HS4.o.box.lt)
         | (at_builtin;refine wpList_append_own_at _ rfl (.tmp 34) (.tmp 39) 38 rfl (w.heap.size+1) 94 i0 (.agg #[.string ⟨#[]⟩,.string ⟨#[]⟩,.string ⟨#[]⟩,.int .i64 0,.int .i64 0]) 5 64 underlying38 HI.o.1 HI.o.2.1 HI.o.2.2.1 HI.o.2.2.2 rfl (by decide) _ (Za9 Ps x k ++ [x]).length (Zbs (Za9 Ps x k ++ [x])) rfl (Below.ownsB HS4.o.own (Zac _ _)) ⟨w4.heap.size,0,none⟩ 1 1 [.string Ps[k].dr,.string Ps[k].tm,.string Ps[k].re,.int .i64 Ps[k].am,.int .i64 Ps[k].un] rfl rfl (ZdJ _ _ _ _ _ _ _ _ rfl) (Zf0 _) (by simp only [List.length_append,List.length_cons,List.length_nil];unfold maxLen;omega) (by simp only [List.length_append,List.length_cons,List.length_nil];omega) (by have:=HS4.o.box.lt;simp;omega) ?_;intro v5 w5 hown5 hgrow5 hnil5 hat5))
        clear hown4 hgrow4 hnil4 hat4 y0 d0 d1 d2 d3 d4;have HS5:Hd (ZjY w w5 x v5 (Za9 Ps x k ++ [x] ++ [Ps[k]])):=HS4.o.grown (((Zac w4 _).mono (by omega)).trans (ZaP (Below.ownsB HS4.o.own (Zac _ _)) hgrow5 (by simp;omega))) Ps[k] hown5;clear hown5 hgrow5 hnil5 hat5 q0 q1 q2 q3 q4;go_wp2;go_roundw
        . exact⟨k+1,by go_num,by omega,by rw [hdn1],by rw [HN2.o];exact HS5.o⟩
        . simp [intOf];omega
    . have hpos:0 < Zfu Ps[k].dr Ps[k].tm Ps[k].re x.dr x.tm x.re:=Zq8 HR.o hkp hlt
      have hdn:decide (Zda Ps x < k)=true:=decide_eq_true (by omega);have hdn1:decide (Zda Ps x < k+1)=true:=decide_eq_true (by omega);have HN:=Zab (Zpo hkp hlt);rw [hdn];go_wp2
      go_region_held3 (fun W=>(∀ i,W.cell? ⟨w.heap.size,i,none⟩=(#[.string x.dr,.string x.tm,.string x.re,.int .i64 x.am,.int .i64 x.un]:Array Value)[i]?)/\Zcd W rb (ro+k*5) Ps[k]/\W.cell? ⟨rb,ro+k*5,none⟩=some (.string Ps[k].dr)/\W.cell? ⟨rb,ro+k*5+1,none⟩=some (.string Ps[k].tm)/\W.cell? ⟨rb,ro+k*5+2,none⟩=some (.string Ps[k].re)/\W.cell? ⟨rb,ro+k*5+3,none⟩=some (.int .i64 Ps[k].am)/\W.cell? ⟨rb,ro+k*5+4,none⟩=some (.int .i64 Ps[k].un))
       (first
         | (with_reducible exact KP.o _ (Zb_.drew))
         | (exact KP.o _ HC1.o)
         | assumption)
       (first
         | (go_at_call 99
            refine (Zbi Ps[k] x _).mono ?_;rintro e w2 ⟨rfl,hb2⟩;have HC1:Hd (Below wr.heap.size wr w2):=Zb_.drew.trans (hb2.mono Zl_);clear hb2))
      have HS2:=Zab (HST.o.below HC1.o);have hc2:=HCL.o.below HC1.o (by omega);have hs2:=HC1.o.size;obtain⟨d0,d1,d2,d3,d4⟩:=hc2;have y0:=HS2.o.box.cell
      change Hd (ZjY w w2 x (.slice va (Za9 Ps x k).length vcap) (Za9 Ps x k)) at HS2
      generalize hcv:Zfu Ps[k].dr Ps[k].tm Ps[k].re x.dr x.tm x.re=cv at hpos |-;have h2:(cv != 0)=true:=by simp;omega
      clear hcv;go_wp2_with (at_builtin;refine wpList_append_own_at _ rfl (.tmp 34) (.tmp 39) 38 rfl (w.heap.size+1) 94 i0 (.agg #[.string ⟨#[]⟩,.string ⟨#[]⟩,.string ⟨#[]⟩,.int .i64 0,.int .i64 0]) 5 64 underlying38 HI.o.1 HI.o.2.1 HI.o.2.2.1 HI.o.2.2.2 rfl (by decide) _ (Za9 Ps x k).length (Zbs (Za9 Ps x k)) rfl (Below.ownsB HS2.o.own (Zac _ _)) ⟨w2.heap.size,0,none⟩ 1 1 [.string Ps[k].dr,.string Ps[k].tm,.string Ps[k].re,.int .i64 Ps[k].am,.int .i64 Ps[k].un] rfl rfl (ZdJ _ _ _ _ _ _ _ _ rfl) (Zf0 _) (by unfold maxLen;omega) (by omega) (by simp;omega) ?_;intro v' w4 hown4 hgrow4 hnil4 hat4);have HS4:Hd (ZjY w w4 x v' (Za9 Ps x k ++ [Ps[k]])):=HS2.o.grown (((Zac w2 _).mono (by omega)).trans (ZaP (Below.ownsB HS2.o.own (Zac _ _)) hgrow4 (by simp;omega))) Ps[k] hown4;clear hown4 hgrow4 hnil4 hat4 y0 d0 d1 d2 d3 d4;go_wp2
      go_roundw
      . exact⟨k+1,by go_num,by omega,by rw [hdn1],by rw [HN.o];exact HS4.o⟩
      . simp [intOf];omega
  . have hkl:k=Ps.length:=by omega
    subst hkl;have x0:=HST.o.box.cell
    by_cases hpe:Zda Ps x < Ps.length
    . have hdn:decide (Zda Ps x < Ps.length)=true:=decide_eq_true hpe
      have HE:Hd (ZaS w.heap.size wr.heap.size wr (.slice va (Za9 Ps x Ps.length).length vcap) (Zgz Ps x)):=by
       have:=HST.o.own;rw [ZqD hpe] at this |-;exact (Zdw this (Zmn HZ.o HX.o)).wide (by omega) Zl_
      rw [hdn];clear x0;go_wp2;go_ret;exact⟨_,rfl,HST.o.bel,HE.o⟩
    . have hdn:decide (Zda Ps x < Ps.length)=false:=decide_eq_false hpe
      rw [hdn];go_wp2_with (at_builtin;refine wpList_append_own_at _ rfl (.tmp 43) (.tmp 45) 38 rfl (w.heap.size+1) 94 i0 (.agg #[.string ⟨#[]⟩,.string ⟨#[]⟩,.string ⟨#[]⟩,.int .i64 0,.int .i64 0]) 5 64 underlying38 HI.o.1 HI.o.2.1 HI.o.2.2.1 HI.o.2.2.2 rfl (by decide) _ (Za9 Ps x Ps.length).length (Zbs (Za9 Ps x Ps.length)) rfl (Below.ownsB HST.o.own (Zac _ _)) ⟨wr.heap.size,0,none⟩ 1 1 [.string x.dr,.string x.tm,.string x.re,.int .i64 x.am,.int .i64 x.un] rfl rfl (ZdJ _ _ _ _ _ _ _ _ rfl) (Zf0 _) (by unfold maxLen;omega) (by omega) (by simp;omega) ?_;intro v' w4 hown4 hgrow4 hnil4 hat4);have HS4:Hd (ZjY w w4 x v' (Za9 Ps x Ps.length ++ [x])):=HST.o.grown (((Zac wr _).mono (by omega)).trans (ZaP (Below.ownsB HST.o.own (Zac _ _)) hgrow4 (by simp;omega))) x hown4
      have HE:Hd (ZaS w.heap.size w4.heap.size w4 v' (Zgz Ps x)):=by
       have:=HS4.o.own;rw [ZpO (by omega)] at this;exact (Zdw this (Zmn HZ.o HX.o)).wide (by omega) Zl_
      clear hown4 hgrow4 hnil4 hat4 x0;go_wp2;go_ret;exact⟨_,rfl,HS4.o.bel,HE.o⟩
theorem ZmD (B:Bk) (d t r:Zy_) (am:Int):(Zcp B d t r am).1.now=B.now/\(Zcp B d t r am).1.tick=B.tick/\(Zcp B d t r am).1.given=B.given/\(Zcp B d t r am).1.os=B.os/\(Zcp B d t r am).1.gs=B.gs/\(Zcp B d t r am).1.ls.length=B.ls.length:=by
 unfold Zcp
 split
 . split
   . exact⟨rfl,rfl,rfl,rfl,rfl,rfl⟩
   . split
     . exact⟨rfl,rfl,rfl,rfl,rfl,rfl⟩
     . exact⟨rfl,rfl,rfl,rfl,rfl,Zch _ _ _⟩
 . exact⟨rfl,rfl,rfl,rfl,rfl,rfl⟩
theorem Zq9 (Ps:List Pu) (x:Pu):(Zgz Ps x).length<=Ps.length+1:=by
 unfold Zgz;simp only [List.length_append,List.length_take,List.length_cons,List.length_drop]
 omega
def Zfc (Ss:List Sh) (Ms:List Md) (Ts:List Tm) (B:Bk) (FF:Nat->List Zy_) (d t r:Zy_) (am:Int):Bk×Int:=
 if ZcE Ss Ms Ts B FF=true then Zcp B d t r am else (Zfo,1)
theorem Zi0 {Ss:List Sh}{Ms:List Md}{Ts:List Tm}{B:Bk}{FF:Nat->List Zy_} (d t r:Zy_) (am:Int) (h:ZcE Ss Ms Ts B FF=false):Zfc Ss Ms Ts B FF d t r am=(Zfo,1):=by
 unfold Zfc;rw [h];rfl
theorem ZgU {Ss:List Sh}{Ms:List Md}{Ts:List Tm}{B:Bk}{FF:Nat->List Zy_} (d t r:Zy_) (am:Int) (h:ZcE Ss Ms Ts B FF=true):Zfc Ss Ms Ts B FF d t r am=Zcp B d t r am:=by
 unfold Zfc;rw [if_pos h]
theorem Zmx {Ss:List Sh}{Ms:List Md}{Ts:List Tm}{B:Bk}{FF:Nat->List Zy_} (h:ZcE Ss Ms Ts B FF=true):B.ps.length<=24:=by
 unfold ZcE ZdA Zga at h;simp only [Bool.and_eq_true] at h;obtain⟨-,-,-,-,-,hp,-⟩:=h;unfold Za6 at hp;simp only [Bool.and_eq_true,decide_eq_true_eq] at hp;exact hp.1.1
theorem Zlx {Ss:List Sh}{Ms:List Md}{Ts:List Tm}{B:Bk}{FF:Nat->List Zy_} (d t r:Zy_) (am:Int) (hn:ZaG B):ZaG (Zfc Ss Ms Ts B FF d t r am).1:=by
 cases hb:ZcE Ss Ms Ts B FF with
 | false=>rw [Zi0 d t r am hb];exact Zld
 | true=>
  rw [ZgU d t r am hb];have h24:=Zmx hb;obtain⟨h1,h2,h3,h4⟩:=hn;unfold Zcp
  split
  . split
    . exact⟨h1,h2,h3,h4⟩
    . split
      . exact⟨h1,h2,h3,h4⟩
      . exact⟨h1,h2,⟨by rw [Zch];exact h3.1,fun i h=>rfl⟩,⟨Nat.le_trans (Zq9 _ _) (by omega),fun i h=>rfl⟩⟩
  . exact⟨h1,h2,h3,h4⟩
theorem Zp9 (hr:ZcN ZbJ Ps=true) (d t r:Zy_) (am un:Int):(Zbz Ps ⟨d,t,r,am,un⟩=true/\Zda Ps ⟨d,t,r,am,un⟩ < Ps.length/\Zoi Ps d t r=Zda Ps ⟨d,t,r,am,un⟩)\/(Zbz Ps ⟨d,t,r,am,un⟩=false/\Zoi Ps d t r= -1):=by
 have hs:=Zfl hr ⟨d,t,r,am,un⟩
 cases ha:Zbz Ps ⟨d,t,r,am,un⟩ with
 | true=>exact Or.inl ⟨rfl,ZlU ha,(Zsv hs ha).2.1⟩
 | false=>exact Or.inr ⟨rfl,ZnD hr hs ha⟩
theorem Zrf (x:Pu) (hr:ZcN ZbJ Ps=true):(Zc3 Ps x).length=if Zbz Ps x=true then Ps.length else Ps.length+1:=by
 have hs:=Zfl hr x
 cases ha:Zbz Ps x with
 | true=>
  rw [Zmv hs ha (ZlU ha),List.length_set]
  rfl
 | false=>
  rw [ZoT hs ha];have:=hs.le;simp only [List.length_append,List.length_take,List.length_cons,List.length_drop,Bool.false_eq_true,if_false]
  omega
theorem Zsd (ha:Zbz Ps x=true) (hl:Zda Ps x < Ps.length):ZrB Ps x=Ps[Zda Ps x].am:=by
 unfold ZrB;rw [if_pos ha,List.getElem?_eq_getElem hl]
theorem Zta (ha:Zbz Ps x=false):ZrB Ps x=0:=by
 unfold ZrB;rw [ha];rfl
section
variable (sv mv tv ov gv lv pv:Value) (Ss:List Sh) (Ms:List Md) (Ts:List Tm) (B:Bk) (FF:Nat->List Zy_) (d t r:Zy_) (am:Int) (w:World)
theorem ZnS (δ:Nat) (hl:ZbL 0 w sv mv tv Ss Ms Ts) (h:ZaY 0 w ov gv lv pv B) (hn:ZaG B) (hsh:Zb3 Ss Ms B.os FF) (hd:d.size<=maxLen) (ht:t.size<=maxLen) (hr:r.size<=maxLen)
 (h1:Box w δ #[.string d]) (h2:Box w (δ+1) #[.string t]) (h3:Box w (δ+2) #[.string r]) (h4:Box w (δ+3) #[.int .i64 am]) :
 Calls prog 48 #[.agg #[sv,mv,tv],.agg #[.int .i64 B.now,.int .i64 B.tick,.int .i64 B.given,ov,gv,lv,pv],.func (.func 49) #[] #[.pointer (some ⟨δ,0,none⟩),.pointer (some ⟨δ+1,0,none⟩),.pointer (some ⟨δ+2,0,none⟩),.pointer (some ⟨δ+3,0,none⟩)]] w fun e w'=>Zd4 w e w' (Zfc Ss Ms Ts B FF d t r am).1 (Zfc Ss Ms Ts B FF d t r am).2:=by
 cases hb:ZcE Ss Ms Ts B FF with
 | false=>
  rw [Zi0 d t r am hb];exact (Zj1 sv mv tv ov gv lv pv Ss Ms Ts B FF w hl h hn hsh hb _).mono fun e w' h=>Zd4.no h
 | true=>
  rw [ZgU d t r am hb];have htk:=ZjI hb;refine ZhV sv mv tv ov gv lv pv Ss Ms Ts B FF w hl h hn hsh hb _ _ _ _ _ _ fun Wx lo β b0 b1 b2 b3 m0 m1 m2 m3 hbw hlo hlb hsz hX hO=>?_
  have hcall:=ZjL lo β B b0 b1 b2 b3 m0 m1 m2 m3 d t r am Wx hX hO (Zkv hb) htk hlb hd ht hr;have HC:=Zab hcall;have c1:=(h1.on hbw).cell 0;have c2:=(h2.on hbw).cell 0;have c3:=(h3.on hbw).cell 0;have c4:=(h4.on hbw).cell 0;simp at c1 c2 c3 c4;have HDS:=Zab (ZmD B d t r am);clear hcall hX hO hl h hn hsh h1 h2 h3 h4 hb;generalize hDP:Zcp B d t r am=DP at HC HDS |-;clear hDP;go_enter func49,ntmps49;go_wp2_with fail;refine HC.o.mono ?_;rintro e w4 ⟨rfl,hpost⟩;have HPO:=Zab hpost;clear hpost c1 c2 c3 c4;go_wp2;go_ret;obtain⟨htc,a9,c9,hx,ho⟩:=HPO.o;obtain⟨e1,e2,e3,e4,e5,e6⟩:=HDS.o;refine⟨rfl,htc,b0,m0,b1,m1,b2,m2,a9,c9,?_,?_⟩
  . rw [e1,e2,e3,e4,e5,e6];exact hx
  . rw [e4,e5,e6];exact ho
theorem Zgi (hl:ZbL 0 w sv mv tv Ss Ms Ts) (h:ZaY 0 w ov gv lv pv B) (hn:ZaG B) (hsh:Zb3 Ss Ms B.os FF) (hd:d.size<=maxLen) (ht:t.size<=maxLen) (hr:r.size<=maxLen) :
 Calls prog 12 #[.agg #[sv,mv,tv],.agg #[.int .i64 B.now,.int .i64 B.tick,.int .i64 B.given,ov,gv,lv,pv],.string d,.string t,.string r,.int .i64 am] w fun e w'=>Zd4 w e w' (Zfc Ss Ms Ts B FF d t r am).1 (Zfc Ss Ms Ts B FF d t r am).2:=by
 have HL:=Zab hl;have HK:=Zab h;have HN:=Zab hn;have HSH:=Zab hsh;have HSZ:=Zab (And.intro hd (And.intro ht hr));obtain⟨sa,sc,rfl⟩:=hl.shs.form;obtain⟨ma,mc,rfl⟩:=hl.mds.form;obtain⟨ta,tc,rfl⟩:=hl.tms.form;obtain⟨a0,k0,rfl⟩:=h.obs.form;obtain⟨a1,k1,rfl⟩:=h.grs.form;obtain⟨a2,k2,rfl⟩:=h.les.form;obtain⟨a3,k3,rfl⟩:=h.pus.form;clear hl h hn hsh hd ht hr;obtain⟨Bq,c,hA⟩:∃ (Bq:Bk) (c:Int),Zfc Ss Ms Ts B FF d t r am=(Bq,c):=⟨_,_,rfl⟩
 have HA:=Zab hA;rw [hA];clear hA;go_enter func12,ntmps12;go_wp2_with fail;generalize hWa:World.alloc (World.alloc (World.alloc (World.alloc (World.alloc (World.alloc (w.alloc _) _) _) _) _) _) _=Wa;have HBa:Hd (Zw_ w Wa):=by rw [<- hWa];exact ((((((Zac w _).alloc (by simp) _).alloc (by simp;omega) _).alloc (by simp;omega) _).alloc (by simp;omega) _).alloc (by simp;omega) _).alloc (by simp;omega) _
 have hsa:Wa.heap.size=w.heap.size+7:=by rw [<- hWa];simp
 have F1:Hd (Box Wa (w.heap.size+2) #[.string d]):=by rw [<- hWa];exact ((((Box.new _ _ _ _ (by simp)).on (Zac _ _)).on (Zac _ _)).on (Zac _ _)).on (Zac _ _)
 have F2:Hd (Box Wa (w.heap.size+2+1) #[.string t]):=by rw [<- hWa];exact (((Box.new _ _ _ _ (by simp)).on (Zac _ _)).on (Zac _ _)).on (Zac _ _)
 have F3:Hd (Box Wa (w.heap.size+2+2) #[.string r]):=by rw [<- hWa];exact ((Box.new _ _ _ _ (by simp)).on (Zac _ _)).on (Zac _ _)
 have F4:Hd (Box Wa (w.heap.size+2+3) #[.int .i64 am]):=by rw [<- hWa];exact (Box.new _ _ _ _ (by simp)).on (Zac _ _)
 have FC:Hd (Box Wa (w.heap.size+6) #[.int .i64 0,.int .i64 0,.int .i64 0,.slice none 0 0,.slice none 0 0,.slice none 0 0,.slice none 0 0]):=by rw [<- hWa];exact Box.new _ _ _ _ (by simp)
 clear hWa;refine (ZnS _ _ _ _ _ _ _ Ss Ms Ts B FF d t r am _ (w.heap.size+2) (HL.o.below HBa.o) (HK.o.below HBa.o) HN.o HSH.o HSZ.o.1 HSZ.o.2.1 HSZ.o.2.2 F1.o F2.o F3.o F4.o).mono ?_;intro e w1 hans;rw [HA.o] at hans;obtain⟨b0,m0,b1,m1,b2,m2,b3,m3,rfl,hb1,ho⟩:=hans;have HO:=Zab ho;clear ho;have HB1:Hd (Zw_ w w1):=bt HBa.o hb1;have hs1:=hb1.size;replace FC:=Zab (FC.o.on hb1);clear hb1 HBa;have r0:=FC.o.cell;have g0:=FC.o.free;go_wp2;refine bodyPost_ret (v:=.tuple #[.agg #[.int .i64 Bq.now,.int .i64 Bq.tick,.int .i64 Bq.given,.slice b0 Bq.os.length m0,.slice b1 Bq.gs.length m1,.slice b2 Bq.ls.length m2,.slice b3 Bq.ps.length m3],.int .i64 c]) (by simp [results,results12,go_sem,r0]) rfl ⟨_,_,_,_,_,_,_,_,rfl,?_,?_⟩
 . repeat (refine Below.setCell ?_ (by dsimp;omega) _)
   exact HB1.o
 . refine Zaw.wide (lo:=Wa.heap.size) (hi:=w1.heap.size) ?_ (by omega) (by simp [World.setCell])
   iterate 7 (refine Zaw.setLow ?_ (by dsimp;omega) _)
   exact HO.o
end
theorem ZgO (s:Zy_) (w:World) (hs:s.size<=maxLen):Calls prog 37 #[.string s] w fun e w'=>e=.returned (.bool (Zan s))/\w=w':=(Zaf s w hs).mono fun _ _ h=>⟨h.1,h.2.symm⟩
theorem inF (n lo hi:Int) (w:World):Calls prog 38 #[.int .i64 n,.int .i64 lo,.int .i64 hi] w fun e w'=>e=.returned (.bool (inB lo hi n))/\w=w':=(Zaq n lo hi w).mono fun _ _ h=>⟨h.1,h.2.symm⟩
section
variable (sv mv tv ov gv lv pv:Value) (Ss:List Sh) (Ms:List Md) (Ts:List Tm) (B:Bk) (FF:Nat->List Zy_) (d t r:Zy_) (am:Int) (w:World)
theorem ZkB (hl:ZbL 0 w sv mv tv Ss Ms Ts) (h:ZaY 0 w ov gv lv pv B) (hn:ZaG B) (hsh:Zb3 Ss Ms B.os FF) (hd:d.size<=maxLen) (ht:t.size<=maxLen) (hr:r.size<=maxLen) :
 Calls prog 9 #[.agg #[sv,mv,tv],.agg #[.int .i64 B.now,.int .i64 B.tick,.int .i64 B.given,ov,gv,lv,pv],.string d,.string t,.string r,.int .i64 am] w fun e w'=>Zd4 w e w' (Zfc Ss Ms Ts B FF d t r am).1 (Zfc Ss Ms Ts B FF d t r am).2:=by
 have HL:=Zab hl;have HK:=Zab h;have HN:=Zab hn;have HSH:=Zab hsh;have HSD:=Zab (And.intro hd (And.intro ht hr));obtain⟨sa,sc,rfl⟩:=hl.shs.form;obtain⟨ma,mc,rfl⟩:=hl.mds.form;obtain⟨ta,tc,rfl⟩:=hl.tms.form;obtain⟨a0,k0,rfl⟩:=h.obs.form;obtain⟨a1,k1,rfl⟩:=h.grs.form;obtain⟨a2,k2,rfl⟩:=h.les.form;obtain⟨a3,k3,rfl⟩:=h.pus.form;clear hl h hn hsh hd ht hr;go_enter func9,ntmps9;go_wp2_with fail;generalize hWa:World.alloc (World.alloc (w.alloc _) _) _=Wa;have HBa:Hd (Zw_ w Wa):=by rw [<- hWa];exact ((Zac w _).alloc (by simp) _).alloc (by simp;omega) _
 have FB:Hd (Box Wa (w.heap.size+1) #[.int .i64 B.now,.int .i64 B.tick,.int .i64 B.given,.slice a0 B.os.length k0,.slice a1 B.gs.length k1,.slice a2 B.ls.length k2,.slice a3 B.ps.length k3]):=by rw [<- hWa];exact (Box.new _ _ _ _ (by simp)).on (Zac _ _)
 have FR:Hd (Box Wa (w.heap.size+2) #[.int .i64 0,.int .i64 0,.int .i64 0,.slice none 0 0,.slice none 0 0,.slice none 0 0,.slice none 0 0]):=by rw [<- hWa];exact Box.new _ _ _ _ (by simp)
 clear hWa;refine (Zku 0 _ _ _ _ _ _ _ Ss Ms Ts B FF _ (HL.o.below HBa.o) (HK.o.below HBa.o) HN.o HSH.o).mono ?_;rintro e w1 ⟨rfl,hb1⟩;have HB1:Hd (Zw_ w w1):=bt HBa.o hb1;replace FB:=Zab (FB.o.on hb1);replace FR:=Zab (FR.o.on hb1);clear hb1 HBa
 cases hbk:ZcE Ss Ms Ts B FF with
 | false=>
  have HE:Hd (Zfc Ss Ms Ts B FF d t r am=(Zfo,1)):=Zi0 d t r am hbk;have r0:=FR.o.cell;have g0:=FR.o.free;go_wp2;refine bodyPost_ret (v:=.tuple #[.agg #[.int .i64 0,.int .i64 0,.int .i64 0,.slice none 0 0,.slice none 0 0,.slice none 0 0,.slice none 0 0],.int .i64 1]) (by simp [results,results9,go_sem,r0]) rfl ?_;rw [HE.o];refine Zd4.no ⟨rfl,?_⟩
  repeat (refine Below.setCell ?_ (by dsimp;omega) _)
  exact HB1.o
 | true=>
 have HDA:Hd (Zfc Ss Ms Ts B FF d t r am=Zcp B d t r am):=ZgU d t r am hbk;have hx:=FB.o.cell;go_wp2_with fail;clear hx;refine (ZmQ 0 _ _ _ _ B _ (HK.o.below HB1.o) HN.o).mono ?_;rintro e w2 ⟨b0,m0,b1,m1,b2,m2,b3,m3,rfl,hb2,ho2⟩;have HB2:Hd (Zw_ w w2):=bt HB1.o hb2;have HO2:=Zab ho2;have hs1:=FR.o.lt;have hs2:=hb2.size;replace FB:=Zab (FB.o.on hb2);replace FR:=Zab (FR.o.on hb2);clear hb2 ho2 HB1;have htk:=ZjI hbk;have h24:=Zmx hbk;have HOK:=Zab (Zkv hbk);clear hbk;have hx:=FB.o.cell;have hlx:=FB.o.lt;have hx1:∀ o i,(w2.alloc o).cell? ⟨w.heap.size+1,i,none⟩=_:=fun o i=>(Zai _ _ _ _ hlx).trans (hx i)
 go_wp2_with fail;clear hx hx1 hlx;generalize hWb:w2.alloc _=Wb;have hbb:Below w2.heap.size w2 Wb:=by rw [<- hWb];exact Zac _ _
 have FX:Hd (Box Wb w2.heap.size #[.int .i64 B.now,.int .i64 B.tick,.int .i64 B.given,.slice b0 B.os.length m0,.slice b1 B.gs.length m1,.slice b2 B.ls.length m2,.slice b3 B.ps.length m3]):=by rw [<- hWb];exact Box.new _ _ _ _ rfl
 have hsb:Wb.heap.size=w2.heap.size+1:=by rw [<- hWb];simp
 have HBb:Hd (Zw_ w Wb):=bt HB2.o hbb;have HOb:=Zab (HO2.o.below hbb);replace FR:=Zab (FR.o.on hbb);replace FB:=Zab (FB.o.on hbb);clear hWb hbb HO2 HB2;refine (ZaX 0 _ _ _ _ B _ _ _ (HK.o.below HBb.o)).mono ?_;rintro e w3 ⟨rfl,hb3⟩;have HB3:Hd (Zw_ w w3):=bt HBb.o hb3;have HO3:=Zab (HOb.o.below hb3);have hs3:=hb3.size;replace FX:=Zab (FX.o.on hb3);replace FR:=Zab (FR.o.on hb3);replace FB:=Zab (FB.o.on hb3);clear hb3 HOb HBb
 have HNO:Hd (∀ (W:World) (c:Int),Zw_ w W->Zaw w1.heap.size w2.heap.size W (.slice b0 B.os.length m0) (.slice b1 B.gs.length m1) (.slice b2 B.ls.length m2) (.slice b3 B.ps.length m3) B->w2.heap.size<=W.heap.size->∀ u0 u1 u2 u3 u4 u5 u6:Value,Zd4 w (.returned (.tuple #[.agg #[.int .i64 B.now,.int .i64 B.tick,.int .i64 B.given,.slice b0 B.os.length m0,.slice b1 B.gs.length m1,.slice b2 B.ls.length m2,.slice b3 B.ps.length m3],.int .i64 c])) (((((((W.setCell ⟨w.heap.size+2,0,none⟩ u0).setCell ⟨w.heap.size+2,1,none⟩ u1).setCell ⟨w.heap.size+2,2,none⟩ u2).setCell ⟨w.heap.size+2,3,none⟩ u3).setCell ⟨w.heap.size+2,4,none⟩ u4).setCell ⟨w.heap.size+2,5,none⟩ u5).setCell ⟨w.heap.size+2,6,none⟩ u6) B c):=fun W c hW hO hz u0 u1 u2 u3 u4 u5 u6=>by
  refine⟨_,_,_,_,_,_,_,_,rfl,?_,?_⟩
  . repeat (refine Below.setCell ?_ (by dsimp;omega) _)
    exact hW
  . refine Zaw.wide (lo:=w1.heap.size) (hi:=w2.heap.size) ?_ (by omega) (by simp [World.setCell];omega)
    iterate 7 (refine Zaw.setLow ?_ (by dsimp;omega) _)
    exact hO
 by_cases hask:Zdi B.ls d t r am=true
 case neg=>
  have HDP:Hd (Zcp B d t r am=(B,2)):=by unfold Hd Zcp;rw [if_neg hask]
  have x0:=FX.o.cell;have r0:=FR.o.cell;have g0:=FR.o.free;have hle:decide (Zj3 B.ls t r < 0)=!B.ls.any (ZbM t r):=Zjd B.ls t r;unfold Zdi at hask;have HDP2:=HDP
  cases h2:Zan d with
  | false=>
   go_wp2_with (first|(go_at_call 37;refine (ZgO _ _ HSD.o.1).mono ?_;rintro e w' ⟨rfl,rfl⟩)|(go_at_call 38;refine (inF _ _ _ _).mono ?_;rintro e w' ⟨rfl,rfl⟩));refine bodyPost_ret (v:=.tuple #[.agg #[.int .i64 B.now,.int .i64 B.tick,.int .i64 B.given,.slice b0 B.os.length m0,.slice b1 B.gs.length m1,.slice b2 B.ls.length m2,.slice b3 B.ps.length m3],.int .i64 2]) (by simp [results,results9,go_sem,r0]) rfl ?_;rw [HDA.o,HDP2.o];exact HNO.o _ 2 HB3.o HO3.o (by omega) _ _ _ _ _ _ _
  | true=>
   cases h1:B.ls.any (ZbM t r) with
   | false=>
    have hneg:Zj3 B.ls t r < 0:=by rw [h1] at hle;simpa using hle
    go_wp2_with (first|(go_at_call 37;refine (ZgO _ _ HSD.o.1).mono ?_;rintro e w' ⟨rfl,rfl⟩)|(go_at_call 38;refine (inF _ _ _ _).mono ?_;rintro e w' ⟨rfl,rfl⟩));refine bodyPost_ret (v:=.tuple #[.agg #[.int .i64 B.now,.int .i64 B.tick,.int .i64 B.given,.slice b0 B.os.length m0,.slice b1 B.gs.length m1,.slice b2 B.ls.length m2,.slice b3 B.ps.length m3],.int .i64 2]) (by simp [results,results9,go_sem,r0]) rfl ?_;rw [HDA.o,HDP2.o];exact HNO.o _ 2 HB3.o HO3.o (by omega) _ _ _ _ _ _ _
   | true=>
    have h3:inB 1 1000000 am=false:=by
     rw [h1,h2] at hask
     simpa using hask
    obtain⟨p,hpl,hkp⟩:=ZkF h1;have hnn:¬ ((p:Int) < 0):=by omega
    rw [hkp];clear hle hkp;go_wp2_with (first|(go_at_call 37;refine (ZgO _ _ HSD.o.1).mono ?_;rintro e w' ⟨rfl,rfl⟩)|(go_at_call 38;refine (inF _ _ _ _).mono ?_;rintro e w' ⟨rfl,rfl⟩));refine bodyPost_ret (v:=.tuple #[.agg #[.int .i64 B.now,.int .i64 B.tick,.int .i64 B.given,.slice b0 B.os.length m0,.slice b1 B.gs.length m1,.slice b2 B.ls.length m2,.slice b3 B.ps.length m3],.int .i64 2]) (by simp [results,results9,go_sem,r0]) rfl ?_;rw [HDA.o,HDP2.o];exact HNO.o _ 2 HB3.o HO3.o (by omega) _ _ _ _ _ _ _
 have hany:B.ls.any (ZbM t r)=true:=by unfold Zdi at hask;simp only [Bool.and_eq_true] at hask;exact hask.1.1
 have hnm:Zan d=true:=by unfold Zdi at hask;simp only [Bool.and_eq_true] at hask;exact hask.1.2
 have hin:inB 1 1000000 am=true:=by unfold Zdi at hask;simp only [Bool.and_eq_true] at hask;exact hask.2
 have ham:1<=am/\am<=1000000:=by have:=hin;rw [ZdM] at this;simpa using this
 obtain⟨p,hpl,hkp⟩:=ZkF hany;have hfr:ZpB B.ls t r=B.ls[p].fr:=by unfold ZpB;rw [hkp,Int.toNat_natCast,List.getElem?_eq_getElem hpl]
 have HDP:Hd (Zcp B d t r am=if B.ls[p].fr < am then (B,3) else if 24 < (Zc3 B.ps ⟨d,t,r,am,B.tick+10⟩).length then (B,4) else (⟨B.now,B.tick,B.given,B.os,B.gs,ZeP B.ls p (-am),Zc3 B.ps ⟨d,t,r,am,B.tick+10⟩⟩,0)):=by
  unfold Hd Zcp Zqn;rw [if_pos hask,hfr,hkp,Int.toNat_natCast]
 have hnn:¬ ((p:Int) < 0):=by omega
 have hwt:IntKind.wrap .i64 (B.tick+10)=B.tick+10:=by rw [IntKind.wrap_i64];omega
 rw [hkp];clear hask hany hkp hfr;obtain⟨lb,lf,hla,hlw,-,hlc⟩:=HK.o.les.full' (by omega);subst hla;obtain⟨_,hcl⟩:=hlc p hpl;have c3:=(hcl.below HB3.o hlw).c3;have xb0:=FB.o.cell;clear hlc hcl
 by_cases hlt:B.ls[p].fr < am
 . have HDP3:Hd (Zcp B d t r am=(B,3)):=by unfold Hd;rw [HDP.o,if_pos hlt]
   have x0:=FX.o.cell;have r0:=FR.o.cell;have g0:=FR.o.free;go_wp2_with (first|(go_at_call 37;refine (ZgO _ _ HSD.o.1).mono ?_;rintro e w' ⟨rfl,rfl⟩)|(go_at_call 38;refine (inF _ _ _ _).mono ?_;rintro e w' ⟨rfl,rfl⟩));refine bodyPost_ret (v:=.tuple #[.agg #[.int .i64 B.now,.int .i64 B.tick,.int .i64 B.given,.slice b0 B.os.length m0,.slice b1 B.gs.length m1,.slice b2 B.ls.length m2,.slice b3 B.ps.length m3],.int .i64 3]) (by simp [results,results9,go_sem,r0]) rfl ?_;rw [HDA.o,HDP3.o];exact HNO.o _ 3 HB3.o HO3.o (by omega) _ _ _ _ _ _ _
 have hlB:=FB.o.lt;have xb1:∀ o i,(w3.alloc o).cell? ⟨w.heap.size+1,i,none⟩=_:=fun o i=>(Zai _ _ _ _ hlB).trans (xb0 i)
 go_wp2_with (first|(go_at_call 37;refine (ZgO _ _ HSD.o.1).mono ?_;rintro e w' ⟨rfl,rfl⟩)|(go_at_call 38;refine (inF _ _ _ _).mono ?_;rintro e w' ⟨rfl,rfl⟩));clear xb0 xb1 c3 hlw;generalize hWp:w3.alloc _=Wp;have hbp:Below w3.heap.size w3 Wp:=by rw [<- hWp];exact Zac _ _
 have FP:Hd (Box Wp w3.heap.size #[.string d,.string t,.string r,.int .i64 am,.int .i64 (B.tick+10)]):=by rw [<- hWp];exact Box.new _ _ _ _ rfl
 have hsp:Wp.heap.size=w3.heap.size+1:=by rw [<- hWp];simp
 have HBp:Hd (Zw_ w Wp):=bt HB3.o hbp;have HOp:=Zab (HO3.o.below hbp);replace FX:=Zab (FX.o.on hbp);replace FR:=Zab (FR.o.on hbp);replace FB:=Zab (FB.o.on hbp);clear hWp hbp HO3 HB3;refine (ZkT 0 _ _ _ _ B _ d t r (HK.o.below HBp.o)).mono ?_;rintro e w4 ⟨rfl,hb4⟩;have HB4:Hd (Zw_ w w4):=bt HBp.o hb4;have HO4:=Zab (HOp.o.below hb4);have hs4:=hb4.size;replace FX:=Zab (FX.o.on hb4);replace FR:=Zab (FR.o.on hb4);replace FB:=Zab (FB.o.on hb4);replace FP:=Zab (FP.o.on hb4);clear hb4 HOp HBp;have hfl:=Zrf (Ps:=B.ps) ⟨d,t,r,am,B.tick+10⟩ HOK.o.rp
 rcases Zp9 HOK.o.rp d t r am (B.tick+10) with ⟨hth,hpo,hpa⟩ | ⟨hth,hpa⟩
 . rw [hth,if_pos rfl] at hfl
   have HDP0:Hd (Zcp B d t r am=(⟨B.now,B.tick,B.given,B.os,B.gs,ZeP B.ls p (-am),Zgz B.ps ⟨d,t,r,am+B.ps[Zda B.ps ⟨d,t,r,am,B.tick+10⟩].am,B.tick+10⟩⟩,0)):=by
    unfold Hd;rw [HDP.o,if_neg (by omega),if_neg (by omega)];unfold Zc3;rw [Zsd hth hpo]
   rw [hpa];clear hth hpa hfl HDP hlt;obtain⟨pb,pf,hpz,hpw,-,hpc⟩:=HK.o.pus.full' (by omega);subst hpz;obtain⟨_,hcl⟩:=hpc _ hpo;have q3:=(hcl.below HB4.o hpw).c3;have hap:=HOK.o.am _ hpo;generalize hQ:Zda B.ps ⟨d,t,r,am,B.tick+10⟩=q at*;have x6:=FB.o.cell 6;have p3:=FP.o.cell 3;have f3:=FP.o.free 3;simp at x6 p3;have FS:=Zab (FP.o.set (k:=3) (.int .i64 (am+B.ps[q].am)) (by simp));have hnq:¬ ((q:Int) < 0):=by omega
   have hgq:(0:Int)<=(q:Int):=by omega
   clear hpc hcl;go_wp2
   go_cut [] from 18 (fun wc=>Zad w3.heap.size (w3.heap.size+1) w4 wc/\Box wc w3.heap.size #[.string d,.string t,.string r,.int .i64 (am+B.ps[q].am),.int .i64 (B.tick+10)])
   case first=>
    go_region
    all_goals go_wp2
    all_goals go_meet
    all_goals exact⟨(Zad.setB _ _ _ _).trans (Zad.below (Zb_.drew)),by simpa using FS.o.drew⟩
   case rest=>
   revert wc;intro w5 hcut;obtain⟨ht5,hp5⟩:=hcut;have hs5:=ht5.size;have FPq:=Zab hp5;replace FX:=Zab (FX.o.touch ht5 (by omega));replace FR:=Zab (FR.o.touch ht5 (by omega));have HO5:=Zab (HO4.o.touch ht5 (by omega));have HB5:Hd (Zw_ w w5):=HB4.o.trans ((ht5.under (by omega)).mono (by omega));clear ht5 hp5 q3 x6 p3 f3 FS FP FB HO4 HB4 hpw;obtain⟨o0,o1,g0,g1,l0,l1,q0,q1,ha,hOo,hGo,hLo,hPo⟩:=HO5.o;have HAP:=Zab ha;have HOo:=Zab hOo;have HGo:=Zab hGo;have HPo:=Zab hPo;obtain⟨xb,xf,hxa⟩:=hLo.some (by omega);subst hxa;obtain⟨xb',xf',e',hxw,-,hc⟩:=hLo.at.full' (by omega);injection e' with e'
   injection e' with e1 e2
   subst e1 e2;obtain⟨_,hcl⟩:=hc p hpl;have c3:=hcl.c3;have fz:=hLo.frz (by omega);have hfp:=HOK.o.fr' p hpl;have HFR:=Zab (hLo.free hpl (-am));clear ha hOo hGo hLo hPo hc hcl;have x5:=FX.o.cell 5;simp at x5;have hws:IntKind.wrap .i64 (B.ls[p].fr - am)=B.ls[p].fr - am:=by rw [IntKind.wrap_i64];omega
   have hsub:B.ls[p].fr - am=B.ls[p].fr+ -am:=Int.sub_eq_add_neg;go_wp2
   go_cut [] from 18 (fun wc=>Zad l0 l1 w5 wc/\ZaW l0 l1 wc (.slice (some ⟨xb,xf,none⟩) B.ls.length m2) (ZeP B.ls p (-am)))
   case first=>
    rw [<- hsub] at HFR
    go_region
    all_goals go_wp2
    all_goals go_meet
    all_goals exact⟨HFR.o.2.trans (Zad.below (Zb_.drew)),HFR.o.1.below (Zb_.drew)⟩
   case rest=>
   revert wc;intro wz hcut;obtain⟨htz,hlz⟩:=hcut;have hA:=HAP.o;obtain⟨⟨y1,y2⟩,⟨y3,y4⟩,⟨y5,y6⟩,⟨y7,y8⟩,yog,yol,yop,ygl,ygp,ylp⟩:=hA;have hsz:=htz.size;have FXz:=Zab (FX.o.touch htz (by omega));have FRz:=Zab (FR.o.touch htz (by omega));have FPz:=Zab (FPq.o.touch htz (by omega));have HOz:=Zab (HOo.o.touch htz (by omega));have HGz:=Zab (HGo.o.touch htz (by omega));have HPz:=Zab (HPo.o.touch htz (by omega));have HLz:=Zab hlz;have HBz:Hd (Zw_ w wz):=HB5.o.trans ((htz.wide (lo':=w.heap.size) (hi':=w5.heap.size+1) (by omega) (by omega)).under (by omega));clear htz hlz c3 fz x5 FX FR HOo HGo HPo HFR FPq HB5 HO5 hxw;have x6:=FXz.o.cell 6;have p0:=FPz.o.cell;simp at x6;go_wp2_with fail;clear x6 p0;refine (ZkD q0 _ B.ps ⟨d,t,r,am+B.ps[q].am,B.tick+10⟩ _ HPz.o.at (by omega) HOK.o.rp ⟨HSD.o.1,HSD.o.2.1,HSD.o.2.2⟩).mono ?_
   rintro e w6 ⟨v6,rfl,hb6,ho6⟩;obtain⟨a6,c6,rfl⟩:=ho6.form;have hs6:=hb6.size;have HP6:=Zab ho6;have FX6:=Zab (FXz.o.on hb6);have FR6:=Zab (FRz.o.on hb6);have HO6:=Zab (HOz.o.below hb6);have HG6:=Zab (HGz.o.below hb6);have HL6:=Zab (HLz.o.below hb6);have HB6:Hd (Zw_ w w6):=bt HBz.o hb6;clear hb6 ho6 FXz FRz FPz HOz HGz HPz HLz HBz;have FX7:=Zab (FX6.o.set (k:=6) (.slice a6 (Zgz B.ps ⟨d,t,r,am+B.ps[q].am,B.tick+10⟩).length c6) (by simp));have FR7:=Zab (FR6.o.setFar (p:=⟨w2.heap.size,6,none⟩) (by dsimp;omega) (.slice a6 (Zgz B.ps ⟨d,t,r,am+B.ps[q].am,B.tick+10⟩).length c6));have x0:=FX7.o.cell;have r0:=FR7.o.cell;have gz:=FR7.o.free;have f6:=FX6.o.free 6;have x6:=FX6.o.cell 6;simp at x6;generalize hpl6:(Zgz B.ps ⟨d,t,r,am+B.ps[q].am,B.tick+10⟩).length=n6 at*;go_wp2;clear x0 f6 x6
   refine bodyPost_ret (v:=.tuple #[.agg #[.int .i64 B.now,.int .i64 B.tick,.int .i64 B.given,.slice b0 B.os.length m0,.slice b1 B.gs.length m1,.slice (some ⟨xb,xf,none⟩) B.ls.length m2,.slice a6 n6 c6],.int .i64 0]) (by simp [results,results9,go_sem,r0]) rfl ?_;rw [HDA.o,HDP0.o,<- hpl6];have hfl:=Zch B.ls p (-am);refine⟨b0,m0,b1,m1,some ⟨xb,xf,none⟩,m2,a6,c6,by simp only [hfl],?_,?_⟩
   . repeat (refine Below.setCell ?_ (by dsimp;omega) _)
     exact HB6.o
   . have ht7:Zad w2.heap.size (w2.heap.size+1) w6 (w6.setCell ⟨w2.heap.size,6,none⟩ (.slice a6 (Zgz B.ps ⟨d,t,r,am+B.ps[q].am,B.tick+10⟩).length c6)):=Zad.setB _ _ _ _
     refine Zaw.wide (lo:=w1.heap.size) (hi:=w6.heap.size) ?_ (by omega) (by simp [World.setCell]);rw [<- hpl6] at HP6
     iterate 7 (refine Zaw.setLow ?_ (by dsimp;omega) _)
     simp only [hfl];exact⟨o0,o1,g0,g1,l0,l1,wz.heap.size,w6.heap.size,⟨⟨y1,by omega⟩,⟨y3,by omega⟩,⟨y5,by omega⟩,⟨by omega,by omega⟩,yog,yol,by omega,ygl,by omega,by omega⟩,HO6.o.touch ht7 (by omega),HG6.o.touch ht7 (by omega),HL6.o.touch ht7 (by omega),HP6.o.touch ht7 (by omega)⟩
 . rw [hth] at hfl
   simp only [Bool.false_eq_true,if_false] at hfl;rw [hpa];have x6:=FB.o.cell 6;simp at x6
   by_cases hfull:24<=B.ps.length
   . have HDP4:Hd (Zcp B d t r am=(B,4)):=by unfold Hd;rw [HDP.o,if_neg (by omega),if_pos (by omega)]
     have hfi:(24:Int)<=(B.ps.length:Int):=by omega
     have x0:=FX.o.cell;have r0:=FR.o.cell;have g0:=FR.o.free;go_wp2;refine bodyPost_ret (v:=.tuple #[.agg #[.int .i64 B.now,.int .i64 B.tick,.int .i64 B.given,.slice b0 B.os.length m0,.slice b1 B.gs.length m1,.slice b2 B.ls.length m2,.slice b3 B.ps.length m3],.int .i64 4]) (by simp [results,results9,go_sem,r0]) rfl ?_;rw [HDA.o,HDP4.o];exact HNO.o _ 4 HB4.o HO4.o (by omega) _ _ _ _ _ _ _
   have hfi:¬ ((24:Int)<=(B.ps.length:Int)):=by omega
   have HDP0:Hd (Zcp B d t r am=(⟨B.now,B.tick,B.given,B.os,B.gs,ZeP B.ls p (-am),Zgz B.ps ⟨d,t,r,am+0,B.tick+10⟩⟩,0)):=by
    unfold Hd;rw [HDP.o,if_neg (by omega),if_neg (by omega)];unfold Zc3;rw [Zta hth]
   have hz0:am+0=am:=Int.add_zero am;rw [hz0] at HDP0;clear hth hpa hfl HDP hlt hfull;obtain⟨o0,o1,g0,g1,l0,l1,q0,q1,ha,hOo,hGo,hLo,hPo⟩:=HO4.o;have HAP:=Zab ha;have HOo:=Zab hOo;have HGo:=Zab hGo;have HPo:=Zab hPo;obtain⟨xb,xf,hxa⟩:=hLo.some (by omega);subst hxa;obtain⟨xb',xf',e',hxw,-,hc⟩:=hLo.at.full' (by omega);injection e' with e'
   injection e' with e1 e2
   subst e1 e2;obtain⟨_,hcl⟩:=hc p hpl;have c3:=hcl.c3;have fz:=hLo.frz (by omega);have hfp:=HOK.o.fr' p hpl;have HFR:=Zab (hLo.free hpl (-am));clear ha hOo hGo hLo hPo hc hcl;have x5:=FX.o.cell 5;simp at x5;have hws:IntKind.wrap .i64 (B.ls[p].fr - am)=B.ls[p].fr - am:=by rw [IntKind.wrap_i64];omega
   have hsub:B.ls[p].fr - am=B.ls[p].fr+ -am:=Int.sub_eq_add_neg;go_wp2
   go_cut [] from 18 (fun wc=>Zad l0 l1 w4 wc/\ZaW l0 l1 wc (.slice (some ⟨xb,xf,none⟩) B.ls.length m2) (ZeP B.ls p (-am)))
   case first=>
    rw [<- hsub] at HFR
    go_region
    all_goals go_wp2
    all_goals go_meet
    all_goals exact⟨HFR.o.2.trans (Zad.below (Zb_.drew)),HFR.o.1.below (Zb_.drew)⟩
   case rest=>
   revert wc;intro wz hcut;obtain⟨htz,hlz⟩:=hcut;have hA:=HAP.o;obtain⟨⟨y1,y2⟩,⟨y3,y4⟩,⟨y5,y6⟩,⟨y7,y8⟩,yog,yol,yop,ygl,ygp,ylp⟩:=hA;have hsz:=htz.size;have FXz:=Zab (FX.o.touch htz (by omega));have FRz:=Zab (FR.o.touch htz (by omega));have FPz:=Zab (FP.o.touch htz (by omega));have HOz:=Zab (HOo.o.touch htz (by omega));have HGz:=Zab (HGo.o.touch htz (by omega));have HPz:=Zab (HPo.o.touch htz (by omega));have HLz:=Zab hlz;have HBz:Hd (Zw_ w wz):=HB4.o.trans ((htz.wide (lo':=w.heap.size) (hi':=w4.heap.size+1) (by omega) (by omega)).under (by omega));clear htz hlz c3 fz x5 FX FR HOo HGo HPo HFR FP HB4 HO4 hxw;have x6:=FXz.o.cell 6;have p0:=FPz.o.cell;simp at x6;go_wp2_with fail;clear x6 p0;refine (ZkD q0 _ B.ps ⟨d,t,r,am,B.tick+10⟩ _ HPz.o.at (by omega) HOK.o.rp ⟨HSD.o.1,HSD.o.2.1,HSD.o.2.2⟩).mono ?_;rintro e w6 ⟨v6,rfl,hb6,ho6⟩
   obtain⟨a6,c6,rfl⟩:=ho6.form;have hs6:=hb6.size;have HP6:=Zab ho6;have FX6:=Zab (FXz.o.on hb6);have FR6:=Zab (FRz.o.on hb6);have HO6:=Zab (HOz.o.below hb6);have HG6:=Zab (HGz.o.below hb6);have HL6:=Zab (HLz.o.below hb6);have HB6:Hd (Zw_ w w6):=bt HBz.o hb6;clear hb6 ho6 FXz FRz FPz HOz HGz HPz HLz HBz;have FX7:=Zab (FX6.o.set (k:=6) (.slice a6 (Zgz B.ps ⟨d,t,r,am,B.tick+10⟩).length c6) (by simp));have FR7:=Zab (FR6.o.setFar (p:=⟨w2.heap.size,6,none⟩) (by dsimp;omega) (.slice a6 (Zgz B.ps ⟨d,t,r,am,B.tick+10⟩).length c6));have x0:=FX7.o.cell;have r0:=FR7.o.cell;have gz:=FR7.o.free;have f6:=FX6.o.free 6;have x6:=FX6.o.cell 6;simp at x6;generalize hpl6:(Zgz B.ps ⟨d,t,r,am,B.tick+10⟩).length=n6 at*;go_wp2;clear x0 f6 x6
   refine bodyPost_ret (v:=.tuple #[.agg #[.int .i64 B.now,.int .i64 B.tick,.int .i64 B.given,.slice b0 B.os.length m0,.slice b1 B.gs.length m1,.slice (some ⟨xb,xf,none⟩) B.ls.length m2,.slice a6 n6 c6],.int .i64 0]) (by simp [results,results9,go_sem,r0]) rfl ?_;rw [HDA.o,HDP0.o,<- hpl6];have hfl:=Zch B.ls p (-am);refine⟨b0,m0,b1,m1,some ⟨xb,xf,none⟩,m2,a6,c6,by simp only [hfl],?_,?_⟩
   . repeat (refine Below.setCell ?_ (by dsimp;omega) _)
     exact HB6.o
   . have ht7:Zad w2.heap.size (w2.heap.size+1) w6 (w6.setCell ⟨w2.heap.size,6,none⟩ (.slice a6 (Zgz B.ps ⟨d,t,r,am,B.tick+10⟩).length c6)):=Zad.setB _ _ _ _
     refine Zaw.wide (lo:=w1.heap.size) (hi:=w6.heap.size) ?_ (by omega) (by simp [World.setCell]);rw [<- hpl6] at HP6
     iterate 7 (refine Zaw.setLow ?_ (by dsimp;omega) _)
     simp only [hfl];exact⟨o0,o1,g0,g1,l0,l1,wz.heap.size,w6.heap.size,⟨⟨y1,by omega⟩,⟨y3,by omega⟩,⟨y5,by omega⟩,⟨by omega,by omega⟩,yog,yol,by omega,ygl,by omega,by omega⟩,HO6.o.touch ht7 (by omega),HG6.o.touch ht7 (by omega),HL6.o.touch ht7 (by omega),HP6.o.touch ht7 (by omega)⟩
end
end Go.Proofs.YtfohnageehneoaaGreat
