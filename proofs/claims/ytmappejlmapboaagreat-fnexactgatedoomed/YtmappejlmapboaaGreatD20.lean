import Derived.Test.YtmappejlmapboaaGreatD18
import Derived.Test.YtmappejlmapboaaGreatD19
import Derived.RangeFuncWrites
import Derived.Maps.OwnIn
set_option maxHeartbeats 16000000
set_option maxRecDepth 100000
open Go.Proofs.Tryz
namespace Go.Proofs.YtmappejlmapboaaGreat
section
open Go.RowKit Go.Deep
variable {L:List Int} {k:Nat}
def orL:List Int->Int
 | []=>0
 | x :: r=>if x=0 then orL r else x
theorem ZsG {a b c d e f:Zy_} (h:a≠d):Znz a b c d e f=ZcM a d:=by
 unfold Znz orI;rw [if_neg (fun h0=>h (ZeM.1 h0))]
theorem ZsF {a b c d e f:Zy_} (h:a=d):Znz a b c d e f=Zfs b c e f:=by
 unfold Znz Zfs;rw [ZeM.2 h]
 rfl
theorem Zsa (hk:k < L.length) (h:L[k]=0):orL (L.drop k)=orL (L.drop (k+1)):=by
 rw [List.drop_eq_getElem_cons hk,orL,if_pos h]
theorem Zsb (hk:k < L.length) (h:L[k]≠0):orL (L.drop k)=L[k]:=by
 rw [List.drop_eq_getElem_cons hk,orL,if_neg h]
theorem ZqJ (a b:Int):orL [a,b]=orI a b:=by simp only [orL];unfold orI;split <;> (try split) <;> omega
theorem ZqI (a b c:Int):orL [a,b,c]=orI a (orI b c):=by simp only [orL];unfold orI;split <;> (try split) <;> (try split) <;> omega
theorem ZhG (w:World) (b off cap:Nat) (L:List Int) (hm:L.length<=1000) (hc:∀ i (h:i < L.length),w.cell? ⟨b,off+i,none⟩=some (.int .i64 L[i])) :
 Calls prog 239 #[.slice (some ⟨b,off,none⟩) L.length cap] w fun e w'=>e=.returned (.int .i64 (orL L))/\w'=w:=by
 go_enter func239,ntmps239;go_wp2
 go_loop [8] (fun i=>∃ k:Nat,i=.int .i64 k/\k<=L.length/\orL L=orL (L.drop k)) (fun i=>L.length - (intOf i).toNat)
 case atStart=>exact⟨0,rfl,by omega,by simp⟩
 case round=>
  obtain⟨k,rfl,hk,he⟩:=hrel;have HE:=Zab he;clear he
  by_cases hlt:k < L.length
  . have c:=hc k hlt
    by_cases h0:L[k]=0
    . have HS:=Zab (Zsa hlt h0)
      have h0':(L[k] != 0)=false:=by simp [h0]
      clear h0;go_wp2
      go_round
      . exact⟨k+1,by go_num,by omega,HE.o.trans HS.o⟩
      . simp [intOf];omega
    . have HS:=Zab (Zsb hlt h0)
      have h0':(L[k] != 0)=true:=by simp [h0]
      clear h0;go_wp2;go_ret;exact⟨ZaE (by rw [HE.o,HS.o]),rfl⟩
  . have HS:Hd (orL (L.drop k)=0):=by unfold Hd;rw [List.drop_of_length_le (by omega)];rfl
    go_wp2;go_ret;exact⟨ZaE (by rw [HE.o,HS.o]),rfl⟩
theorem ZlH (x y:Ob) (va:Option Addr) (vn vc:Nat) (ha:Option Addr) (hn hc:Nat) (va':Option Addr) (vn' vc':Nat) (ha':Option Addr) (hn' hc':Nat) (w:World) :
 Calls prog 211 #[.agg #[.string x.kd,.string x.nm,.string x.tm,.slice va vn vc,.bool x.en,.slice ha hn hc,.int .i64 x.ver],.agg #[.string y.kd,.string y.nm,.string y.tm,.slice va' vn' vc',.bool y.en,.slice ha' hn' hc',.int .i64 y.ver]] w fun e w'=>e=.returned (.int .i64 (Zfs x.kd x.nm y.kd y.nm))/\Zw_ w w':=by
 have HO:Hd (orL [ZcM x.kd y.kd,ZcM x.nm y.nm]=Zfs x.kd x.nm y.kd y.nm):=ZqJ _ _;go_enter func211,ntmps211;go_wp2;generalize hWa:(World.alloc (w.alloc _) _)=Wa;have HBa:Hd (Zw_ w Wa):=by rw [<- hWa];exact (Zac w _).alloc (by simp) _
 have FA:Hd (Box Wa w.heap.size #[.string x.kd,.string x.nm,.string x.tm,.slice va vn vc,.bool x.en,.slice ha hn hc,.int .i64 x.ver]):=by rw [<- hWa];exact (Box.new _ _ _ _ rfl).on (Zac _ _)
 have FB:Hd (Box Wa (w.heap.size+1) #[.string y.kd,.string y.nm,.string y.tm,.slice va' vn' vc',.bool y.en,.slice ha' hn' hc',.int .i64 y.ver]):=by rw [<- hWa];exact Box.new _ _ _ _ (by simp)
 clear hWa
 go_region_held3 (ZbA Wa w.heap.size #[.string x.kd,.string x.nm,.string x.tm,.slice va vn vc,.bool x.en,.slice ha hn hc,.int .i64 x.ver] (w.heap.size+1) #[.string y.kd,.string y.nm,.string y.tm,.slice va' vn' vc',.bool y.en,.slice ha' hn' hc',.int .i64 y.ver])
  (first
    | (with_reducible exact ZbA.drew FA.o FB.o)
    | (with_reducible exact ZbA.on (by assumption) Zb_)
    | (with_reducible exact ZbA.on (by assumption) (Zac _ _))
    | (with_reducible exact ZbA.on (by assumption) (by assumption)))
  (first
    | (go_at_call 240
       refine (Zgx _ _ _).mono ?_;rintro e w1 ⟨rfl,rfl⟩)
    | (go_at_call 239
       refine (ZhG _ _ _ _ [ZcM x.kd y.kd,ZcM x.nm y.nm] (by simp) ?_).mono ?_
       . intro i hi
         have hi':i=0\/i=1:=by simp at hi;omega
         rcases hi' with rfl | rfl <;> simp
       rintro e w2 ⟨rfl,rfl⟩))
 go_wp2;go_ret;exact⟨ZaE HO.o,(HBa.o.trans ((Zac _ _).mono HBa.o.size)).drew⟩
theorem Zgw (x y:Le) (w:World) :
 Calls prog 219 #[.agg #[.string x.tm,.string x.re,.int .i64 x.mo,.int .i64 x.fr],.agg #[.string y.tm,.string y.re,.int .i64 y.mo,.int .i64 y.fr]] w fun e w'=>e=.returned (.int .i64 (Zfs x.tm x.re y.tm y.re))/\Zw_ w w':=by
 have HO:Hd (orL [ZcM x.tm y.tm,ZcM x.re y.re]=Zfs x.tm x.re y.tm y.re):=ZqJ _ _;go_enter func219,ntmps219;go_wp2;generalize hWa:(World.alloc (w.alloc _) _)=Wa;have HBa:Hd (Zw_ w Wa):=by rw [<- hWa];exact (Zac w _).alloc (by simp) _
 have FA:Hd (Box Wa w.heap.size #[.string x.tm,.string x.re,.int .i64 x.mo,.int .i64 x.fr]):=by rw [<- hWa];exact (Box.new _ _ _ _ rfl).on (Zac _ _)
 have FB:Hd (Box Wa (w.heap.size+1) #[.string y.tm,.string y.re,.int .i64 y.mo,.int .i64 y.fr]):=by rw [<- hWa];exact Box.new _ _ _ _ (by simp)
 clear hWa
 go_region_held3 (ZbA Wa w.heap.size #[.string x.tm,.string x.re,.int .i64 x.mo,.int .i64 x.fr] (w.heap.size+1) #[.string y.tm,.string y.re,.int .i64 y.mo,.int .i64 y.fr])
  (first
    | (with_reducible exact ZbA.drew FA.o FB.o)
    | (with_reducible exact ZbA.on (by assumption) Zb_)
    | (with_reducible exact ZbA.on (by assumption) (Zac _ _))
    | (with_reducible exact ZbA.on (by assumption) (by assumption)))
  (first
    | (go_at_call 240
       refine (Zgx _ _ _).mono ?_;rintro e w1 ⟨rfl,rfl⟩)
    | (go_at_call 239
       refine (ZhG _ _ _ _ [ZcM x.tm y.tm,ZcM x.re y.re] (by simp) ?_).mono ?_
       . intro i hi
         have hi':i=0\/i=1:=by simp at hi;omega
         rcases hi' with rfl | rfl <;> simp
       rintro e w2 ⟨rfl,rfl⟩))
 go_wp2;go_ret;exact⟨ZaE HO.o,(HBa.o.trans ((Zac _ _).mono HBa.o.size)).drew⟩
theorem ZnC (x y:Pu) (w:World) :
 Calls prog 221 #[.agg #[.string x.dr,.string x.tm,.string x.re,.int .i64 x.am,.int .i64 x.un],.agg #[.string y.dr,.string y.tm,.string y.re,.int .i64 y.am,.int .i64 y.un]] w fun e w'=>e=.returned (.int .i64 (Znz x.dr x.tm x.re y.dr y.tm y.re))/\Zw_ w w':=by
 have HO:Hd (orL [ZcM x.dr y.dr,ZcM x.tm y.tm,ZcM x.re y.re]=Znz x.dr x.tm x.re y.dr y.tm y.re):=ZqI _ _ _;go_enter func221,ntmps221;go_wp2;generalize hWa:(World.alloc (w.alloc _) _)=Wa;have HBa:Hd (Zw_ w Wa):=by rw [<- hWa];exact (Zac w _).alloc (by simp) _
 have FA:Hd (Box Wa w.heap.size #[.string x.dr,.string x.tm,.string x.re,.int .i64 x.am,.int .i64 x.un]):=by rw [<- hWa];exact (Box.new _ _ _ _ rfl).on (Zac _ _)
 have FB:Hd (Box Wa (w.heap.size+1) #[.string y.dr,.string y.tm,.string y.re,.int .i64 y.am,.int .i64 y.un]):=by rw [<- hWa];exact Box.new _ _ _ _ (by simp)
 clear hWa
 go_region_held3 (ZbA Wa w.heap.size #[.string x.dr,.string x.tm,.string x.re,.int .i64 x.am,.int .i64 x.un] (w.heap.size+1) #[.string y.dr,.string y.tm,.string y.re,.int .i64 y.am,.int .i64 y.un])
  (first
    | (with_reducible exact ZbA.drew FA.o FB.o)
    | (with_reducible exact ZbA.on (by assumption) Zb_)
    | (with_reducible exact ZbA.on (by assumption) (Zac _ _))
    | (with_reducible exact ZbA.on (by assumption) (by assumption)))
  (first
    | (go_at_call 240
       refine (Zgx _ _ _).mono ?_;rintro e w1 ⟨rfl,rfl⟩)
    | (go_at_call 239
       refine (ZhG _ _ _ _ [ZcM x.dr y.dr,ZcM x.tm y.tm,ZcM x.re y.re] (by simp) ?_).mono ?_
       . intro i hi
         have hi':i=0\/i=1\/i=2:=by simp at hi;omega
         rcases hi' with rfl | rfl | rfl <;> simp
       rintro e w2 ⟨rfl,rfl⟩))
 go_wp2;go_ret;exact⟨ZaE HO.o,(HBa.o.trans ((Zac _ _).mono HBa.o.size)).drew⟩
theorem Zcs (x y:Pu) (w:World) :
 Calls prog 135 #[.agg #[.string x.dr,.string x.tm,.string x.re,.int .i64 x.am,.int .i64 x.un],.agg #[.string y.dr,.string y.tm,.string y.re,.int .i64 y.am,.int .i64 y.un]] w fun e w'=>e=.returned (.int .i64 (Znz x.dr x.tm x.re y.dr y.tm y.re))/\Zw_ w w':=by
 have HW:∀ o o',Hd (Zw_ w ((w.alloc o).alloc o')):=fun o o'=>(Zb_.alloc Zl_ _).alloc (by simp) _
 cases h:(x.dr.toList == y.dr.toList) with
 | true=>
  have HE:=Zab (ZsF (b:=x.tm) (c:=x.re) (e:=y.tm) (f:=y.re) (Zaz.1 h));go_enter func135,ntmps135;go_wp2_with (go_at_call 128;refine (Zdn _ _ _ _ _).mono ?_;rintro e w' ⟨rfl,rfl⟩);go_ret;exact⟨ZaE HE.o.symm,(HW _ _).o⟩
 | false=>
  have HE:=Zab (ZsG (b:=x.tm) (c:=x.re) (e:=y.tm) (f:=y.re) (Zf2.1 h));go_enter func135,ntmps135;go_wp2_with (go_at_call 172;refine (ZhY _ _ _).mono ?_;rintro e w' ⟨rfl,rfl⟩);go_ret;exact⟨ZaE HE.o.symm,(HW _ _).o⟩
end
section
open Go.RowKit Go.Deep Go.Shelf Go.Maps
variable {ds:List Nat} {wr wr':World}
attribute [local go_sem] Oper.semAt_some
def Zid (ds:List Nat):List Deferred:=ds.map fun d=>{ target:=.collected d,args:=#[] }
theorem Zkv {B:Nat} (W:World) {d:Nat} (o:Obj) (hd:B<=d) (hlt:d < W.heap.size):Below B W (W.putObj d o):=by
 have g:=grownBy_putObj' W d o;exact⟨g.os,g.tape,g.output,g.size,fun k hk=>g.block k (by omega) (fun e=>by have:=Option.some.inj e;omega)⟩
theorem Zg4 {F:Fence}{n:Nat}{P:Program}{fn:Func}{tmps:Array Value}{R:Ending->World->Prop} (B:Nat):∀ (ds:List Nat) (W:World),ds.Nodup->(∀ d ∈ ds,B<=d/\W.heap[d]?=some (.deferred (some [])))->
 (∀ W',Below B W W'->LeavesIn F n P fn tmps R [] .returning W')->LeavesInM F n P fn tmps R (Zid ds) .returning W
 | [],W,_,_,h=>h W Zb_
 | d :: ds,W,hn,hd,h=>by
  obtain⟨h1,h2⟩:=hd d (List.mem_cons_self ..);obtain⟨n1,n2⟩:=List.nodup_cons.1 hn;have hb:=Zkv W (.deferred none) h1 (Array.getElem?_eq_some_iff.1 h2).1;refine⟨by simp,.inl ⟨d,_,rfl,run_takeDeferred h2,Zg4 B ds _ n2 (fun e he=>?_) (fun W' hW'=>h W' (hb.trans hW'))⟩⟩;obtain⟨g1,g2⟩:=hd e (List.mem_cons_of_mem _ he);have hne:e≠d:=fun e'=>n1 (e' ▸ he)
  exact⟨g1,((grownBy_putObj' W d _).block e (Array.getElem?_eq_some_iff.1 g2).1 (fun e'=>hne (Option.some.inj e'))).trans g2⟩
theorem Box.of_block {w w':World}{β:Nat}{cs:Array Value} (h:Box w β cs) (e:w'.heap[β]?=w.heap[β]?):Box w' β cs:=
 ⟨by have:=h.lt;rw [Array.getElem?_eq_getElem this] at e;exact (Array.getElem?_eq_some_iff.1 e).1,fun i=>(World.cell?_of_block (a:=⟨β,i,none⟩) e).trans (h.cell i),fun i=>(World.frozen?_of_block (a:=⟨β,i,none⟩) e).trans (h.free i)⟩
structure ZrH (w:World) (T:List Tri) (ds:List Nat) (wr:World):Prop where
 own:∃ D:DataW Unit,wr.ownsMap prog 251 (plainElem prog 3) w.heap.size T.length D/\ZfZ T D
 below:Zw_ w wr
 ptr:Box wr (w.heap.size+1) #[.map (some w.heap.size)]
 mks:∀ d ∈ ds,w.heap.size+2<=d/\wr.heap[d]?=some (.deferred (some []))
 nd:ds.Nodup
theorem ZrH.grow {w:World}{T:List Tri}{row:Option Nat} (h:ZrH w T ds wr) (hg:wr.grownBy wr' row) (hr:∀ r,row=some r->w.heap.size+1 < r/\r ∉ ds):ZrH w T ds wr':=by
 obtain⟨D,ho,hs⟩:=h.own;have hz:=h.below.size;refine⟨⟨D,ho.kept hg (fun e=>by have:=(hr _ e.symm).1;omega),hs⟩,?_,?_,fun d hd=>?_,h.nd⟩
 . exact h.below.trans ⟨hg.os,hg.tape,hg.output,hg.size,fun k hk=>hg.block k (by omega) (fun e=>by have:=(hr _ e.symm).1;omega)⟩
 . exact h.ptr.of_block (hg.block _ h.ptr.lt (fun e=>by have:=(hr _ e.symm).1;omega))
 . obtain⟨h1,h2⟩:=h.mks d hd
   exact⟨h1,(hg.block d (Array.getElem?_eq_some_iff.1 h2).1 (fun e=>(hr _ e.symm).2 hd)).trans h2⟩
theorem ZrH.add {w:World}{A:List Tri}{α:Type}{pre:List α}{f:α->Tri}{x:α}{D:DataW Unit} (h:ZrH w (A ++ pre.map f) ds wr) (hg:wr.grownBy wr' (some w.heap.size))
 (ho:wr'.ownsMap prog 251 (plainElem prog 3) w.heap.size ((A ++ pre.map f).length+1) D) (hs:ZfZ (A ++ pre.map f ++ [f x]) D):ZrH w (A ++ (pre ++ [x]).map f) ds wr':=by
 have e:A ++ (pre ++ [x]).map f=A ++ pre.map f ++ [f x]:=by simp
 have hz:=h.below.size;rw [e];refine⟨⟨D,by rw [show (A ++ pre.map f ++ [f x]).length=(A ++ pre.map f).length+1 by simp [Nat.add_assoc]];exact ho,hs⟩,?_,?_,fun d hd=>?_,h.nd⟩
 . exact h.below.trans ⟨hg.os,hg.tape,hg.output,hg.size,fun k hk=>hg.block k (by omega) (fun e=>by have:=Option.some.inj e;omega)⟩
 . exact h.ptr.of_block (hg.block _ h.ptr.lt (fun e=>by have:=Option.some.inj e;omega))
 . obtain⟨h1,h2⟩:=h.mks d hd
   exact⟨h1,(hg.block d (Array.getElem?_eq_some_iff.1 h2).1 (fun e=>by have:=Option.some.inj e;omega)).trans h2⟩
theorem Zjw {Fs:List Fd}{V:List Zy_}:∀ {k:Nat} {p:Zy_×Int},p ∈ ZaV Fs V k->∃ f ∈ Fs,p.1=f.we
 | 0,p,h=>by simp [ZaV] at h
 | k+1,p,h=>by
  rw [ZaV] at h
  rcases List.mem_append.1 h with h | h
  . exact Zjw h
  . split at h
    . rename_i f s hf _
      split at h
      . simp at h
        subst h;exact⟨f,List.mem_of_getElem? hf,rfl⟩
      . simp at h
    . simp at h
theorem Zjt {lo:Nat}{w:World}{sv:Value}{Ss:List Sh} (hS:ZaI lo w sv Ss) {kind:Zy_} {V:List Zy_} (sk:kind.size<=maxLen) (p:Zy_×Int) (hp:p ∈ Ze2 Ss kind V):p.1.size<=maxLen:=by
 unfold Ze2 at hp
 split at hp
 . rename_i x hx
   split at hp
   . rcases List.mem_append.1 hp with h | h
     . unfold ZdJ at h
       split at h
       . simp at h
       . simp at h
         subst h;exact sk
     . obtain⟨f,hf,e⟩:=Zjw h
       obtain⟨i,hi,rfl⟩:=List.getElem_of_mem (List.mem_of_find?_eq_some hx);obtain⟨j,hj,rfl⟩:=List.getElem_of_mem hf
       rcases hS with ⟨_,_,_,rfl⟩ | ⟨b,off,cap,h1,h2,h3,h4,h5,h7⟩
       . simp at hi
       . obtain⟨hs,fv,c0,c1,hF⟩:=h7 i hi
         rcases hF with ⟨_,_,_,e0⟩ | ⟨b',off',cap',g1,g2,g3,g4,g5,g7⟩
         . simp [e0] at hj
         . rw [e]
           exact (g7.2 j hj).1.s10
   . simp at hp
 . simp at hp
section
variable (lo:Nat) (sv ov:Value) (Ss:List Sh) (Os:List Ob) (w:World)
theorem ZmQ (hS:ZaI lo w sv Ss) (hO:Za3 lo w ov Os) (hn:Zbg Os) :
 Calls prog 159 #[sv,ov] w
  fun e w'=>e=.returned (.map (some w.heap.size))/\Zw_ w w'/\∃ D:DataW Unit,w'.ownsMap prog 251 (plainElem prog 3) w.heap.size (ZcE Ss Os).length D/\ZfZ (ZcE Ss Os) D:=by
 have HS:=Zab hS;have HO:=Zab hO;obtain⟨a,cap,rfl⟩:=hS.form;obtain⟨oa,ocap,rfl⟩:=hO.form;have hm:=HO.o.max;unfold maxLen at hm;clear hS hO;refine (callsIn_wide (n:=5)).1 ?_;refine callsIn_of_wp_marks func159 rfl trivial ?_ rfl;simp only [ntmps159,List.size_toArray,List.length_cons,List.length_nil,Nat.reduceAdd,Nat.reduceSub,Array.replicate_succ,Array.replicate_zero,List.push_toArray,List.append_toArray,List.nil_append,List.cons_append];have hmm:=@run_makeMap prog
 gi_wp2
 clear hmm
 refine wpIn_loop (fun a' wr=>∃ (k:Nat) (ds:List Nat) (u7 u14 u15 u16 u17 u18 u19 u32:Value),
  (k<=Os.length/\ZrH w (ZcE Ss (Os.take k)) ds wr)/\
  a'={ tmps:=#[.slice a Ss.length cap,.slice oa Os.length ocap,undef,undef,.map none,.pointer (some ⟨w.heap.size+1,0,none⟩),undef,u7,undef,undef,.map (some w.heap.size),.slice oa Os.length ocap,.int .i64 Os.length,.int .i64 k,u14,u15,u16,u17,u18,u19,undef,undef,undef,undef,undef,undef,undef,undef,undef,undef,undef,undef,u32,undef],defers:=Zid ds })
  (fun a' _=>Os.length - (intOf (a'.tmps.getD 13 undef)).toNat) ?_ ?_
 . refine⟨0,[],undef,undef,undef,undef,undef,undef,undef,undef,⟨Nat.zero_le _,?_⟩,rfl⟩
   refine⟨⟨.map [],?_,ZfZ.start⟩,?_,?_,fun d hd=>absurd hd List.not_mem_nil,List.nodup_nil⟩
   . exact (World.ownsMap_made _ _ _ _).alloc _
   . exact (Zac _ _).trans ((Zac _ _).mono (by simp))
   . exact Box.new _ _ _ _ (by simp)
 . rintro _ wr ⟨k,ds,u7,u14,u15,u16,u17,u18,u19,u32,⟨hk,hW⟩,rfl⟩
   have HW:=Zab hW;clear hW
   by_cases hlt:k < Os.length
   . have hb:=HW.o.below
     have hw0:=hb.size;obtain⟨b,off,rfl,hbw,-,hc⟩:=HO.o.full' (by omega);obtain⟨hs,vv0,vv1,hcell,hv0,hv1⟩:=hc k hlt;obtain⟨c0,c1,c2,c3,c4,c5,c6⟩:=hcell.below hb hbw;have HV:=Zab hv0.at;obtain⟨va,vcap,rfl⟩:=hv0.at.form';obtain⟨ha,hcap,rfl⟩:=hv1.at.form';have HZ:=Zab hs;have HN:Hd (Os[k].vs.length<=1048576):=(hn.2 k hlt).1;clear hc hcell hv0 hv1 hs hb
     gi_wp2_with fail
     refine⟨trivial,(Zpq Os[k].kd Os[k].nm Os[k].tm Os[k].en Os[k].ver _ Fence.wide _ trivial rfl a Ss.length cap va Os[k].vs.length vcap ha Os[k].hs.length hcap).mono ?_⟩;rintro e w1 ⟨rfl,hw1⟩
     obtain⟨wl,hwl,HX7,HX1,HX2,HWl,hsz⟩:∃ wl,wl=w1/\Hd (Box wl wr.heap.size #[.string Os[k].kd,.string Os[k].nm,.string Os[k].tm,.slice va Os[k].vs.length vcap,.bool Os[k].en,.slice ha Os[k].hs.length hcap,.int .i64 Os[k].ver])/\Hd (Box wl (wr.heap.size+1) #[.slice a Ss.length cap])/\Hd (Box wl (wr.heap.size+1+1) #[.string Os[k].kd,.string Os[k].nm,.string Os[k].tm,.slice va Os[k].vs.length vcap,.bool Os[k].en,.slice ha Os[k].hs.length hcap,.int .i64 Os[k].ver])/\Hd (ZrH w (ZcE Ss (Os.take k)) ds wl)/\wl.heap.size=wr.heap.size+3:=by
      refine⟨_,rfl,?_,?_,?_,?_,?_⟩
      . rw [hw1];exact ((Box.new _ _ _ _ rfl).on (Zac _ _)).on (Zac _ _)
      . rw [hw1];exact (Box.new _ _ _ _ (by simp)).on (Zac _ _)
      . rw [hw1];exact Box.new _ _ _ _ (by simp)
      . rw [hw1];exact ((HW.o.grow (World.grownBy_alloc _ _ none) (fun r e=>by cases e)).grow (World.grownBy_alloc _ _ none) (fun r e=>by cases e)).grow (World.grownBy_alloc _ _ none) (fun r e=>by cases e)
      . rw [hw1];simp
     subst hwl;clear hw1
     gi_wp2
     have hdl:∀ d ∈ ds,d < wl.heap.size:=fun d hd=>(Array.getElem?_eq_some_iff.1 (HWl.o.mks d hd).2).1
     have hlen:(ZcE Ss (Os.take k)).length<=1048576*1048577:=by
      have:=ZlC Ss (Os.take k) (fun o ho=>by
       obtain⟨i,hi,rfl⟩:=List.getElem_of_mem (List.mem_of_mem_take ho);exact (hn.2 i hi).1)
      have h1:=hn.1;have h2:=List.length_take_le k Os;exact Nat.le_trans this (Nat.mul_le_mul_right _ (by omega))
     refine wpIn_rangeFunc_ownG rfl (by decide) (gf:=228) (lb:=#[.pointer (some ⟨wr.heap.size+1,0,none⟩),.pointer (some ⟨wr.heap.size+1+1,0,none⟩)]) rfl trivial (enters_of func228 (by kernel_rfl) rfl)
      (ZiL lo _ Ss Os[k].kd Os[k].nm Os[k].tm _ _ Os[k].en Os[k].ver Os[k].vs wl _ HZ.o.s0 (by decide) (fun k=>k=w.heap.size) w _ _ HWl.o.below HS.o HV.o HN.o (fun k hk he=>by omega) (by omega) (fun k hk he=>by omega) HX1.o HX2.o)
      Zay.trans Zay.put Zb_ (fun _=>rfl)
      (fun pre W=>ZrH w (ZcE Ss (Os.take k) ++ pre.map fun p=>(Os[k].tm,Zc5 p.1,p.2)) ds W/\Box W wr.heap.size #[.string Os[k].kd,.string Os[k].nm,.string Os[k].tm,.slice va Os[k].vs.length vcap,.bool Os[k].en,.slice ha Os[k].hs.length hcap,.int .i64 Os[k].ver])
      (fun _ _ _=>False)
      (fun s A B row hs hg hr=>⟨hs.1.grow hg (fun r e=>⟨by have:=(hr r e).1;omega,fun hd=>by have:=(hr r e).1;have:=hdl r hd;omega⟩),hs.2.of_block (hg.block _ hs.2.lt (fun e=>by have:=(hr _ e.symm).1;omega))⟩)
      (fun _ _ _ _ _ hs _ _=>hs)
      ⟨by simpa using HWl.o,HX7.o⟩
      (fun x=>{ tmps:=#[.slice a Ss.length cap,.slice (some ⟨b,off,none⟩) Os.length ocap,undef,undef,.map none,.pointer (some ⟨w.heap.size+1,0,none⟩),undef,.pointer (some ⟨wr.heap.size,0,none⟩),.string (Zc5 x.1),.int .i64 x.2,.map (some w.heap.size),.slice (some ⟨b,off,none⟩) Os.length ocap,.int .i64 Os.length,.int .i64 k,.bool true,.pointer (some ⟨b,off+k*7,none⟩),.agg #[.string Os[k].kd,.string Os[k].nm,.string Os[k].tm,.slice va Os[k].vs.length vcap,.bool Os[k].en,.slice ha Os[k].hs.length hcap,.int .i64 Os[k].ver],.slice a Ss.length cap,.agg #[.string Os[k].kd,.string Os[k].nm,.string Os[k].tm,.slice va Os[k].vs.length vcap,.bool Os[k].en,.slice ha Os[k].hs.length hcap,.int .i64 Os[k].ver],.func (.func 228) #[] #[.pointer (some ⟨wr.heap.size+1,0,none⟩),.pointer (some ⟨wr.heap.size+1+1,0,none⟩)],.string (Zc5 x.1),.int .i64 x.2,undef,undef,undef,undef,undef,undef,undef,undef,undef,undef,u32,undef],defers:=[] }) ?assign ?body ?done ?stop
     case assign=>
      intro l x W K hK
      gi_wp2
      exact hK
     case body=>
      rintro l pre x W ⟨hWe,hX⟩ hpl;have HWe:=Zab hWe;have HX:=Zab hX;obtain⟨D,ho,hsum⟩:=hWe.own;have hpl':pre.length<=1048577:=by have:=HN.o;omega
      obtain⟨c,v0,st,w1,hent,hat,hwc,hl0,hl1,hg1,hs1,hst⟩:=ZkB Zf0 underlying218 underlying3 ZjB ho.drew (by unfold maxLen;simp;omega) (Zet.mk' HZ.o.s2 (ZcW x.1));have ew:IntKind.i64.wrap (c+x.2)=wrap64 (c+x.2):=IntWalk.i64_left _;obtain⟨w2,hrun2,ho2,hg2,hs2⟩:=hst (IntKind.i64.wrap (c+x.2)) (by rw [ew];exact wrap64_wf _);rw [ew] at ho2;have HO2:=Zab ho2;have HG2:=Zab hg2;have HAT:=Zab hat;have HSUM:=Zab hsum;clear ew hst ho2 hg2 hg1 hat hsum ho;have p0:=hWe.ptr.cell 0;have x2:=hX.cell 2;simp at p0 x2;simp only [goInt] at hent hrun2;clear hWe hX;refine wpIn_mono (Q:=fun e _ W'=>e=.normal/\W'=w2) ?_ ?_
      . clear HWe HX HO2 HG2 HAT HSUM HS HV HN HZ HX1 HX2 HX7 HWl HW hs1 hs2 hpl hpl' hdl hlen hm hk hn c0 c1 c2 c3 c4 c5 c6 hsz hw0 hwc
        gi_wp2
        generalize Os[k].tm=T at*;generalize Zc5 x.1=R at*;generalize x.2=N at*;refine Zha (by kernel_rfl) (by kernel_rfl) ?_;refine wpAnyIn_take (i:=1) (v:=?v1) rfl rfl (by kernel_rfl) (by kernel_rfl) (by kernel_rfl) (fun _ _ _ h=>h) ⟨Or.inl ⟨by rfl,?hy1⟩,fun _=>rfl⟩ ?rest1
        case hy1=>(intro w;go_simp;try with_reducible rfl)
        refine wpAnyIn_take (i:=3) (v:=?v2) rfl rfl (by kernel_rfl) (by kernel_rfl) (by kernel_rfl) (fun _ _ _ h=>h) ⟨Or.inl ⟨by rfl,?hy2⟩,fun _=>rfl⟩ ?rest2
        case hy2=>(intro w;go_simp;try with_reducible rfl)
        refine wpAnyIn_take (i:=6) (v:=?v3) rfl rfl (by kernel_rfl) (by kernel_rfl) (by kernel_rfl) (fun _ _ _ h=>h) ⟨Or.inl ⟨by rfl,?hy3⟩,fun _=>rfl⟩ ?rest3
        case hy3=>(intro w;go_simp;try with_reducible rfl)
        refine wpAnyIn_ready (rs:=[0,2]) (by kernel_rfl) (by simp) ?_;refine AllReadyIn.cons rfl (fun K hK=>?_) (AllReadyIn.cons rfl (fun K hK=>?_) AllReadyIn.nil)
        . go_simp
          refine hK _ _ ?_;clear hK K;refine wpAnyIn_ready (rs:=[2]) (by kernel_rfl) (by simp) ?_;refine AllReadyIn.cons rfl (fun K hK=>?_) AllReadyIn.nil
          go_simp
          refine hK _ _ ?_;clear hK K;refine wpAnyIn_take (i:=4) (v:=?v4) rfl rfl (by kernel_rfl) (by kernel_rfl) (by kernel_rfl) (fun _ _ _ h=>h) ⟨Or.inl ⟨by rfl,?hy4⟩,fun _=>rfl⟩ ?rest4
          case hy4=>(intro w;go_simp;try with_reducible rfl)
          refine wpAnyIn_ready (rs:=[5,8]) (by kernel_rfl) (by simp) ?_;refine AllReadyIn.cons rfl (fun K hK=>?_) (AllReadyIn.cons rfl (fun K hK=>?_) AllReadyIn.nil)
          . go_simp
            refine hK _ _ ?_;clear hK K;refine wpAnyIn_take (i:=7) (v:=?v5) rfl rfl (by kernel_rfl) (by kernel_rfl) (by kernel_rfl) (fun _ _ _ h=>h) ⟨Or.inl ⟨by rfl,?hy5⟩,fun _=>rfl⟩ ?rest5
            case hy5=>(intro w;go_simp;try with_reducible rfl)
            refine wpAnyIn_ready (rs:=[8]) (by kernel_rfl) (by simp) ?_;refine AllReadyIn.cons rfl (fun K hK=>?_) AllReadyIn.nil
            go_simp
            refine hK _ _ ?_;clear hK K;refine wpAnyIn_take (i:=9) (v:=?v6) rfl rfl (by kernel_rfl) (by kernel_rfl) (by kernel_rfl) (fun _ _ _ h=>h) ⟨Or.inl ⟨by rfl,?hy6⟩,fun _=>rfl⟩ ?rest6
            case hy6=>(intro w;go_simp;try with_reducible rfl)
            refine wpAnyIn_ready (rs:=[10]) (by kernel_rfl) (by simp) ?_;refine AllReadyIn.cons rfl (fun K hK=>?_) AllReadyIn.nil
            go_simp
            refine hK _ _ ?_;clear hK K;refine wpAnyIn_done (by kernel_rfl) ?_ _;exact⟨rfl,rfl⟩
          . go_simp
            refine hK _ _ ?_;clear hK K;refine wpAnyIn_take (i:=9) (v:=?v7) rfl rfl (by kernel_rfl) (by kernel_rfl) (by kernel_rfl) (fun _ _ _ h=>h) ⟨Or.inl ⟨by rfl,?hy7⟩,fun _=>rfl⟩ ?rest7
            case hy7=>(intro w;go_simp;try with_reducible rfl)
            refine wpAnyIn_ready (rs:=[5]) (by kernel_rfl) (by simp) ?_;refine AllReadyIn.cons rfl (fun K hK=>?_) AllReadyIn.nil
            go_simp
            refine hK _ _ ?_;clear hK K;refine wpAnyIn_take (i:=7) (v:=?v8) rfl rfl (by kernel_rfl) (by kernel_rfl) (by kernel_rfl) (fun _ _ _ h=>h) ⟨Or.inl ⟨by rfl,?hy8⟩,fun _=>rfl⟩ ?rest8
            case hy8=>(intro w;go_simp;try with_reducible rfl)
            refine wpAnyIn_ready (rs:=[10]) (by kernel_rfl) (by simp) ?_;refine AllReadyIn.cons rfl (fun K hK=>?_) AllReadyIn.nil
            go_simp
            refine hK _ _ ?_;clear hK K;refine wpAnyIn_done (by kernel_rfl) ?_ _;exact⟨rfl,rfl⟩
        . go_simp
          refine hK _ _ ?_;clear hK K;refine wpAnyIn_take (i:=4) (v:=?v9) rfl rfl (by kernel_rfl) (by kernel_rfl) (by kernel_rfl) (fun _ _ _ h=>h) ⟨Or.inl ⟨by rfl,?hy9⟩,fun _=>rfl⟩ ?rest9
          case hy9=>(intro w;go_simp;try with_reducible rfl)
          refine wpAnyIn_ready (rs:=[0]) (by kernel_rfl) (by simp) ?_;refine AllReadyIn.cons rfl (fun K hK=>?_) AllReadyIn.nil
          go_simp
          refine hK _ _ ?_;clear hK K;refine wpAnyIn_ready (rs:=[5,8]) (by kernel_rfl) (by simp) ?_;refine AllReadyIn.cons rfl (fun K hK=>?_) (AllReadyIn.cons rfl (fun K hK=>?_) AllReadyIn.nil)
          . go_simp
            refine hK _ _ ?_;clear hK K;refine wpAnyIn_take (i:=7) (v:=?v10) rfl rfl (by kernel_rfl) (by kernel_rfl) (by kernel_rfl) (fun _ _ _ h=>h) ⟨Or.inl ⟨by rfl,?hy10⟩,fun _=>rfl⟩ ?rest10
            case hy10=>(intro w;go_simp;try with_reducible rfl)
            refine wpAnyIn_ready (rs:=[8]) (by kernel_rfl) (by simp) ?_;refine AllReadyIn.cons rfl (fun K hK=>?_) AllReadyIn.nil
            go_simp
            refine hK _ _ ?_;clear hK K;refine wpAnyIn_take (i:=9) (v:=?v11) rfl rfl (by kernel_rfl) (by kernel_rfl) (by kernel_rfl) (fun _ _ _ h=>h) ⟨Or.inl ⟨by rfl,?hy11⟩,fun _=>rfl⟩ ?rest11
            case hy11=>(intro w;go_simp;try with_reducible rfl)
            refine wpAnyIn_ready (rs:=[10]) (by kernel_rfl) (by simp) ?_;refine AllReadyIn.cons rfl (fun K hK=>?_) AllReadyIn.nil
            go_simp
            refine hK _ _ ?_;clear hK K;refine wpAnyIn_done (by kernel_rfl) ?_ _;exact⟨rfl,rfl⟩
          . go_simp
            refine hK _ _ ?_;clear hK K;refine wpAnyIn_take (i:=9) (v:=?v12) rfl rfl (by kernel_rfl) (by kernel_rfl) (by kernel_rfl) (fun _ _ _ h=>h) ⟨Or.inl ⟨by rfl,?hy12⟩,fun _=>rfl⟩ ?rest12
            case hy12=>(intro w;go_simp;try with_reducible rfl)
            refine wpAnyIn_ready (rs:=[5]) (by kernel_rfl) (by simp) ?_;refine AllReadyIn.cons rfl (fun K hK=>?_) AllReadyIn.nil
            go_simp
            refine hK _ _ ?_;clear hK K;refine wpAnyIn_take (i:=7) (v:=?v13) rfl rfl (by kernel_rfl) (by kernel_rfl) (by kernel_rfl) (fun _ _ _ h=>h) ⟨Or.inl ⟨by rfl,?hy13⟩,fun _=>rfl⟩ ?rest13
            case hy13=>(intro w;go_simp;try with_reducible rfl)
            refine wpAnyIn_ready (rs:=[10]) (by kernel_rfl) (by simp) ?_;refine AllReadyIn.cons rfl (fun K hK=>?_) AllReadyIn.nil
            go_simp
            refine hK _ _ ?_;clear hK K;refine wpAnyIn_done (by kernel_rfl) ?_ _;exact⟨rfl,rfl⟩
      . rintro e a' W' ⟨rfl,rfl⟩
        have g:=HG2.o;have hpt:=HW.o.ptr.lt;have hg:W.grownBy W' (some w.heap.size):=⟨g.os,g.tape,g.output,g.size,g.block⟩
        exact⟨KeepsFrom.of_grownBy hg (fun j e=>by cases e;omega),⟨hg.os,hg.tape,hg.output,hg.size,fun j o hj hS _=>(hg.block j (Array.getElem?_eq_some_iff.1 hj).1 (fun e=>hS (Option.some.inj e))).trans hj⟩,
         HWe.o.add hg HO2.o (HSUM.o.step HZ.o.s2 (ZcW _) HAT.o x.2),HX.o.of_block (hg.block _ HX.o.lt (fun e=>by have:=Option.some.inj e;omega))⟩
     case done=>
      rintro D ys W hD rfl ⟨hWe,hX⟩ hK;have HWe:=Zab hWe;clear hWe hX
      gi_wp2
      refine⟨⟨k+1,D :: ds,_,_,_,_,_,_,_,_,⟨by omega,?_⟩,rfl⟩,?_⟩
      . have e:ZcE Ss (Os.take (k+1))=ZcE Ss (Os.take k) ++ (Ze2 Ss Os[k].kd Os[k].vs).map fun p=>(Os[k].tm,Zc5 p.1,p.2):=by
         rw [List.take_succ_eq_append_getElem hlt,Zps]
         congr 1
         refine List.map_congr_left fun p hp=>?_
         rw [ZeO (Zjt HS.o HZ.o.s0 p hp)]
        rw [e];have hpt:=HWl.o.ptr.lt
        exact⟨HWe.o.own,HWe.o.below,HWe.o.ptr,fun d hd=>by
         rcases List.mem_cons.1 hd with rfl | hd
         . exact⟨by omega,hK⟩
         . exact HWe.o.mks d hd,List.nodup_cons.2 ⟨fun hd=>by have:=hdl D hd;omega,HWe.o.nd⟩⟩
      . simp [intOf];omega
     case stop=>
      rintro D c pre W _ _ h _;exact h.elim
   . have he:k=Os.length:=by omega
     subst he;have p0:=HW.o.ptr.cell 0;simp at p0
     gi_wp2
     refine Zg4 (w.heap.size+2) ds wr HW.o.nd HW.o.mks (fun W' hb=>⟨_,results_tmp rfl _ _ _,rfl,HW.o.below.trans (hb.mono (by omega)),?_⟩);obtain⟨D,ho,hsum⟩:=HW.o.own;rw [List.take_length] at ho hsum;exact⟨D,ZcA ho (hb.block _ (by omega)),hsum⟩
end
end
open Go.ChangeShapes Go.WideShapes Go.ChangeAt Go.RowKit Go.Deep
variable {l cs:List Value} {fuel:Nat} {c:Value}
theorem Zuu (h:l.length=7):∃ c0 c1 c2 c3 c4 c5 c6,l=[c0,c1,c2,c3,c4,c5,c6]:=by
 match l,h with
 | [c0,c1,c2,c3,c4,c5,c6],_=>exact⟨c0,c1,c2,c3,c4,c5,c6,rfl⟩
section
variable {H:Type} {enc:TypeId×Value->H} {W:World}
theorem Ztf {x:DataW H×List MemPlace} (h:DataW.trod enc prog W 0 (fun _=>true) true fuel 113 cs=some x) :
 ∃ (x:Ob) (vv0:Value) (vv1:Value),cs=[.string x.kd,.string x.nm,.string x.tm,vv0,.bool x.en,vv1,.int .i64 x.ver]/\Zaq 0 W vv0 x.vs/\Zaq 0 W vv1 x.hs/\Zdg x:=by
 obtain⟨xs,n,_,_,hl,hlen,hfld⟩:=DataW.trod_struct underlying113 h;obtain⟨c0,c1,c2,c3,c4,c5,c6,rfl⟩:=Zuu (hl.trans Tryz.cells113);simp only [Array.size,List.length_cons,List.length_nil] at hlen;have g0:DataW.trod enc prog W 0 (fun _=>true) true n 9 ((([c0,c1,c2,c3,c4,c5,c6]:List Value).drop 0).take (prog.cellsOf 9))=xs[0]?:=hfld 0 _ rfl;have g1:DataW.trod enc prog W 0 (fun _=>true) true n 9 ((([c0,c1,c2,c3,c4,c5,c6]:List Value).drop 1).take (prog.cellsOf 9))=xs[1]?:=hfld 1 _ rfl;have g2:DataW.trod enc prog W 0 (fun _=>true) true n 9 ((([c0,c1,c2,c3,c4,c5,c6]:List Value).drop 2).take (prog.cellsOf 9))=xs[2]?:=hfld 2 _ rfl;have g3:DataW.trod enc prog W 0 (fun _=>true) true n 111 ((([c0,c1,c2,c3,c4,c5,c6]:List Value).drop 3).take (prog.cellsOf 111))=xs[3]?:=hfld 3 _ rfl
 have g4:DataW.trod enc prog W 0 (fun _=>true) true n 4 ((([c0,c1,c2,c3,c4,c5,c6]:List Value).drop 4).take (prog.cellsOf 4))=xs[4]?:=hfld 4 _ rfl;have g5:DataW.trod enc prog W 0 (fun _=>true) true n 111 ((([c0,c1,c2,c3,c4,c5,c6]:List Value).drop 5).take (prog.cellsOf 111))=xs[5]?:=hfld 5 _ rfl;have g6:DataW.trod enc prog W 0 (fun _=>true) true n 3 ((([c0,c1,c2,c3,c4,c5,c6]:List Value).drop 6).take (prog.cellsOf 3))=xs[6]?:=hfld 6 _ rfl;simp only [Tryz.cells4,Tryz.cells3,Tryz.cells9,Tryz.cells111,List.drop_succ_cons,List.drop_zero,List.take_succ_cons,List.take_zero] at g0 g1 g2 g3 g4 g5 g6;rw [List.getElem?_eq_getElem (by omega)] at g0 g1 g2 g3 g4 g5 g6;obtain⟨q0,e0,_,s0⟩:=DataW.trod_string underlying9 g0;obtain⟨q1,e1,_,s1⟩:=DataW.trod_string underlying9 g1;obtain⟨q2,e2,_,s2⟩:=DataW.trod_string underlying9 g2;obtain⟨q3,hq3⟩:=ZgF g3
 obtain⟨q4,e4,_⟩:=DataW.trod_bool underlying4 g4;obtain⟨q5,hq5⟩:=ZgF g5;obtain⟨q6,e6,_,_⟩:=DataW.trod_int underlying3 g6;simp only [List.cons.injEq,and_true] at e0 e1 e2 e4 e6;subst e0 e1 e2 e4 e6;exact⟨⟨q0,q1,q2,q3,q4,q5,q6⟩,c3,c5,rfl,hq3.in0,hq5.in0,⟨s0,s1,s2⟩⟩
theorem Zr0 {x:DataW H×List MemPlace} (h:DataW.trod enc prog W 0 (fun _=>true) true fuel 27 [c]=some x):∃ Xl,Za3 0 W c Xl:=by
 rcases open_slice underlying27 h with ⟨hcs,_⟩ | ⟨a,len,cap,m,n,D,Pl,hcs,_,hl,hm,hmm,_,hx⟩
 . simp only [List.cons.injEq,and_true] at hcs
   exact⟨[],Or.inl ⟨_,_,hcs,rfl⟩⟩
 . simp only [List.cons.injEq,and_true] at hcs
   simp only [if_true] at hmm;subst hmm;rw [Tryz.cells113] at hx
   by_cases h0:len=0
   . subst h0
     exact⟨[],Or.inl ⟨_,_,hcs,rfl⟩⟩
   . obtain⟨Xl,hF,hall⟩:=ZbK (p:=fun i (x:Ob)=>Zdg x/\∃ vv0 vv1,Zaq 0 W vv0 x.vs/\Zaq 0 W vv1 x.hs/\W.cells? 0 (a.add (i*7)) 7=some [.string x.kd,.string x.nm,.string x.tm,vv0,.bool x.en,vv1,.int .i64 x.ver]) len (fun i hi=>by
      obtain⟨cs',h1,h2⟩:=hx i (by omega);obtain⟨md,vv0,vv1,e,hw0,hw1,hz⟩:=Ztf h2;rw [e] at h1;exact⟨md,hz,vv0,vv1,hw0,hw1,h1⟩)
     obtain⟨b,off,spot⟩:=a
     have hspot:spot=none:=by
      obtain⟨_,vv0,vv1,_,_,h1⟩:=hall 0 (by omega);have:=(World.cells?_some h1).2.2 0 (by omega);rw [Nat.zero_mul] at this;have e0:((⟨b,off,spot⟩:Addr).add 0).add 0=⟨b,off,spot⟩:=by simp [Addr.add]
      rw [e0] at this
      simpa using World.cell?_spot (by simpa using this)
     subst hspot
     have hcell:∀ i (hi:i < Xl.length) vv0 vv1,W.cells? 0 ((⟨b,off,none⟩:Addr).add (i*7)) 7=some [.string Xl[i].kd,.string Xl[i].nm,.string Xl[i].tm,vv0,.bool Xl[i].en,vv1,.int .i64 Xl[i].ver]->Zci W b (off+i*7) Xl[i] vv0 vv1:=fun i hi vv0 vv1 h1=>by
      obtain⟨_,_,hc⟩:=World.cells?_some h1;rw [add_plain] at hc;have q:=fun j (hj:j < 7)=>(add_plain b (off+i*7) j) ▸ hc j hj
      exact⟨by simpa using q 0 (by omega),by simpa using q 1 (by omega),by simpa using q 2 (by omega),by simpa using q 3 (by omega),by simpa using q 4 (by omega),by simpa using q 5 (by omega),by simpa using q 6 (by omega)⟩
     have hbw:b < W.heap.size:=by
      obtain⟨_,vv0,vv1,_,_,h1⟩:=hall 0 (by omega);exact World.block_lt_of_cell? W _ (hcell 0 (by omega) vv0 vv1 h1).c0
     refine⟨Xl,Or.inr ⟨b,off,m,by rw [hcs,hF],?_,by omega,hbw,Nat.zero_le _,by omega,fun i hi=>?_⟩⟩
     . intro e;rw [e] at hF;simp at hF;omega
     . obtain⟨hz,vv0,vv1,hw0,hw1,h1⟩:=hall i hi
       exact⟨hz,vv0,vv1,hcell i hi vv0 vv1 h1,hw0,hw1⟩
end
theorem Tryz.cells118:prog.cellsOf 118=7:=by kernel_rfl
theorem Zus (h:l.length=7):∃ c0 c1 c2 c3 c4 c5 c6,l=[c0,c1,c2,c3,c4,c5,c6]:=by
 match l,h with
 | [c0,c1,c2,c3,c4,c5,c6],_=>exact⟨c0,c1,c2,c3,c4,c5,c6,rfl⟩
section
variable {H:Type} {enc:TypeId×Value->H} {W:World}
theorem Ztd {x:DataW H×List MemPlace} (h:DataW.trod enc prog W 0 (fun _=>true) true fuel 118 cs=some x) :
 ∃ (x:Gr) (vv0:Value),cs=[.int .i64 x.nu,.string x.tw,.string x.gb,vv0,.string x.kd,.string x.tm,.string x.pf]/\Zat 0 W vv0 x.vb/\ZeE x:=by
 obtain⟨xs,n,_,_,hl,hlen,hfld⟩:=DataW.trod_struct underlying118 h;obtain⟨c0,c1,c2,c3,c4,c5,c6,rfl⟩:=Zus (hl.trans Tryz.cells118);simp only [Array.size,List.length_cons,List.length_nil] at hlen;have g0:DataW.trod enc prog W 0 (fun _=>true) true n 3 ((([c0,c1,c2,c3,c4,c5,c6]:List Value).drop 0).take (prog.cellsOf 3))=xs[0]?:=hfld 0 _ rfl;have g1:DataW.trod enc prog W 0 (fun _=>true) true n 9 ((([c0,c1,c2,c3,c4,c5,c6]:List Value).drop 1).take (prog.cellsOf 9))=xs[1]?:=hfld 1 _ rfl;have g2:DataW.trod enc prog W 0 (fun _=>true) true n 9 ((([c0,c1,c2,c3,c4,c5,c6]:List Value).drop 2).take (prog.cellsOf 9))=xs[2]?:=hfld 2 _ rfl;have g3:DataW.trod enc prog W 0 (fun _=>true) true n 116 ((([c0,c1,c2,c3,c4,c5,c6]:List Value).drop 3).take (prog.cellsOf 116))=xs[3]?:=hfld 3 _ rfl
 simp only [Tryz.cells3,Tryz.cells116,Tryz.cells9,List.drop_succ_cons,List.drop_zero,List.take_succ_cons,List.take_zero] at g0 g1 g2 g3;rw [List.getElem?_eq_getElem (by omega)] at g0 g1 g2 g3;obtain⟨q0,e0,_,_⟩:=DataW.trod_int underlying3 g0;obtain⟨q1,e1,_,s1⟩:=DataW.trod_string underlying9 g1;obtain⟨q2,e2,_,s2⟩:=DataW.trod_string underlying9 g2;obtain⟨q3,v3,e3,hq3,z3⟩:=Zr5 g3;simp only [List.cons.injEq,and_true] at e0 e1 e2 e3;obtain⟨r0,r1,r2,r3⟩:=e3;subst e0 e1 e2 r0 r1 r2 r3;exact⟨⟨q0,q1,q2,q3.vb,q3.kd,q3.tm,q3.pf⟩,_,rfl,hq3,⟨s1,s2,z3.s1,z3.s2,z3.s3⟩⟩
theorem ZrY {x:DataW H×List MemPlace} (h:DataW.trod enc prog W 0 (fun _=>true) true fuel 28 [c]=some x):∃ Xl,ZbX 0 W c Xl:=by
 rcases open_slice underlying28 h with ⟨hcs,_⟩ | ⟨a,len,cap,m,n,D,Pl,hcs,_,hl,hm,hmm,_,hx⟩
 . simp only [List.cons.injEq,and_true] at hcs
   exact⟨[],Or.inl ⟨_,_,hcs,rfl⟩⟩
 . simp only [List.cons.injEq,and_true] at hcs
   simp only [if_true] at hmm;subst hmm;rw [Tryz.cells118] at hx
   by_cases h0:len=0
   . subst h0
     exact⟨[],Or.inl ⟨_,_,hcs,rfl⟩⟩
   . obtain⟨Xl,hF,hall⟩:=ZbK (p:=fun i (x:Gr)=>ZeE x/\∃ vv0,Zat 0 W vv0 x.vb/\W.cells? 0 (a.add (i*7)) 7=some [.int .i64 x.nu,.string x.tw,.string x.gb,vv0,.string x.kd,.string x.tm,.string x.pf]) len (fun i hi=>by
      obtain⟨cs',h1,h2⟩:=hx i (by omega);obtain⟨md,vv0,e,hw0,hz⟩:=Ztd h2;rw [e] at h1;exact⟨md,hz,vv0,hw0,h1⟩)
     obtain⟨b,off,spot⟩:=a
     have hspot:spot=none:=by
      obtain⟨_,vv0,_,h1⟩:=hall 0 (by omega);have:=(World.cells?_some h1).2.2 0 (by omega);rw [Nat.zero_mul] at this;have e0:((⟨b,off,spot⟩:Addr).add 0).add 0=⟨b,off,spot⟩:=by simp [Addr.add]
      rw [e0] at this
      simpa using World.cell?_spot (by simpa using this)
     subst hspot
     have hcell:∀ i (hi:i < Xl.length) vv0,W.cells? 0 ((⟨b,off,none⟩:Addr).add (i*7)) 7=some [.int .i64 Xl[i].nu,.string Xl[i].tw,.string Xl[i].gb,vv0,.string Xl[i].kd,.string Xl[i].tm,.string Xl[i].pf]->ZcS W b (off+i*7) Xl[i] vv0:=fun i hi vv0 h1=>by
      obtain⟨_,_,hc⟩:=World.cells?_some h1;rw [add_plain] at hc;have q:=fun j (hj:j < 7)=>(add_plain b (off+i*7) j) ▸ hc j hj
      exact⟨by simpa using q 0 (by omega),by simpa using q 1 (by omega),by simpa using q 2 (by omega),by simpa using q 3 (by omega),by simpa using q 4 (by omega),by simpa using q 5 (by omega),by simpa using q 6 (by omega)⟩
     have hbw:b < W.heap.size:=by
      obtain⟨_,vv0,_,h1⟩:=hall 0 (by omega);exact World.block_lt_of_cell? W _ (hcell 0 (by omega) vv0 h1).c0
     refine⟨Xl,Or.inr ⟨b,off,m,by rw [hcs,hF],?_,by omega,hbw,Nat.zero_le _,by omega,fun i hi=>?_⟩⟩
     . intro e;rw [e] at hF;simp at hF;omega
     . obtain⟨hz,vv0,hw0,h1⟩:=hall i hi
       exact⟨hz,vv0,hcell i hi vv0 h1,hw0⟩
end
theorem Tryz.cells121:prog.cellsOf 121=4:=by kernel_rfl
theorem Zut (h:l.length=4):∃ c0 c1 c2 c3,l=[c0,c1,c2,c3]:=by
 match l,h with
 | [c0,c1,c2,c3],_=>exact⟨c0,c1,c2,c3,rfl⟩
section
variable {H:Type} {enc:TypeId×Value->H} {W:World}
theorem Zte {x:DataW H×List MemPlace} (h:DataW.trod enc prog W 0 (fun _=>true) true fuel 121 cs=some x) :
 ∃ (x:Le),cs=[.string x.tm,.string x.re,.int .i64 x.mo,.int .i64 x.fr]/\ZeG x:=by
 obtain⟨xs,n,_,_,hl,hlen,hfld⟩:=DataW.trod_struct underlying121 h;obtain⟨c0,c1,c2,c3,rfl⟩:=Zut (hl.trans Tryz.cells121);simp only [Array.size,List.length_cons,List.length_nil] at hlen;have g0:DataW.trod enc prog W 0 (fun _=>true) true n 9 ((([c0,c1,c2,c3]:List Value).drop 0).take (prog.cellsOf 9))=xs[0]?:=hfld 0 _ rfl;have g1:DataW.trod enc prog W 0 (fun _=>true) true n 9 ((([c0,c1,c2,c3]:List Value).drop 1).take (prog.cellsOf 9))=xs[1]?:=hfld 1 _ rfl;have g2:DataW.trod enc prog W 0 (fun _=>true) true n 3 ((([c0,c1,c2,c3]:List Value).drop 2).take (prog.cellsOf 3))=xs[2]?:=hfld 2 _ rfl;have g3:DataW.trod enc prog W 0 (fun _=>true) true n 3 ((([c0,c1,c2,c3]:List Value).drop 3).take (prog.cellsOf 3))=xs[3]?:=hfld 3 _ rfl;simp only [Tryz.cells3,Tryz.cells9,List.drop_succ_cons,List.drop_zero,List.take_succ_cons,List.take_zero] at g0 g1 g2 g3
 rw [List.getElem?_eq_getElem (by omega)] at g0 g1 g2 g3;obtain⟨q0,e0,_,s0⟩:=DataW.trod_string underlying9 g0;obtain⟨q1,e1,_,s1⟩:=DataW.trod_string underlying9 g1;obtain⟨q2,e2,_,_⟩:=DataW.trod_int underlying3 g2;obtain⟨q3,e3,_,_⟩:=DataW.trod_int underlying3 g3;simp only [List.cons.injEq,and_true] at e0 e1 e2 e3;subst e0 e1 e2 e3;exact⟨⟨q0,q1,q2,q3⟩,rfl,⟨s0,s1⟩⟩
theorem ZrZ {x:DataW H×List MemPlace} (h:DataW.trod enc prog W 0 (fun _=>true) true fuel 29 [c]=some x):∃ Xl,ZbJ 0 W c Xl:=by
 rcases open_slice underlying29 h with ⟨hcs,_⟩ | ⟨a,len,cap,m,n,D,Pl,hcs,_,hl,hm,hmm,_,hx⟩
 . simp only [List.cons.injEq,and_true] at hcs
   exact⟨[],Or.inl ⟨_,_,hcs,rfl⟩⟩
 . simp only [List.cons.injEq,and_true] at hcs
   simp only [if_true] at hmm;subst hmm;rw [Tryz.cells121] at hx
   by_cases h0:len=0
   . subst h0
     exact⟨[],Or.inl ⟨_,_,hcs,rfl⟩⟩
   . obtain⟨Xl,hF,hall⟩:=ZbK (p:=fun i (x:Le)=>ZeG x/\W.cells? 0 (a.add (i*4)) 4=some [.string x.tm,.string x.re,.int .i64 x.mo,.int .i64 x.fr]) len (fun i hi=>by
      obtain⟨cs',h1,h2⟩:=hx i (by omega);obtain⟨md,e,hz⟩:=Zte h2;rw [e] at h1;exact⟨md,hz,h1⟩)
     obtain⟨b,off,spot⟩:=a
     have hspot:spot=none:=by
      obtain⟨_,h1⟩:=hall 0 (by omega);have:=(World.cells?_some h1).2.2 0 (by omega);rw [Nat.zero_mul] at this;have e0:((⟨b,off,spot⟩:Addr).add 0).add 0=⟨b,off,spot⟩:=by simp [Addr.add]
      rw [e0] at this
      simpa using World.cell?_spot (by simpa using this)
     subst hspot
     have hcell:∀ i (hi:i < Xl.length),W.cells? 0 ((⟨b,off,none⟩:Addr).add (i*4)) 4=some [.string Xl[i].tm,.string Xl[i].re,.int .i64 Xl[i].mo,.int .i64 Xl[i].fr]->ZcT W b (off+i*4) Xl[i]:=fun i hi h1=>by
      obtain⟨_,_,hc⟩:=World.cells?_some h1;rw [add_plain] at hc;have q:=fun j (hj:j < 4)=>(add_plain b (off+i*4) j) ▸ hc j hj
      exact⟨by simpa using q 0 (by omega),by simpa using q 1 (by omega),by simpa using q 2 (by omega),by simpa using q 3 (by omega)⟩
     have hbw:b < W.heap.size:=by
      obtain⟨_,h1⟩:=hall 0 (by omega);exact World.block_lt_of_cell? W _ (hcell 0 (by omega) h1).c0
     refine⟨Xl,Or.inr ⟨b,off,m,by rw [hcs,hF],?_,by omega,hbw,Nat.zero_le _,by omega,fun i hi=>?_⟩⟩
     . intro e;rw [e] at hF;simp at hF;omega
     . obtain⟨hz,h1⟩:=hall i hi
       exact⟨hz,hcell i hi h1⟩
end
theorem Tryz.cells124:prog.cellsOf 124=5:=by kernel_rfl
theorem Zuv (h:l.length=5):∃ c0 c1 c2 c3 c4,l=[c0,c1,c2,c3,c4]:=by
 match l,h with
 | [c0,c1,c2,c3,c4],_=>exact⟨c0,c1,c2,c3,c4,rfl⟩
section
variable {H:Type} {enc:TypeId×Value->H} {W:World}
theorem Ztg {x:DataW H×List MemPlace} (h:DataW.trod enc prog W 0 (fun _=>true) true fuel 124 cs=some x) :
 ∃ (x:Pu),cs=[.string x.dr,.string x.tm,.string x.re,.int .i64 x.am,.int .i64 x.un]/\ZeJ x:=by
 obtain⟨xs,n,_,_,hl,hlen,hfld⟩:=DataW.trod_struct underlying124 h;obtain⟨c0,c1,c2,c3,c4,rfl⟩:=Zuv (hl.trans Tryz.cells124);simp only [Array.size,List.length_cons,List.length_nil] at hlen;have g0:DataW.trod enc prog W 0 (fun _=>true) true n 9 ((([c0,c1,c2,c3,c4]:List Value).drop 0).take (prog.cellsOf 9))=xs[0]?:=hfld 0 _ rfl;have g1:DataW.trod enc prog W 0 (fun _=>true) true n 9 ((([c0,c1,c2,c3,c4]:List Value).drop 1).take (prog.cellsOf 9))=xs[1]?:=hfld 1 _ rfl;have g2:DataW.trod enc prog W 0 (fun _=>true) true n 9 ((([c0,c1,c2,c3,c4]:List Value).drop 2).take (prog.cellsOf 9))=xs[2]?:=hfld 2 _ rfl;have g3:DataW.trod enc prog W 0 (fun _=>true) true n 3 ((([c0,c1,c2,c3,c4]:List Value).drop 3).take (prog.cellsOf 3))=xs[3]?:=hfld 3 _ rfl
 have g4:DataW.trod enc prog W 0 (fun _=>true) true n 3 ((([c0,c1,c2,c3,c4]:List Value).drop 4).take (prog.cellsOf 3))=xs[4]?:=hfld 4 _ rfl;simp only [Tryz.cells3,Tryz.cells9,List.drop_succ_cons,List.drop_zero,List.take_succ_cons,List.take_zero] at g0 g1 g2 g3 g4;rw [List.getElem?_eq_getElem (by omega)] at g0 g1 g2 g3 g4;obtain⟨q0,e0,_,s0⟩:=DataW.trod_string underlying9 g0;obtain⟨q1,e1,_,s1⟩:=DataW.trod_string underlying9 g1;obtain⟨q2,e2,_,s2⟩:=DataW.trod_string underlying9 g2;obtain⟨q3,e3,_,_⟩:=DataW.trod_int underlying3 g3;obtain⟨q4,e4,_,_⟩:=DataW.trod_int underlying3 g4;simp only [List.cons.injEq,and_true] at e0 e1 e2 e3 e4;subst e0 e1 e2 e3 e4;exact⟨⟨q0,q1,q2,q3,q4⟩,rfl,⟨s0,s1,s2⟩⟩
theorem Zr1 {x:DataW H×List MemPlace} (h:DataW.trod enc prog W 0 (fun _=>true) true fuel 30 [c]=some x):∃ Xl,Zb9 0 W c Xl:=by
 rcases open_slice underlying30 h with ⟨hcs,_⟩ | ⟨a,len,cap,m,n,D,Pl,hcs,_,hl,hm,hmm,_,hx⟩
 . simp only [List.cons.injEq,and_true] at hcs
   exact⟨[],Or.inl ⟨_,_,hcs,rfl⟩⟩
 . simp only [List.cons.injEq,and_true] at hcs
   simp only [if_true] at hmm;subst hmm;rw [Tryz.cells124] at hx
   by_cases h0:len=0
   . subst h0
     exact⟨[],Or.inl ⟨_,_,hcs,rfl⟩⟩
   . obtain⟨Xl,hF,hall⟩:=ZbK (p:=fun i (x:Pu)=>ZeJ x/\W.cells? 0 (a.add (i*5)) 5=some [.string x.dr,.string x.tm,.string x.re,.int .i64 x.am,.int .i64 x.un]) len (fun i hi=>by
      obtain⟨cs',h1,h2⟩:=hx i (by omega);obtain⟨md,e,hz⟩:=Ztg h2;rw [e] at h1;exact⟨md,hz,h1⟩)
     obtain⟨b,off,spot⟩:=a
     have hspot:spot=none:=by
      obtain⟨_,h1⟩:=hall 0 (by omega);have:=(World.cells?_some h1).2.2 0 (by omega);rw [Nat.zero_mul] at this;have e0:((⟨b,off,spot⟩:Addr).add 0).add 0=⟨b,off,spot⟩:=by simp [Addr.add]
      rw [e0] at this
      simpa using World.cell?_spot (by simpa using this)
     subst hspot
     have hcell:∀ i (hi:i < Xl.length),W.cells? 0 ((⟨b,off,none⟩:Addr).add (i*5)) 5=some [.string Xl[i].dr,.string Xl[i].tm,.string Xl[i].re,.int .i64 Xl[i].am,.int .i64 Xl[i].un]->ZcU W b (off+i*5) Xl[i]:=fun i hi h1=>by
      obtain⟨_,_,hc⟩:=World.cells?_some h1;rw [add_plain] at hc;have q:=fun j (hj:j < 5)=>(add_plain b (off+i*5) j) ▸ hc j hj
      exact⟨by simpa using q 0 (by omega),by simpa using q 1 (by omega),by simpa using q 2 (by omega),by simpa using q 3 (by omega),by simpa using q 4 (by omega)⟩
     have hbw:b < W.heap.size:=by
      obtain⟨_,h1⟩:=hall 0 (by omega);exact World.block_lt_of_cell? W _ (hcell 0 (by omega) h1).c0
     refine⟨Xl,Or.inr ⟨b,off,m,by rw [hcs,hF],?_,by omega,hbw,Nat.zero_le _,by omega,fun i hi=>?_⟩⟩
     . intro e;rw [e] at hF;simp at hF;omega
     . obtain⟨hz,h1⟩:=hall i hi
       exact⟨hz,hcell i hi h1⟩
end
theorem Tryz.cells32:prog.cellsOf 32=7:=by kernel_rfl
theorem Tryz.cells27:prog.cellsOf 27=1:=by kernel_rfl
theorem Tryz.cells28:prog.cellsOf 28=1:=by kernel_rfl
theorem Tryz.cells29:prog.cellsOf 29=1:=by kernel_rfl
theorem Tryz.cells30:prog.cellsOf 30=1:=by kernel_rfl
section
variable {H:Type} {enc:TypeId×Value->H} {W:World}
theorem ZqH {r:Reach}{b0:Nat}{v:Value}{d:DataW H}{p:List MemPlace} (hv:Value.okWide prog W r b0 32 v) (h:DataW.Trod enc prog W 0 (fun _=>true) true 32 v d p) :
 ∃ (ov gv lv pv:Value) (B:Bk),v=.agg #[.int .i64 B.now,.int .i64 B.tick,.int .i64 B.given,ov,gv,lv,pv]/\ZaU 0 W ov gv lv pv B:=by
 obtain⟨cs,rfl,hsz⟩:=okWide_struct underlying32 hv;obtain⟨c0,c1,c2,c3,c4,c5,c6,rfl⟩:=ZtM (hsz.trans Tryz.cells32);obtain⟨fuel,hf⟩:=h;obtain⟨xs,n,_,_,_,hlen,hfld⟩:=DataW.trod_struct underlying32 hf;simp only [Array.size,List.length_cons,List.length_nil] at hlen;have g0:DataW.trod enc prog W 0 (fun _=>true) true n 3 ((([c0,c1,c2,c3,c4,c5,c6]:List Value).drop 0).take (prog.cellsOf 3))=xs[0]?:=hfld 0 _ rfl;have g1:DataW.trod enc prog W 0 (fun _=>true) true n 3 ((([c0,c1,c2,c3,c4,c5,c6]:List Value).drop 1).take (prog.cellsOf 3))=xs[1]?:=hfld 1 _ rfl;have g2:DataW.trod enc prog W 0 (fun _=>true) true n 3 ((([c0,c1,c2,c3,c4,c5,c6]:List Value).drop 2).take (prog.cellsOf 3))=xs[2]?:=hfld 2 _ rfl;have g3:DataW.trod enc prog W 0 (fun _=>true) true n 27 ((([c0,c1,c2,c3,c4,c5,c6]:List Value).drop 3).take (prog.cellsOf 27))=xs[3]?:=hfld 3 _ rfl
 have g4:DataW.trod enc prog W 0 (fun _=>true) true n 28 ((([c0,c1,c2,c3,c4,c5,c6]:List Value).drop 4).take (prog.cellsOf 28))=xs[4]?:=hfld 4 _ rfl;have g5:DataW.trod enc prog W 0 (fun _=>true) true n 29 ((([c0,c1,c2,c3,c4,c5,c6]:List Value).drop 5).take (prog.cellsOf 29))=xs[5]?:=hfld 5 _ rfl;have g6:DataW.trod enc prog W 0 (fun _=>true) true n 30 ((([c0,c1,c2,c3,c4,c5,c6]:List Value).drop 6).take (prog.cellsOf 30))=xs[6]?:=hfld 6 _ rfl;simp only [Tryz.cells3,Tryz.cells27,Tryz.cells28,Tryz.cells29,Tryz.cells30,List.drop_succ_cons,List.drop_zero,List.take_succ_cons,List.take_zero] at g0 g1 g2 g3 g4 g5 g6;rw [List.getElem?_eq_getElem (by omega)] at g0 g1 g2 g3 g4 g5 g6;obtain⟨q0,e0,_,_⟩:=DataW.trod_int underlying3 g0;obtain⟨q1,e1,_,_⟩:=DataW.trod_int underlying3 g1;obtain⟨q2,e2,_,_⟩:=DataW.trod_int underlying3 g2
 simp only [List.cons.injEq,and_true] at e0 e1 e2;subst e0 e1 e2;obtain⟨Os,hO⟩:=Zr0 g3;obtain⟨Gs,hG⟩:=ZrY g4;obtain⟨Ls,hL⟩:=ZrZ g5;obtain⟨Ps,hP⟩:=Zr1 g6;exact⟨c3,c4,c5,c6,⟨q0,q1,q2,Os,Gs,Ls,Ps⟩,rfl,hO,hG,hL,hP⟩
end
end Go.Proofs.YtmappejlmapboaaGreat
