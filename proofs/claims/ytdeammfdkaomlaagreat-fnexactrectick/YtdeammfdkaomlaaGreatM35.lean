import Derived.Test.YtdeammfdkaomlaaGreatM31
import Derived.Test.YtdeammfdkaomlaaGreatM34
set_option maxHeartbeats 16000000
set_option maxRecDepth 100000
open Go.Proofs.Tryz
namespace Go.Proofs.YtdeammfdkaomlaaGreat
open Go.RowKit Go.Deep
theorem Zh0 (KP:Nat->Prop) (lo:Nat) (w:World) (γ ρ:Nat) (U:Rr) (b:Nat->Option Addr) (m:Nat->Nat) (S:Nat->Nat->Prop) (M:Rm) (a0:Option Addr) (k0 lx ux:Nat) (hR:Rz KP lo w γ b m S U) (kr:KP ρ) (rb:Box w ρ #[.pointer (some ⟨γ,0,none⟩)]) (hlu:lx<=ux) (hx:Zay rsL 2 w lx ux (.slice a0 M.sl.length k0) M.sl) (hxs:∀ k,lx<=k->k < ux->lo<=k/\k < w.heap.size/\k≠γ/\¬ KP k/\∀ i,i < 7->¬ S i k) :
 Calls prog 177 #[.agg (rmL M a0 k0).toArray,.pointer (some ⟨ρ,0,none⟩)] w fun e w'=>e=.returned (.tuple #[])/\Zag KP w w'/\Wk KP lo w' γ ρ (Zbl U M):=by
 have HKw:Hd (∀ k,KP k->k < w.heap.size):=fun k hk=>(hR.prot k hk).1
 have HX:=Zaa hx;have HXS:=Zaa hxs;have hρ:=rb.lt;have hγ:=hR.box.lt;have HKR:=Zaa kr
 show Calls prog 177 #[.agg #[.int .i64 M.kd,.int .i64 M.fr,.int .i64 M.tt,.int .i64 M.ba,.int .i64 M.ix,.int .i64 M.kn,.string M.tx,.slice a0 M.sl.length k0],.pointer (some ⟨ρ,0,none⟩)] w _
 go_enter func177,ntmps177
 go_upto_region 1 with fail
 obtain⟨wz,hwz,MB,hb⟩:∃ wz,wz=w.alloc (.cells #[.int .i64 M.kd,.int .i64 M.fr,.int .i64 M.tt,.int .i64 M.ba,.int .i64 M.ix,.int .i64 M.kn,.string M.tx,.slice a0 M.sl.length k0] 102)/\Hd (Box wz w.heap.size #[.int .i64 M.kd,.int .i64 M.fr,.int .i64 M.tt,.int .i64 M.ba,.int .i64 M.ix,.int .i64 M.kn,.string M.tx,.slice a0 M.sl.length k0])/\Zw_ w wz:=⟨_,rfl,Box.new _ _ _ _ rfl,Zab _ _⟩
 rw [<- hwz];clear hwz;have hsz:w.heap.size+1<=wz.heap.size:=by have:=MB.o.lt;omega
 have HR:Hd (Rz (KN KP w 1) lo wz γ b m S U):=hR.shield hb (fun k hk=>hk.imp (fun h=>h) (fun h=>⟨h.1,by omega⟩));have RB:=Zaa (rb.on hb);have HKP:Hd (Zag KP w wz):=Zag.below hb HKw.o;have HX1:=Zaa (HX.o.below hb);clear hb hR rb hx hxs kr HX;have r0:wz.cell? ⟨ρ,0,none⟩=some (.pointer (some ⟨γ,0,none⟩)):=RB.o.cell 0;have x9:wz.cell? ⟨γ,9,none⟩=some (.slice (b 2) U.he.length (m 2)):=HR.o.box.cell 9
 by_cases hlt:U.he.length < 400
 case neg=>
  have d1:decide ((U.he.length:Int) < 400)=false:=by simp;omega
  have HE:Hd (Zbl U M=U):=by unfold Hd Zbl;rw [if_neg hlt]
  go_wp2
  go_end0
  exact⟨rfl,HKP.o,by rw [HE.o];exact⟨⟨b,m,S,HR.o.shield Zb_ (fun k hk=>Or.inl (Or.inl hk))⟩,HKR.o,RB.o⟩⟩
 have d1:decide ((U.he.length:Int) < 400)=true:=by simp;omega
 have HE:Hd (Zbl U M={ U with he:=U.he ++ [{ M with fr:=U.nu }] }):=by unfold Hd Zbl;rw [if_pos hlt]
 have x0:wz.cell? ⟨γ,0,none⟩=some (.int .i64 U.nu):=HR.o.box.cell 0;have y1:wz.cell? ⟨w.heap.size,1,none⟩=some (.int .i64 M.fr):=MB.o.cell 1;have yf:=MB.o.free
 go_upto_region 3 with fail
 clear x0 y1 yf r0 x9 d1;obtain⟨w1,hw1⟩:∃ w1,w1=wz.setCell ⟨w.heap.size,1,none⟩ (.int .i64 U.nu):=⟨_,rfl⟩
 rw [<- hw1];have MB1:Hd (Box w1 w.heap.size #[.int .i64 M.kd,.int .i64 U.nu,.int .i64 M.tt,.int .i64 M.ba,.int .i64 M.ix,.int .i64 M.kn,.string M.tx,.slice a0 M.sl.length k0]):=by unfold Hd;rw [hw1];exact MB.o.set (k:=1) (.int .i64 U.nu) (by show 1 < 8;omega)
 have T1:Hd (Zad w.heap.size (w.heap.size+1) wz w1):=by unfold Hd;rw [hw1];exact Zad.setCell _ _ _ _ _ ⟨Nat.le_refl _,Nat.lt_succ_self _⟩
 clear hw1 MB;replace HR:=Zaa (HR.o.other (β:=w.heap.size) (Or.inr ⟨by omega,by omega⟩) T1.o);replace RB:=Zaa (RB.o.tch2 T1.o (Or.inl (by omega)));replace HKP:Hd (Zag KP w w1):=HKP.o.trans (Zag.touch T1.o (fun k hk=>by have:=HKw.o k hk;omega));have hw1s:wz.heap.size<=w1.heap.size:=T1.o.size
 replace HX1:Hd (Zay rsL 2 w1 lx ux (.slice a0 M.sl.length k0) M.sl):=HX1.o.touch T1.o (by
  rcases Nat.lt_or_ge lx ux with h | h
  . left;have:=(HXS.o (ux - 1) (by omega) (by omega)).2.1;omega
  . rcases Nat.lt_or_ge ux (w.heap.size+1) with h' | h'
    . left;omega
    . right;omega)
 clear T1;have r0:w1.cell? ⟨ρ,0,none⟩=some (.pointer (some ⟨γ,0,none⟩)):=RB.o.cell 0;have x9:w1.cell? ⟨γ,9,none⟩=some (.slice (b 2) U.he.length (m 2)):=HR.o.box.cell 9;have y0:w1.cell? ⟨w.heap.size,0,none⟩=some (.int .i64 M.kd):=MB1.o.cell 0;have y1:w1.cell? ⟨w.heap.size,1,none⟩=some (.int .i64 U.nu):=MB1.o.cell 1;have y2:w1.cell? ⟨w.heap.size,2,none⟩=some (.int .i64 M.tt):=MB1.o.cell 2;have y3:w1.cell? ⟨w.heap.size,3,none⟩=some (.int .i64 M.ba):=MB1.o.cell 3;have y4:w1.cell? ⟨w.heap.size,4,none⟩=some (.int .i64 M.ix):=MB1.o.cell 4;have y5:w1.cell? ⟨w.heap.size,5,none⟩=some (.int .i64 M.kn):=MB1.o.cell 5;have y6:w1.cell? ⟨w.heap.size,6,none⟩=some (.string M.tx):=MB1.o.cell 6;have y7:w1.cell? ⟨w.heap.size,7,none⟩=some (.slice a0 M.sl.length k0):=MB1.o.cell 7;refine Code.wp_mono NoPanic.imp ?_
 refine Zan (S:=fun W=>W.cell? ⟨ρ,0,none⟩=some (.pointer (some ⟨γ,0,none⟩))/\W.cell? ⟨γ,9,none⟩=some (.slice (b 2) U.he.length (m 2))/\W.cell? ⟨w.heap.size,0,none⟩=some (.int .i64 M.kd)/\W.cell? ⟨w.heap.size,1,none⟩=some (.int .i64 U.nu)/\W.cell? ⟨w.heap.size,2,none⟩=some (.int .i64 M.tt)/\W.cell? ⟨w.heap.size,3,none⟩=some (.int .i64 M.ba)/\W.cell? ⟨w.heap.size,4,none⟩=some (.int .i64 M.ix)/\W.cell? ⟨w.heap.size,5,none⟩=some (.int .i64 M.kn)/\W.cell? ⟨w.heap.size,6,none⟩=some (.string M.tx)/\W.cell? ⟨w.heap.size,7,none⟩=some (.slice a0 M.sl.length k0)) [8,9,10] (by kernel_rfl) ⟨r0,x9,y0,y1,y2,y3,y4,y5,y6,y7⟩ (fun hHeld=>?_);refine tB 0 (.pointer (some ⟨γ,0,none⟩)) [8,9,10] rfl hHeld ?_
 try simp only [Act.put,sLs]
 refine tB 1 (.pointer (some ⟨γ,0,none⟩)) [2,3,4,7,8,9,10] rfl hHeld ?_
 try simp only [Act.put,sLs]
 refine tB 2 (.pointer (some ⟨γ,0,none⟩)) [3,4,7,8,9,10] rfl hHeld ?_
 try simp only [Act.put,sLs]
 refine tB 3 (.pointer (some ⟨γ,9,none⟩)) [4,7,8,9,10] rfl hHeld ?_
 try simp only [Act.put,sLs]
 refine tB 4 (.slice (b 2) U.he.length (m 2)) [7,8,9,10] rfl hHeld ?_
 try simp only [Act.put,sLs]
 refine tB 5 (.agg #[.int .i64 M.kd,.int .i64 U.nu,.int .i64 M.tt,.int .i64 M.ba,.int .i64 M.ix,.int .i64 M.kn,.string M.tx,.slice a0 M.sl.length k0]) [6,7,8,9,10] rfl hHeld ?_
 try simp only [Act.put,sLs]
 refine oB 6 rfl (fun K hK=>?_)
 go_simp
 obtain⟨w2,hw2⟩:∃ w2,w2=(w1.alloc (.cells #[.int .i64 M.kd,.int .i64 U.nu,.int .i64 M.tt,.int .i64 M.ba,.int .i64 M.ix,.int .i64 M.kn,.string M.tx,.slice a0 M.sl.length k0] 102)).drew:=⟨_,rfl⟩
 have hb:Below w1.heap.size w1 w2:=by rw [hw2];exact (Zab w1 _).drew
 have SB:Hd (Box w2 w1.heap.size #[.int .i64 M.kd,.int .i64 U.nu,.int .i64 M.tt,.int .i64 M.ba,.int .i64 M.ix,.int .i64 M.kn,.string M.tx,.slice a0 M.sl.length k0]):=by unfold Hd;rw [hw2];exact (Box.new w1 _ _ _ rfl).drew
 rw [<- hw2];clear hw2;have hs2:=hb.size;replace HR:=Zaa (HR.o.on hb);replace RB:=Zaa (RB.o.on hb);replace HKP:Hd (Zag KP w w2):=HKP.o.trans (Zag.below hb (fun k hk=>by have:=HKw.o k hk;omega));replace HX1:=Zaa (HX1.o.below hb);replace MB1:=Zaa (MB1.o.on hb);clear hb hHeld;refine hK.out _ _ (fun _=>⟨RB.o.cell 0,HR.o.box.cell 9,MB1.o.cell 0,MB1.o.cell 1,MB1.o.cell 2,MB1.o.cell 3,MB1.o.cell 4,MB1.o.cell 5,MB1.o.cell 6,MB1.o.cell 7⟩) (fun hHx=>?_);have hHeld:=hHx (by decide);clear hK hHx
 try simp only [Act.put,sLs]
 have HRa:=Zaa (HR.o.absorb (fun k=>lx<=k/\k < ux) (fun k hk=>by
  have q:=HXS.o k hk.1 hk.2;refine⟨q.1,by omega,q.2.2.1,fun hK=>?_,q.2.2.2.2⟩
  rcases hK with hK | hK
  . exact q.2.2.2.1 hK
  . omega))
 obtain⟨L2,hng,hmap⟩:=HR.o.cp.o2;have hl2:L2.length=U.he.length:=by rw [<- hmap,List.length_map]
 obtain⟨v',w3,hrun,ht,hrow⟩:=ZjZ Zdn Zlc Zb3 (by decide) underlying32 Zcz rfl (S1:=fun k=>S 2 k\/(lx<=k/\k < ux)) (x:=({ M with fr:=U.nu },a0,k0)) 32 hng lx ux hlu HX1.o (fun k p q=>⟨by have:=(HXS.o k p q).2.1;omega,Or.inr ⟨p,q⟩,(HXS.o k p q).2.2.2.2 2 (by decide)⟩) ⟨w1.heap.size,0,none⟩ 1 (fun j u hu=>by
  rw [Addr.add_lit,Nat.zero_add,SB.o.cell j]
  simpa [Zai,mxL,rmL] using hu) (Zdt _) (by omega) (by decide) (fun k hk=>⟨Or.inl hk,(HR.o.cp.seg 2 (by decide) k hk).2⟩)
 have hmap':(L2 ++ [(({ M with fr:=U.nu },a0,k0):MX)]).map (·.1)=U.he ++ [{ M with fr:=U.nu }]:=by rw [List.map_append,hmap];rfl
 obtain⟨a',m',hv'⟩:=hrow.form;rw [show (L2 ++ [(({ M with fr:=U.nu },a0,k0):MX)]).length=(U.he ++ [{ M with fr:=U.nu }]).length by rw [<- hmap',List.length_map]] at hv';subst hv';have ht2:Zaj (fun k=>S 2 k\/(lx<=k/\k < ux)) w2 w3:=ht.wide fun _ h=>Or.inl h
 have HP:=Zaa (HRa.o.part2 (L':=U.he ++ [{ M with fr:=U.nu }]) (by rw [Zam];exact ht2) ⟨L2 ++ [(({ M with fr:=U.nu },a0,k0):MX)],by rw [Zam];exact hrow,hmap'⟩);obtain⟨nl,hnl⟩:∃ nl,nl=(U.he ++ [{ M with fr:=U.nu }]).length:=⟨_,rfl⟩
 rw [<- hnl] at HP hrun;have hkp:Zag (fun k=>k < w2.heap.size/\¬ S 2 k) w2 w3:=Zag.touchS ht fun _ h=>h
 have BG:=Zaa (HR.o.box.kept hkp ⟨HR.o.box.lt,HR.o.far 2 (by decide)⟩);have RB3:=Zaa (RB.o.kept hkp ⟨RB.o.lt,(HR.o.prot _ (Or.inl HKR.o)).2.2 2 (by decide)⟩);have MB3:=Zaa (MB1.o.kept hkp ⟨MB1.o.lt,(HR.o.prot _ (Or.inr ⟨by omega,by omega⟩)).2.2 2 (by decide)⟩);have z9:w3.cell? ⟨γ,9,none⟩=some (.slice (b 2) U.he.length (m 2)):=BG.o.cell 9;have hs3:=ht.size;clear hnl hng hmap hrow ht ht2 hkp hmap' HRa HX1 SB hl2;refine oB 7 rfl (fun K hK=>?_);refine Zae rfl (.tmp 18) (.tmp 20) 32 rfl rfl rfl hrun ?_;clear hrun hHeld;refine hK.out _ _ (fun _=>⟨RB3.o.cell 0,z9,MB3.o.cell 0,MB3.o.cell 1,MB3.o.cell 2,MB3.o.cell 3,MB3.o.cell 4,MB3.o.cell 5,MB3.o.cell 6,MB3.o.cell 7⟩) (fun _=>?_);clear hK;have gf:=BG.o.free
 try simp only [Act.put,sLs]
 refine oB 8 rfl (fun K hK=>?_)
 go_simp
 refine hK.out _ _ (fun h=>absurd (by decide) h) (fun _=>?_);clear hK K
 try simp only [Act.put,sLs]
 refine oB 9 rfl (fun K hK=>?_)
 go_simp
 refine hK.out _ _ (fun h=>absurd (by decide) h) (fun _=>?_);clear hK K
 try simp only [Act.put,sLs]
 refine oB 10 rfl (fun K hK=>?_)
 go_simp
 refine hK.out _ _ (fun h=>absurd (by decide) h) (fun _=>?_);clear hK K
 try simp only [Act.put,sLs]
 refine Zak (by kernel_rfl) ?_ _;refine NoPanic.normal ?_;clear z9 gf;obtain⟨w4,hw4⟩:∃ w4,w4=w3.setCell ⟨γ,9,none⟩ (.slice a' nl m'):=⟨_,rfl⟩
 rw [<- hw4] at HP |-;have RB4:Hd (Box w4 ρ #[.pointer (some ⟨γ,0,none⟩)]):=by unfold Hd;rw [hw4];exact RB3.o.setFar (by have:=(HR.o.prot _ (Or.inl HKR.o)).2.1;simp only [];omega) _
 clear hw4;go_wp2
 go_end0
 exact⟨rfl,HKP.o.trans (HP.o.2.less fun k hk=>Or.inl hk),by rw [HE.o];exact⟨⟨_,_,_,HP.o.1.shield Zb_ (fun k hk=>Or.inl (Or.inl hk))⟩,HKR.o,RB4.o⟩⟩
variable {j:Nat} {D:Rd}
theorem Zle (n:Nat):(Builtin.zeroCells (Value.cells (.string ⟨#[]⟩)) n).toList=List.replicate n (.string ⟨#[]⟩):=by
 have h:∀ i,((#[Value.string ⟨#[]⟩]:Array Value)[i % 1]!)=Value.string ⟨#[]⟩:=fun i=>by rw [Nat.mod_one];rfl
 simp only [Builtin.zeroCells,Value.cells,Array.toList_map,Array.toList_range];rw [show (#[Value.string ⟨#[]⟩]:Array Value).size=1 from rfl,Nat.mul_one];rw [List.map_congr_left (fun i _=>h i),List.map_const',List.length_range]
theorem Zjf (w:World) (ty:TypeId) (b o n c:Nat) (hc:∀ j,j < n->(w.cell? ⟨b,o+j,none⟩).isSome=true) (hf:∀ j,j < n->w.frozen? ⟨b,o+j,none⟩=false) :
 (Builtin.clear_ #[50] ty #[.slice (some ⟨b,o,none⟩) n c]).run prog w=.ok (.tuple #[]) (w.setCells b o (List.replicate n (.string ⟨#[]⟩))):=by
 have hst:=run_storeCells_cells (P:=prog) b o (List.replicate n (.string ⟨#[]⟩)) 0 w (by simpa using hc) (by simpa using hf) (fun v hv'=>by rw [List.eq_of_mem_replicate hv'];rfl);simp only [Nat.add_zero] at hst;have hz:=Zle n;have hq:(prog.info? 9).map (fun i=>i.zero)=some (some (.string ⟨#[]⟩)):=by kernel_rfl
 obtain⟨i0,hi,hz0⟩:∃ i,prog.info? 9=some i/\i.zero=some (.string ⟨#[]⟩):=by
  cases hh:prog.info? 9 with
  | none=>rw [hh] at hq;simp at hq
  | some i=>rw [hh] at hq;exact⟨i,rfl,by simpa using hq⟩
 cases n with
 | zero=>simp [Builtin.clear_,run_underlying underlying50];rfl
 | succ n=>simp [Builtin.clear_,run_underlying underlying50,zeroValue,typeInfo,hi,hz0,hz,hst]
theorem Zfd {X:Type}{A L:List X} (h:A.length<=j):(A ++ L.drop A.length)[j]?=L[j]?:=by
 rw [List.getElem?_append_right h,List.getElem?_drop,Nat.add_sub_cancel' h]
theorem Zfe {X:Type}{A L:List X} (h:A.length<=L.length):(A ++ L.drop A.length).length=L.length:=by
 rw [List.length_append,List.length_drop];omega
theorem Zff {X:Type}{A L:List X} (x:X) (h:A.length < L.length):(A ++ L.drop A.length).set A.length x=(A ++ [x]) ++ L.drop (A ++ [x]).length:=by
 rw [List.set_append_right _ _ Zl_,Nat.sub_self,List.drop_eq_getElem_cons h,List.set_cons_zero,List.append_assoc,List.length_append,List.length_singleton]
 rfl
structure ZjS (β τ γ:Nat) (W:World) (D:Rd) (a:Option Addr) (c:Nat):Prop where
 cb:W.cell? ⟨β,0,none⟩=some (.pointer (some ⟨τ,0,none⟩))
 ct:W.cell? ⟨τ,0,none⟩=some (.pointer (some ⟨γ,0,none⟩))
 d0:W.cell? ⟨γ,6,none⟩=some (.int .i64 D.pr)
 d1:W.cell? ⟨γ,7,none⟩=some (.int .i64 D.kn)
 d2:W.cell? ⟨γ,8,none⟩=some (.slice a D.sl.length c)
 rs:Zat 0 W (.slice a D.sl.length c) D.sl
 lb:β < W.heap.size
 lt:τ < W.heap.size
 lg:γ < W.heap.size
theorem ZjS.on {β τ γ:Nat}{W W':World}{a:Option Addr}{c:Nat} (h:ZjS β τ γ W D a c) (hb:Below W.heap.size W W'):ZjS β τ γ W' D a c:=
 ⟨(hb.cell (p:=⟨β,0,none⟩) h.lb).trans h.cb,(hb.cell (p:=⟨τ,0,none⟩) h.lt).trans h.ct,(hb.cell (p:=⟨γ,6,none⟩) h.lg).trans h.d0,(hb.cell (p:=⟨γ,7,none⟩) h.lg).trans h.d1,(hb.cell (p:=⟨γ,8,none⟩) h.lg).trans h.d2,h.rs.below hb,Zk_ h.lb hb.size,Zk_ h.lt hb.size,Zk_ h.lg hb.size⟩
theorem FR.past {w:World}{lo hi g cap:Nat}{A B:List Zy_} (h:FR tyL 1 w lo hi g cap (A ++ B)) (p:Nat) (vs:List Value) (hp:A.length<=p):FR tyL 1 (w.setCells g p vs) lo hi g cap A:=by
 refine⟨h.bs,h.up,by rw [Za6];exact h.lt,by have:=h.le;rw [List.length_append] at this;omega,h.mx,fun j hj=>World.isSome_setCells _ _ _ _ _ (h.th j hj),fun j=>by rw [World.frozen?_setCells];exact h.fz j,?_⟩;have h1:w.rangeAt g 0 (Zai tyL A):=fun j v hv=>h.rg j v (by rw [Zbg,List.getElem?_append_left (List.getElem?_eq_some_iff.1 hv).1];exact hv)
 exact World.rangeAt_setCells_apart h1 g p vs (Or.inr (Or.inl (by rw [Zaw ZbN];omega)))
def kwB (D:Rd) (t:Zy_):Bool:=Zhw (D.sl.take D.kn.toNat) t
def Zen (D:Rd) (t:Zy_):Bool:=!kwB D t
theorem Zfh (β τ γ:Nat) (W:World) (D:Rd) (a:Option Addr) (c:Nat) (t:Zy_) (h:ZjS β τ γ W D a c) (h0:0<=D.kn) (h1:D.kn<=(D.sl.length:Int)) :
 Calls prog 191 #[.string t,.pointer (some ⟨β,0,none⟩)] W fun e w'=>e=.returned (.bool (kwB D t))/\Below W.heap.size W w':=by
 have H:=Zaa h;obtain⟨cb,ct,d0,d1,d2,rs,lb,lt,lg⟩:=h;have HRS:=Zaa rs;clear rs;go_enter func191,ntmps191;go_wp2_with (go_at_call 192;refine (Zh6 0 D a c t _ HRS.o h0 h1).mono ?_;rintro e w' ⟨rfl,hb⟩;have HB:=Zaa hb;clear hb);go_ret;exact⟨rfl,HB.o⟩
def Zk4 (D:Rd) (L:List Zy_) (r:Int):Prop:=(r= -1/\∀ j (hj:j < L.length),kwB D L[j]=false)\/∃ k,∃ hk:k < L.length,r=(k:Int)/\kwB D L[k]=true/\∀ j (hj:j < L.length),j < k->kwB D L[j]=false
theorem ZeE (lo:Nat) (v:Value) (L:List Zy_) (β τ γ:Nat) (D:Rd) (da:Option Addr) (dc:Nat) (w:World) (hv:Zbf lo w v L) (hd:ZjS β τ γ w D da dc) (h0:0<=D.kn) (h1:D.kn<=(D.sl.length:Int)) :
 Calls prog 201 #[v,.func (.func 191) #[] #[.pointer (some ⟨β,0,none⟩)]] w fun e w'=>(∃ r:Int,e=.returned (.int .i64 r)/\Zk4 D L r)/\Zw_ w w':=by
 have HV:=Zaa hv;have HD:=Zaa hd;have hm:=hv.max;unfold maxLen at hm;obtain⟨a,cap,rfl⟩:=hv.form;clear hv hd;go_enter func201,ntmps201;go_wp2
 go_loopw [8] (fun i wr=>∃ k:Nat,i=.int .i64 k/\k<=L.length/\Zw_ w wr/\∀ j (hj:j < L.length),j < k->kwB D L[j]=false) (fun i _=>L.length - (intOf i).toNat)
 case atStart=>exact⟨0,rfl,by omega,Below.refl _ _,fun j _ h=>by omega⟩
 case round=>
  obtain⟨k,rfl,hk,hb,hall⟩:=hrel;have HAL:=Zaa hall;have HB:=Zaa hb;clear hall hb
  by_cases hlt:k < L.length
  . obtain⟨b,off,rfl,hbw,-,hc⟩:=(HV.o.below HB.o).full' (by omega)
    obtain⟨hsz,hcc⟩:=hc k hlt;obtain⟨x,hx⟩:∃ x,x=L[k]:=⟨_,rfl⟩
    rw [<- hx] at hsz hcc;have HX:=Zaa hx;have i0:(0:Int)<=(k:Int):=by omega
    have i1:(k:Int) < (L.length:Int):=by omega
    clear hc hsz hx;go_wp2_with fail;clear hcc;refine (Zfh β τ γ wr D da dc x (HD.o.on HB.o) h0 h1).mono ?_;rintro e w1 ⟨rfl,hb1⟩;have HB1:=Zaa (bt HB.o hb1);clear hb1
    cases q:kwB D x with
    | true=>
     have HQ:Hd (kwB D L[k]=true):=by unfold Hd;rw [<- HX.o];exact q
     go_wp2;go_ret;exact⟨⟨k,rfl,Or.inr ⟨k,hlt,rfl,HQ.o,HAL.o⟩⟩,HB1.o⟩
    | false=>
     have HQ:=Zaa q;go_wp2;go_roundw
     case rel=>exact⟨k+1,by go_num,by omega,HB1.o,fun j hj hjk=>by
                by_cases e:j=k
                . subst e;rw [<- HX.o];exact HQ.o
                . exact HAL.o j hj (by omega)⟩
     . simp [intOf];omega
  . go_wp2
    go_ret;exact⟨⟨-1,rfl,Or.inl ⟨rfl,fun i hi=>HAL.o i hi (by omega)⟩⟩,HB.o⟩
theorem ZgB {L:List Zy_} (h:∀ j (hj:j < L.length),kwB D L[j]=false):L.filter (Zen D)=L:=
 List.filter_eq_self.2 fun x hx=>by
  obtain⟨i,hi,e⟩:=List.getElem_of_mem hx;unfold Zen;rw [<- e,h i hi];rfl
def kpN (D:Rd) (L:List Zy_) (j:Nat):List Zy_:=(L.take j).filter (Zen D)
theorem Zkh {L:List Zy_} (hj:j < L.length) (h:kwB D L[j]=false):kpN D L (j+1)=kpN D L j ++ [L[j]]:=by
 unfold kpN;rw [List.take_succ_eq_append_getElem hj,List.filter_append];simp [List.filter,Zen,h]
theorem ZjW {L:List Zy_} (hj:j < L.length) (h:kwB D L[j]=true):kpN D L (j+1)=kpN D L j:=by
 unfold kpN;rw [List.take_succ_eq_append_getElem hj,List.filter_append];simp [List.filter,Zen,h]
theorem Zh7 {L:List Zy_}{k:Nat} (hk:k < L.length) (hp:kwB D L[k]=true) (h:∀ j (hj:j < L.length),j < k->kwB D L[j]=false):kpN D L (k+1)=L.take k:=by
 rw [ZjW hk hp];unfold kpN;refine ZgB fun j hj=>?_
 rw [List.getElem_take];exact h j _ (by rw [List.length_take] at hj;omega)
theorem Zkg (D:Rd) (L:List Zy_):kpN D L L.length=L.filter (Zen D):=by unfold kpN;rw [List.take_length]
theorem ZfT (lo hi g cap:Nat) (L:List Zy_) (β τ γ:Nat) (D:Rd) (da:Option Addr) (dc:Nat) (w:World) (h:FR tyL 1 w lo hi g cap L) (hz:∀ i (hi:i < L.length),L[i].size<=maxLen) (hd:∀ W,Zad g (g+1) w W->ZjS β τ γ W D da dc) (h0:0<=D.kn) (h1:D.kn<=(D.sl.length:Int)) :
 Calls prog 190 #[.slice (some ⟨g,0,none⟩) L.length cap,.func (.func 191) #[] #[.pointer (some ⟨β,0,none⟩)]] w fun e w'=>e=.returned (.slice (some ⟨g,0,none⟩) (L.filter (Zen D)).length cap)/\Zad g (g+1) w w'/\FR tyL 1 w' lo hi g cap (L.filter (Zen D)):=by
 have HF:=Zaa h;have HD:=Zaa hd;have hcap:=h.le;have hmx:=h.mx;unfold maxLen at hmx;have HRT:Hd (Zbf lo w (.slice (some ⟨g,0,none⟩) L.length cap) L):=(ZaH.rts ⟨g,cap,rfl,h⟩ hz).at;clear h hd;go_enter func190,ntmps190
 go_upto_region 2 with (go_at_call 201;refine (ZeE lo _ L β τ γ D da dc _ HRT.o (HD.o _ (Zad.refl _ _ _)) h0 h1).mono ?_;rintro e w1 ⟨⟨r,rfl,hr⟩,hb⟩;have HB:=Zaa hb;have HI:=Zaa hr;clear hb hr)
 have hr:=HI.o
 rcases hr with ⟨rfl,hall⟩ | ⟨k,hk,rfl,hp,hbef⟩
 . have HE:Hd (L.filter (Zen D)=L):=ZgB hall
   clear hall;go_wp2;go_ret;refine⟨by rw [HE.o];rfl,Zad.below HB.o,by rw [HE.o];exact HF.o.below HB.o⟩
 . have HK:Hd (kpN D L (k+1)=L.take k):=Zh7 hk hp hbef
   have HLK:Hd ((kpN D L (k+1)).length=k):=by unfold Hd;rw [HK.o,List.length_take];omega
   have hkn:((k:Int) == -1)=false:=by simp
   clear hp hbef HI;go_wp2;clear hkn
   go_loopw [5,6] (fun i j wr=>∃ (p q:Nat),i=.int .i64 p/\j=.int .i64 q/\q<=L.length/\p < q/\p=(kpN D L q).length/\Zad g (g+1) w wr/\FR tyL 1 wr lo hi g cap (kpN D L q ++ L.drop p)) (fun _ j _=>L.length - (intOf j).toNat)
   case atStart=>exact⟨k,k+1,rfl,by go_num,by omega,by omega,HLK.o.symm,Zad.below HB.o,by rw [HK.o,List.take_append_drop];exact HF.o.below HB.o⟩
   case round=>
    obtain⟨p,q,rfl,rfl,hq,hpq,hpe,ht,hf⟩:=hrel;have HT:=Zaa ht;have HR:=Zaa hf;have HPE:=Zaa hpe;have HRL:Hd ((kpN D L q ++ L.drop p).length=L.length):=by unfold Hd;rw [hpe];exact Zfe (by omega)
    have hgl:=hf.lt;clear ht hf hpe
    by_cases hlt:q < L.length
    . obtain⟨x,hx⟩:∃ x,x=L[q]:=⟨_,rfl⟩
      have hRq:(kpN D L q ++ L.drop p)[q]?=some x:=by rw [hx,HPE.o,Zfd (by rw [<- HPE.o];omega),List.getElem?_eq_getElem hlt]
      obtain⟨hql,hqe⟩:=List.getElem?_eq_some_iff.1 hRq
      have y0:wr.cell? ⟨g,q,none⟩=some (.string x):=by
       have:=HR.o.get ZbN hql (t:=0) (by decide) (v:=.string x) (by rw [hqe];rfl)
       simpa using this
      have hpl:p < (kpN D L q ++ L.drop p).length:=by rw [HRL.o];omega
      obtain⟨z,hz9⟩:∃ z,z=(kpN D L q ++ L.drop p)[p]:=⟨_,rfl⟩
      have HX:=Zaa hx;have i0:(0:Int)<=(q:Int):=by omega
      have i1:(q:Int) < (L.length:Int):=by omega
      have i2:(0:Int)<=(p:Int):=by omega
      have i3:(p:Int) < (L.length:Int):=by omega
      have y1:wr.cell? ⟨g,p,none⟩=some (.string z):=by
       have:=HR.o.get ZbN hpl (t:=0) (by decide) (v:=.string z) (by rw [hz9];rfl)
       simpa using this
      clear hx hz9 hRq hqe hql;go_wp2_with fail;refine (Zfh β τ γ wr D da dc x (HD.o _ HT.o) h0 h1).mono ?_;rintro e w2 ⟨rfl,hb⟩;have HB2:=Zaa hb;have y2:w2.cell? ⟨g,p,none⟩=some (.string z):=(hb.cell (p:=⟨g,p,none⟩) hgl).trans y1;have f2:w2.frozen? ⟨g,p,none⟩=false:=(HR.o.below hb).fz p;clear hb y0 y1
      cases qq:kwB D x with
      | true=>
       have HK2:Hd (kpN D L (q+1)=kpN D L q):=ZjW hlt (by rw [<- HX.o];exact qq);clear qq;go_wp2;go_roundw
       . exact⟨p,q+1,rfl,by go_num,by omega,by omega,by rw [HK2.o];exact HPE.o,HT.o.trans (Zad.below HB2.o),by rw [HK2.o];exact HR.o.below HB2.o⟩
       . simp [intOf];omega
      | false=>
       have HK2:Hd (kpN D L (q+1)=kpN D L q ++ [x]):=by unfold Hd;rw [HX.o];exact Zkh hlt (by rw [<- HX.o];exact qq)
       clear qq;go_wp2;go_roundw
       case rel=>exact⟨p+1,q+1,by go_num,by go_num,by omega,by omega,by rw [HK2.o,List.length_append,<- HPE.o];rfl,(HT.o.trans (Zad.below HB2.o)).trans (Zad.setCell g (g+1) _ ⟨g,p,none⟩ _ ⟨Nat.le_refl _,Nat.lt_succ_self _⟩),by
                  have h5:=(HR.o.below HB2.o).setOne ZbN hpl (t:=0) (by decide) x (.string x) rfl
                  have h6:(kpN D L q ++ L.drop p).set p x=kpN D L (q+1) ++ L.drop (p+1):=by
                   have:=Zff (A:=kpN D L q) (L:=L) x (by rw [<- HPE.o];omega);rw [HK2.o];rw [<- HPE.o] at this;rw [this,List.length_append,<- HPE.o]
                   rfl
                  rw [h6] at h5
                  simpa using h5⟩
       . simp [intOf];omega
    . have hql:q=L.length:=by omega
      subst hql;have HE:Hd (kpN D L L.length=L.filter (Zen D)):=Zkg D L;have i2:(0:Int)<=(p:Int):=by omega
      have i3:(p:Int)<=(L.length:Int):=by omega
      have i4:(p:Int)<=(cap:Int):=by omega
      have i5:(L.length:Int)<=(cap:Int):=by omega
      have hpl:p<=L.length:=by omega
      have hap:p<=cap:=by omega
      have hth:∀ j,j < L.length - p->(wr.cell? ⟨g,p+j,none⟩).isSome=true:=fun j hj=>HR.o.th (p+j) (by omega)
      have hcl:∀ ty,(Builtin.clear_ #[50] ty #[.slice (some ⟨g,p,none⟩) (L.length - p) (cap - p)]).run prog wr=.ok (.tuple #[]) (wr.setCells g p (List.replicate (L.length - p) (.string ⟨#[]⟩))):=fun ty=>
       Zjf wr ty g p _ _ hth (fun j hj=>HR.o.fz _)
      obtain⟨W2,hW2⟩:∃ W2,W2=wr.setCells g p (List.replicate (L.length - p) (.string ⟨#[]⟩)):=⟨_,rfl⟩
      have HT2:Hd (Zad g (g+1) w W2):=by unfold Hd;rw [hW2];exact HT.o.trans (Zad.sets ⟨Nat.le_refl _,Nat.lt_succ_self _⟩ _ _ _)
      have HF2:Hd (FR tyL 1 W2 lo hi g cap (L.filter (Zen D))):=by
       unfold Hd;have:=(HR.o.past p (List.replicate (L.length - p) (.string ⟨#[]⟩)) (A:=kpN D L L.length) (by rw [<- HPE.o];omega));rw [hW2,<- HE.o];exact this
      have HP:Hd (p=(L.filter (Zen D)).length):=by unfold Hd;rw [<- HE.o];exact HPE.o
      rw [<- hW2] at hcl;clear hth hW2;go_wp2;go_ret;exact⟨by rw [<- HP.o];rfl,HT2.o,HF2.o⟩
end Go.Proofs.YtdeammfdkaomlaaGreat
