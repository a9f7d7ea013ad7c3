import Derived.Test.YtdeammfdkaomlaaGreatM23
import Derived.Test.YtdeammfdkaomlaaGreatM24
import Derived.Test.YtdeammfdkaomlaaGreatM29
set_option maxHeartbeats 16000000
set_option maxRecDepth 100000
open Go.Proofs.Tryz
namespace Go.Proofs.YtdeammfdkaomlaaGreat
open Go.RowKit Go.Deep
theorem Rz.shrink5 {K:Nat->Prop}{lo n g:Nat}{w:World}{γ:Nat}{b:Nat->Option Addr}{m:Nat->Nat}{S:Nat->Nat->Prop}{U:Rr} (h:Rz K lo w γ b m S U) (hb:b 5=some ⟨g,0,none⟩) (hg:n<=g):Rz K lo w γ b m (upd S 5 (fun k=>S 5 k/\n<=k)) U:=by
 have sub:∀ i k,upd S 5 (fun k=>S 5 k/\n<=k) i k->S i k:=fun i k hS=>by
  by_cases e:i=5
  . subst e;rw [Zam] at hS;exact hS.1
  . rwa [ZaG _ _ e] at hS
 refine⟨h.box,⟨fun i hi k hS=>h.cp.seg i hi k (sub i k hS),fun i j hi hj hne k hS hS'=>h.cp.ap i j hi hj hne k (sub i k hS) (sub j k hS'),h.cp.o0,h.cp.o1,h.cp.o2,h.cp.o3,h.cp.o4,?_,h.cp.o6⟩,h.low,fun i hi hS=>h.far i hi (sub i _ hS),fun k hk=>⟨(h.prot k hk).1,(h.prot k hk).2.1,fun i hi hS=>(h.prot k hk).2.2 i hi (sub i k hS)⟩⟩
 rcases h.cp.o5 with ⟨e,_⟩ | ⟨g0,hS0,g',cap,e1,e2⟩
 . rw [hb] at e;injection e with e;cases e
 . refine Or.inr ⟨g0,⟨hS0,?_⟩,g',cap,e1,e2⟩
   rw [hb] at e1;injection e1 with e1
   injection e1 with e1
   injection e1 with e1
   have a1:=e2.bs;have a2:=e2.up
   omega
theorem ZhM (K:Nat->Prop) (lo:Nat) (w:World) (U:Rr) (b:Nat->Option Addr) (m:Nat->Nat) (S:Nat->Nat->Prop) (h:Cz K lo w b m S U) :
 Calls prog 61 #[.agg (rrF U b m).toArray] w fun e w'=>∃ b' m' S',e=.returned (.agg (rrF (Za7 U) b' m').toArray)/\Zag K w w'/\Cz K lo w' b' m' S' (Za7 U)/\Zw_ w w'/\(∀ k,S' 5 k->w.heap.size<=k)/\(∀ i,i < 7->∀ k,S' i k->k < w.heap.size->S i k):=by
 have HC:=Zaa h;have HKw:Hd (∀ k,K k->k < w.heap.size):=fun k hk=>(h.prot k hk).1
 obtain⟨cs,hcs⟩:∃ cs,cs=rrF U b m:=⟨_,rfl⟩
 rw [<- hcs];have HCS:=Zaa hcs;clear hcs h;go_enter func61,ntmps61
 go_upto_region 1 with fail
 obtain⟨wz,hwz,FB,RB,HB⟩:∃ wz,wz=(w.alloc (.cells cs.toArray 61)).alloc (.cells zR 61)/\Hd (Box wz w.heap.size (rrF U b m).toArray)/\Hd (Box wz (w.heap.size+1) zR)/\Hd (Zw_ w wz):=⟨_,rfl,by unfold Hd;rw [<- HCS.o];exact ((Box.new w _ _ _ rfl).on (Zab _ _)),Box.new _ _ _ _ (by simp),(bt (Zab _ _) (Zab _ _))⟩
 rw [<- hwz];clear hwz;have hwn:w.heap.size+2<=wz.heap.size:=by have:=RB.o.lt;omega
 have HR:Hd (Rz (fun k=>K k\/(w.heap.size+1<=k/\k < w.heap.size+2)) lo wz w.heap.size b m S U):=HC.o.rz HB.o FB.o Zl_ (fun k hk=>hk.imp (fun h=>h) (fun h=>⟨by omega,by omega,by omega⟩));have HKP:Hd (Zag K w wz):=Zag.below HB.o HKw.o;have HBW:=HB;clear FB HB;have xc:wz.cell? ⟨w.heap.size,11,none⟩=some (.bool U.ld):=HR.o.box.cell 11;have gf:=HR.o.box.free
 go_upto_region 2 with fail
 clear xc gf;obtain⟨w1,hwn'⟩:∃ wx_,wx_=wz.setCell ⟨w.heap.size,11,none⟩ (.bool false):=⟨_,rfl⟩
 rw [<- hwn'];have hp:=HR.o.scal (U':={ U with ld:=false }) (j:=11) (v:=.bool false) (by show 11 < 18;omega) rfl (fun _ h=>⟨h.seg,h.ap,h.o0,h.o1,h.o2,h.o3,h.o4,h.o5,h.o6⟩);rw [<- hwn'] at hp;have hss:wz.heap.size=w1.heap.size:=by rw [hwn'];simp [World.setCell]
 have RBn:Hd (Box w1 (w.heap.size+1) zR):=by unfold Hd;rw [hwn'];exact RB.o.setFar (by simp only [];omega) _
 have hsw1:w.heap.size+2<=w1.heap.size:=by omega
 have hwn'2:=hwn';clear hwn' RB HR hss;have RB:=RBn;have HR:=Zaa hp.1;replace HKP:Hd (Zag K w w1):=HKP.o.trans (hp.2.less fun k hk=>Or.inl hk);replace HBW:Hd (Zw_ w w1):=by unfold Hd;rw [hwn'2];exact HBW.o.setCell (by simp only [];omega) _
 clear hwn'2;clear hp RBn;have xc:w1.cell? ⟨w.heap.size,12,none⟩=some (.bool U.ty):=HR.o.box.cell 12;have gf:=HR.o.box.free
 go_upto_region 3 with fail
 clear xc gf;obtain⟨w2,hwn'⟩:∃ wx_,wx_=w1.setCell ⟨w.heap.size,12,none⟩ (.bool false):=⟨_,rfl⟩
 rw [<- hwn'];have hp:=HR.o.scal (U':={ U with ld:=false,ty:=false }) (j:=12) (v:=.bool false) (by show 12 < 18;omega) rfl (fun _ h=>⟨h.seg,h.ap,h.o0,h.o1,h.o2,h.o3,h.o4,h.o5,h.o6⟩);rw [<- hwn'] at hp;have hss:w1.heap.size=w2.heap.size:=by rw [hwn'];simp [World.setCell]
 have RBn:Hd (Box w2 (w.heap.size+1) zR):=by unfold Hd;rw [hwn'];exact RB.o.setFar (by simp only [];omega) _
 have hsw2:w.heap.size+2<=w2.heap.size:=by omega
 have hwn'2:=hwn';clear hwn' RB HR hss;have RB:=RBn;have HR:=Zaa hp.1;replace HKP:Hd (Zag K w w2):=HKP.o.trans (hp.2.less fun k hk=>Or.inl hk);replace HBW:Hd (Zw_ w w2):=by unfold Hd;rw [hwn'2];exact HBW.o.setCell (by simp only [];omega) _
 clear hwn'2;clear hp RBn;have xc:w2.cell? ⟨w.heap.size,13,none⟩=some (.int .i64 U.ba):=HR.o.box.cell 13;have gf:=HR.o.box.free
 go_upto_region 4 with fail
 clear xc gf;obtain⟨w3,hwn'⟩:∃ wx_,wx_=w2.setCell ⟨w.heap.size,13,none⟩ (.int .i64 0):=⟨_,rfl⟩
 rw [<- hwn'];have hp:=HR.o.scal (U':={ U with ld:=false,ty:=false,ba:=0 }) (j:=13) (v:=.int .i64 0) (by show 13 < 18;omega) rfl (fun _ h=>⟨h.seg,h.ap,h.o0,h.o1,h.o2,h.o3,h.o4,h.o5,h.o6⟩);rw [<- hwn'] at hp;have hss:w2.heap.size=w3.heap.size:=by rw [hwn'];simp [World.setCell]
 have RBn:Hd (Box w3 (w.heap.size+1) zR):=by unfold Hd;rw [hwn'];exact RB.o.setFar (by simp only [];omega) _
 have hsw3:w.heap.size+2<=w3.heap.size:=by omega
 have hwn'2:=hwn';clear hwn' RB HR hss;have RB:=RBn;have HR:=Zaa hp.1;replace HKP:Hd (Zag K w w3):=HKP.o.trans (hp.2.less fun k hk=>Or.inl hk);replace HBW:Hd (Zw_ w w3):=by unfold Hd;rw [hwn'2];exact HBW.o.setCell (by simp only [];omega) _
 clear hwn'2;clear hp RBn;have xc:∀ o,(w3.alloc o).cell? ⟨w.heap.size,14,none⟩=some (.slice (b 4) U.ye.length (m 4)):=fun o=>(HR.o.box.on (Zab _ o)).cell 14
 have gf:∀ o j,(w3.alloc o).frozen? ⟨w.heap.size,j,none⟩=false:=fun o j=>(HR.o.box.on (Zab _ o)).free j
 have hp:=HR.o.part4 (w':=w3.alloc (.cells #[] 3)) (L':=([]:List Int)) (a':=some ⟨w3.heap.size,0,none⟩) (m':=0) (Zaj.below (Zab _ _)) (Or.inr ⟨w3.heap.size,Or.inr ⟨Nat.le_refl _,by simp⟩,w3.heap.size,0,rfl,(Zbb inL 1 w3 #[] 3 0 rfl Zz_).own'⟩);have HP:=Zaa hp;clear hp
 go_upto_region 5 with fail
 clear xc gf;obtain⟨w4,hwn'⟩:∃ wx_,wx_=(w3.alloc (.cells #[] 3)).setCell ⟨w.heap.size,14,none⟩ (.slice (some ⟨w3.heap.size,0,none⟩) 0 0):=⟨_,rfl⟩
 have hpp:=HP.o;simp only [List.length_nil] at hpp;rw [<- hwn'] at hpp;rw [<- hwn'];have hss:w3.heap.size+1=w4.heap.size:=by rw [hwn'];simp [World.setCell]
 have RBn:Hd (Box w4 (w.heap.size+1) zR):=by unfold Hd;rw [hwn'];exact (RB.o.on (Zab _ _)).setFar (by simp only [];omega) _
 have hsw4:w.heap.size+2<=w4.heap.size:=by omega
 have hwn'2:=hwn';clear hwn' RB HR hss HP;have RB:=RBn;have HR:=Zaa hpp.1;replace HKP:Hd (Zag K w w4):=HKP.o.trans (hpp.2.less fun k hk=>Or.inl hk);replace HBW:Hd (Zw_ w w4):=by unfold Hd;rw [hwn'2];exact (bt HBW.o (Zab _ _)).setCell (by simp only [];omega) _
 clear hwn'2;clear hpp RBn;have xc:∀ o,(w4.alloc o).cell? ⟨w.heap.size,15,none⟩=some (.slice (b 5) U.be.length (m 5)):=fun o=>(HR.o.box.on (Zab _ o)).cell 15
 have gf:∀ o j,(w4.alloc o).frozen? ⟨w.heap.size,j,none⟩=false:=fun o j=>(HR.o.box.on (Zab _ o)).free j
 have hp:=HR.o.part5 (w':=w4.alloc (.cells #[] 171)) (L':=([]:List Rs)) (a':=some ⟨w4.heap.size,0,none⟩) (m':=0) (Zaj.below (Zab _ _)) (Or.inr ⟨w4.heap.size,Or.inr ⟨Nat.le_refl _,by simp⟩,w4.heap.size,0,rfl,(Zbb rsL 2 w4 #[] 171 0 rfl Zz_).own'⟩);have HP:=Zaa hp;clear hp
 go_upto_region 6 with fail
 clear xc gf;obtain⟨w5,hwn'⟩:∃ wx_,wx_=(w4.alloc (.cells #[] 171)).setCell ⟨w.heap.size,15,none⟩ (.slice (some ⟨w4.heap.size,0,none⟩) 0 0):=⟨_,rfl⟩
 have hpp:=HP.o;simp only [List.length_nil] at hpp;rw [<- hwn'] at hpp;rw [<- hwn'];have hss:w4.heap.size+1=w5.heap.size:=by rw [hwn'];simp [World.setCell]
 have RBn:Hd (Box w5 (w.heap.size+1) zR):=by unfold Hd;rw [hwn'];exact (RB.o.on (Zab _ _)).setFar (by simp only [];omega) _
 have hsw5:w.heap.size+2<=w5.heap.size:=by omega
 have hwn'2:=hwn';clear hwn' RB HR hss HP;have RB:=RBn;have HR:=Zaa hpp.1;replace HKP:Hd (Zag K w w5):=HKP.o.trans (hpp.2.less fun k hk=>Or.inl hk);replace HBW:Hd (Zw_ w w5):=by unfold Hd;rw [hwn'2];exact (bt HBW.o (Zab _ _)).setCell (by simp only [];omega) _
 clear hwn'2;clear hpp RBn;have xc:∀ o,(w5.alloc o).cell? ⟨w.heap.size,16,none⟩=some (.slice (b 6) U.ac.length (m 6)):=fun o=>(HR.o.box.on (Zab _ o)).cell 16
 have gf:∀ o j,(w5.alloc o).frozen? ⟨w.heap.size,j,none⟩=false:=fun o j=>(HR.o.box.on (Zab _ o)).free j
 have hp:=HR.o.part6 (w':=w5.alloc (.cells #[] 170)) (L':=([]:List Ra)) (a':=some ⟨w5.heap.size,0,none⟩) (m':=0) (Zaj.below (Zab _ _)) (⟨[],Or.inr ⟨w5.heap.size,fun _=>(0,0),Or.inr ⟨Nat.le_refl _,by simp⟩,⟨w5.heap.size,0,rfl,(Zbb axL 2 w5 #[] 170 0 rfl Zz_).own'⟩,⟨fun i hi=>by simp at hi,fun i hi=>by simp at hi,fun i j hi=>by simp at hi,fun i hi=>by simp at hi⟩⟩,rfl⟩);have HP:=Zaa hp;clear hp
 go_upto_region 7 with fail
 clear xc gf;obtain⟨w6,hwn'⟩:∃ wx_,wx_=(w5.alloc (.cells #[] 170)).setCell ⟨w.heap.size,16,none⟩ (.slice (some ⟨w5.heap.size,0,none⟩) 0 0):=⟨_,rfl⟩
 have hpp:=HP.o;simp only [List.length_nil] at hpp;rw [<- hwn'] at hpp;rw [<- hwn'];have hss:w5.heap.size+1=w6.heap.size:=by rw [hwn'];simp [World.setCell]
 have RBn:Hd (Box w6 (w.heap.size+1) zR):=by unfold Hd;rw [hwn'];exact (RB.o.on (Zab _ _)).setFar (by simp only [];omega) _
 have hsw6:w.heap.size+2<=w6.heap.size:=by omega
 have hwn'2:=hwn';clear hwn' RB HR hss HP;have RB:=RBn;have HR:=Zaa hpp.1;replace HKP:Hd (Zag K w w6):=HKP.o.trans (hpp.2.less fun k hk=>Or.inl hk);replace HBW:Hd (Zw_ w w6):=by unfold Hd;rw [hwn'2];exact (bt HBW.o (Zab _ _)).setCell (by simp only [];omega) _
 clear hwn'2;clear hpp RBn;have HR5:=Zaa (HR.o.shrink5 (n:=w.heap.size) (g:=w4.heap.size) rfl (by omega))
 obtain⟨b9,m9,S9,HRx,HS5,HSI⟩:∃ b' m' S',Hd (Rz (fun k=>K k\/(w.heap.size+1<=k/\k < w.heap.size+2)) lo w6 w.heap.size b' m' S' (Za7 U))/\Hd (∀ k,S' 5 k->w.heap.size<=k)/\Hd (∀ i,i < 7->∀ k,S' i k->k < w.heap.size->S i k):=⟨_,_,_,HR5,fun k hk=>by rw [Zam] at hk;exact hk.2,fun i hi k hk hkw=>by
  rcases (by omega:i=0\/i=1\/i=2\/i=3\/i=4\/i=5\/i=6) with rfl | rfl | rfl | rfl | rfl | rfl | rfl
  . exact hk
  . exact hk
  . exact hk
  . exact hk
  . rcases hk with hk | hk
    . exact hk
    . omega
  . exact absurd hk.2 (by omega)
  . rcases hk with hk | hk
    . exact hk
    . omega⟩
 obtain⟨yl,hyl⟩:∃ yl,yl=rrF (Za7 U) b9 m9:=⟨_,rfl⟩
 have hy18:yl.length=18:=by rw [hyl];rfl
 have HON:Hd (yl.toArray.all (·.oneCell')=true):=by unfold Hd;rw [hyl];exact Zcs ..
 have HBy:Hd (Box w6 w.heap.size yl.toArray):=by unfold Hd;rw [hyl];exact HRx.o.box
 have HYL:=Zaa hyl;clear hyl HR HR5;have HTH:Hd (World.there w6 (w.heap.size+1) 0 yl.toArray.size):=by unfold Hd;rw [show yl.toArray.size=18 from hy18];exact RB.o.there rfl
 have HRA:=Zaa (HBy.o.range (l:=yl) rfl);have HSy:Hd ((prog.info? 61).map (·.size)=some yl.length):=by unfold Hd;rw [hy18];exact ZaA
 go_wp2_with (first
  | (with_reducible refine ldR (.tmp 1) w.heap.size 0 yl HRA.o HSy.o ?_)
  | (with_reducible refine stR (.tmp 2) (.tmp 12) (w.heap.size+1) 0 yl.toArray HTH.o (szN hy18) HON.o ?_;refine Hd.o ?_))
 generalize hW9:World.setCells _ _ _ _=W9;have FR9:Hd (Box W9 (w.heap.size+1) yl.toArray):=by unfold Hd;rw [<- hW9];exact RB.o.full (by rw [show yl.toArray.size=18 from hy18];rfl)
 have TT:Hd (Zad (w.heap.size+1) ((w.heap.size+1)+1) w6 W9):=by unfold Hd;rw [<- hW9];exact Zad.sets ⟨by omega,by omega⟩ _ _ _
 clear hW9;have HRn:=Zaa (HRx.o.other (β:=(w.heap.size+1)) (Or.inr (by omega)) TT.o);have HBn:Hd (Zw_ w W9):=HBW.o.trans ((TT.o.under (by have:=RB.o.lt;omega)).mono (by omega));have HKn:Hd (Zag K w W9):=HKP.o.trans (Zag.touch TT.o (fun k hk=>⟨(HRx.o.prot k (Or.inl hk)).1,Or.inl (by have:=HKw.o k hk;omega)⟩));refine Zaa ?_;go_wp2;exact bodyPost_ret (v:=.agg yl.toArray) (ZdL (p:=2) (ty:=61) results61 _ _ (w.heap.size+1) 0 yl _ rfl (FR9.o.range rfl) underlying61 rfl HSy.o) rfl ⟨b9,m9,S9,by rw [HYL.o],HKn.o,by exact HRn.o.cz.less (fun k hk=>Or.inl hk),HBn.o,HS5.o,HSI.o⟩
theorem ZfX (lo:Nat) (v:Value) (Xl:List Rm) (w:World) (hv:Zbd lo w v Xl) (hn:ZbJ Xl) :
 Calls prog 147 #[v,.func (.func 148) #[] #[]] w fun e w'=>∃ v' L,e=.returned v'/\Zw_ w w'/\ZbO PM mxL 8 w' w.heap.size w'.heap.size v' L/\L.map (·.1)=Xl:=by
 have hnil:=fun W a n c=>Lib.run_eql_slice_nil (P:=prog) W 32 102 a n c 0 0 underlying32
 obtain⟨i0,hi,hz0,hz1,hz2⟩:=info_parts Zcz;have HSM:=Zaa hn.2;have hn1:=hn.1;clear hn
 have hmk:∀ u:World,(Instr.makeSlice 32 (.int .i64 (Xl.length:Int)) (.int .i64 (Xl.length:Int))).run prog u=.ok (.slice (some ⟨u.heap.size,0,none⟩) Xl.length Xl.length) (u.alloc (.cells (madeCells (Value.cells (.agg #[.int .i64 0,.int .i64 0,.int .i64 0,.int .i64 0,.int .i64 0,.int .i64 0,.string ⟨#[]⟩,.slice none 0 0])) (Xl.length*8)) 102)):=fun u=>by
  have h:=run_make (P:=prog) u 32 102 i0 _ underlying32 hi hz0 .i64 .i64 Xl.length Xl.length (by omega) (by omega) (by rw [hz2];omega) (by omega);rw [hz1] at h
  simpa using h
 clear hi hz0 hz1 hz2;have HV:=Zaa hv;obtain⟨a,cap,rfl⟩:=hv.form;clear hv
 cases a with
 | none=>
  have h0:Xl.length=0:=by
   rcases HV.o with ⟨_,_,_,rfl⟩ | ⟨_,_,_,h1,_⟩
   . rfl
   . injection h1 with e;cases e
  obtain rfl:=List.eq_nil_of_length_eq_zero h0;go_enter func147,ntmps147;go_wp2;go_ret;exact⟨_,[],rfl,Below.refl _ _,Or.inl ⟨rfl,rfl⟩,rfl⟩
 | some ad=>
 go_enter func147,ntmps147;go_wp2;clear hmk hnil
 go_loopw [15] (fun i wr=>∃ (k:Nat) (L:List MX) (c:Nat->Nat×Nat),i=.int .i64 k/\k<=Xl.length/\Zw_ w wr/\FR mxL 8 wr w.heap.size (w.heap.size+1) w.heap.size Xl.length L/\Zfa PM wr w.heap.size wr.heap.size w.heap.size L c/\(∀ i,i < L.length->(c i).2<=wr.heap.size)/\L.map (·.1)=Xl.take k) (fun i _=>Xl.length - (intOf i).toNat)
 case atStart=>exact⟨0,[],fun _=>(0,0),rfl,by omega,Zab _ _,Zbb mxL 8 w _ _ Xl.length (by rw [size_madeCells]) (by unfold maxLen;omega),⟨fun i hi=>by simp at hi,fun i j hi=>by simp at hi,fun i hi=>by simp at hi⟩,fun i hi=>by simp at hi,by simp⟩
 case round=>
  obtain⟨k,L,c,rfl,hk,hb,hf,hin,htop,hL⟩:=hrel;have HB:=Zaa hb;have HF:=Zaa hf;have HI:=Zaa hin;have HTP:=Zaa htop;have HL:=Zaa hL
  have HLl:Hd (L.length=k):=by
   unfold Hd;have:=congrArg List.length hL;rw [List.length_map,List.length_take] at this
   omega
  clear hb hf hin hL htop
  by_cases hlt:k < Xl.length
  . obtain⟨b,off,had,hbw,-,hc⟩:=HV.o.full' (by omega)
    injection had with had
    subst had;obtain⟨m,hm'⟩:∃ m,m=Xl[k]:=⟨_,rfl⟩
    obtain⟨ms,hr,b0,m0,rfl,hf⟩:=hc k hlt;rw [<- hm'] at hf hr;have HS:Hd (m.sl.length<=1048576):=by unfold Hd;rw [hm'];exact (HSM.o k hlt).1
    have HFi:Hd (Zat lo wr (.slice b0 m.sl.length m0) m.sl):=hf.l0.below HB.o;have HR:=Zaz hr HB.o hbw;have HX:=Zaa hm';have s0:wr.cell? ⟨b,off+k*8,none⟩=some (.int .i64 m.kd):=HR 0 _ rfl;have s1:wr.cell? ⟨b,off+k*8+1,none⟩=some (.int .i64 m.fr):=HR 1 _ rfl;have s2:wr.cell? ⟨b,off+k*8+2,none⟩=some (.int .i64 m.tt):=HR 2 _ rfl;have s3:wr.cell? ⟨b,off+k*8+3,none⟩=some (.int .i64 m.ba):=HR 3 _ rfl;have s4:wr.cell? ⟨b,off+k*8+4,none⟩=some (.int .i64 m.ix):=HR 4 _ rfl;have s5:wr.cell? ⟨b,off+k*8+5,none⟩=some (.int .i64 m.kn):=HR 5 _ rfl;have s6:wr.cell? ⟨b,off+k*8+6,none⟩=some (.string m.tx):=HR 6 _ rfl;have s7:wr.cell? ⟨b,off+k*8+7,none⟩=some (.slice b0 m.sl.length m0):=HR 7 _ rfl;have i0:(0:Int)<=(k:Int):=by omega
    have i1:(k:Int) < (Xl.length:Int):=by omega
    clear hc hr hf hm' HR;go_wp2_with fail;clear s0 s1 s2 s3 s4 s5 s6 s7;generalize hWx:wr.alloc _=Wx;have hx:Below wr.heap.size wr Wx:=by rw [<- hWx];exact Zab _ _
    clear hWx;refine (ZfS lo m b0 m0 _ (HFi.o.below hx) HS.o).mono ?_;rintro e w1 ⟨b1,m1,rfl,hb1,hf1⟩;have hb2:Below wr.heap.size wr w1:=bt hx hb1;have HB1:Hd (Zw_ w w1):=bt HB.o hb2;have hsz:=HB.o.size;have hsz1:=hb2.size;have hszx:=hx.size;have hwlt:w.heap.size < wr.heap.size:=HF.o.lt
    have HF1:=Zaa (HF.o.below hb2)
    have HI1:Hd (Zfa PM w1 w.heap.size w1.heap.size w.heap.size (L ++ [(m,b1,m1)]) (Zfg c L.length (Wx.heap.size,w1.heap.size))):=
     ((HI.o.below Zi0 hb2).wide Zl_ hsz1).snoc hf1 (by omega) hb1.size Zl_ (Or.inl (by omega)) (fun i hi=>Or.inl (by have:=HTP.o i hi;omega))
    have hth:∀ j,j < Xl.length*8->∃ o,w1.cell? ⟨w.heap.size,j,none⟩=some o:=fun j hj=>Option.isSome_iff_exists.1 (HF1.o.th j hj)
    have hfr:=HF1.o.fz;obtain⟨o0,ho0⟩:=hth (k*8) (by omega);obtain⟨o1,ho1⟩:=hth (k*8+1) (by omega);obtain⟨o2,ho2⟩:=hth (k*8+2) (by omega);obtain⟨o3,ho3⟩:=hth (k*8+3) (by omega);obtain⟨o4,ho4⟩:=hth (k*8+4) (by omega);obtain⟨o5,ho5⟩:=hth (k*8+5) (by omega);obtain⟨o6,ho6⟩:=hth (k*8+6) (by omega);obtain⟨o7,ho7⟩:=hth (k*8+7) (by omega)
    have HFn:Hd (FR mxL 8 ((((((((w1.setCell ⟨w.heap.size,k*8,none⟩ (.int .i64 m.kd)).setCell ⟨w.heap.size,k*8+1,none⟩ (.int .i64 m.fr)).setCell ⟨w.heap.size,k*8+2,none⟩ (.int .i64 m.tt)).setCell ⟨w.heap.size,k*8+3,none⟩ (.int .i64 m.ba)).setCell ⟨w.heap.size,k*8+4,none⟩ (.int .i64 m.ix)).setCell ⟨w.heap.size,k*8+5,none⟩ (.int .i64 m.kn)).setCell ⟨w.heap.size,k*8+6,none⟩ (.string m.tx)).setCell ⟨w.heap.size,k*8+7,none⟩ (.slice b1 m.sl.length m1)) w.heap.size (w.heap.size+1) w.heap.size Xl.length (L ++ [(m,b1,m1)])):=by
     unfold Hd;have h:=HF1.o.put Zb3 (M:=[(m,b1,m1)]) (by have:=HLl.o;simp;omega);rw [Nat.zero_add,HLl.o] at h;exact h
    have HTT:Hd (Zad w.heap.size (w.heap.size+1) w1 ((((((((w1.setCell ⟨w.heap.size,k*8,none⟩ (.int .i64 m.kd)).setCell ⟨w.heap.size,k*8+1,none⟩ (.int .i64 m.fr)).setCell ⟨w.heap.size,k*8+2,none⟩ (.int .i64 m.tt)).setCell ⟨w.heap.size,k*8+3,none⟩ (.int .i64 m.ba)).setCell ⟨w.heap.size,k*8+4,none⟩ (.int .i64 m.ix)).setCell ⟨w.heap.size,k*8+5,none⟩ (.int .i64 m.kn)).setCell ⟨w.heap.size,k*8+6,none⟩ (.string m.tx)).setCell ⟨w.heap.size,k*8+7,none⟩ (.slice b1 m.sl.length m1))):=by
     have h:=Zad.sets (lo:=w.heap.size) (hi:=w.heap.size+1) (b:=w.heap.size) ⟨Nat.le_refl _,Nat.lt_succ_self _⟩ (Zai mxL [(m,b1,m1)]) (k*8) w1;exact h
    clear hth hb1 hb2 hf1 hx HF HI HB;rw [show (rmL m b1 m1).toArray=#[.int .i64 m.kd,.int .i64 m.fr,.int .i64 m.tt,.int .i64 m.ba,.int .i64 m.ix,.int .i64 m.kn,.string m.tx,.slice b1 m.sl.length m1] from rfl];go_wp2;generalize hWn:World.setCell _ _ _=Wn at*;clear hWn;go_roundw
    . 
     have ht:=HTT.o;have hszn:=ht.size;refine⟨k+1,L ++ [(m,b1,m1)],_,by go_num,by omega,HB1.o.trans (ht.under (by omega)),HFn.o,((HI1.o.touch Zi0 ht (fun i hi=>?_)).wide Zl_ hszn),fun i hi=>?_,by rw [List.map_append,HL.o,List.take_succ_eq_append_getElem hlt,HX.o];rfl⟩
     . rcases (HI1.o.seg i hi).2.2.2 with h | h
       . exact Or.inr h
       . exact Or.inl h
     . exact Nat.le_trans (HI1.o.seg i hi).2.2.1 hszn
    . simp [intOf];omega
  . have e:k=Xl.length:=by omega
    subst e;have hl:=HLl.o;go_wp2;go_ret;refine⟨.slice (some ⟨w.heap.size,0,none⟩) Xl.length Xl.length,L,rfl,HB.o,Or.inr ⟨w.heap.size,c,⟨w.heap.size,Xl.length,by rw [hl],HF.o⟩,Nat.le_refl _,HF.o.lt,HI.o⟩,by rw [HL.o,List.take_of_length_le Zl_]⟩
theorem ZfW (lo:Nat) (v:Value) (Xl:List Ra) (w:World) (hv:ZbA lo w v Xl) (hn:Zb9 Xl) :
 Calls prog 150 #[v,.func (.func 151) #[] #[]] w fun e w'=>∃ v' L,e=.returned v'/\Zw_ w w'/\ZbO PA axL 2 w' w.heap.size w'.heap.size v' L/\L.map (·.1)=Xl:=by
 have hnil:=fun W a n c=>Lib.run_eql_slice_nil (P:=prog) W 59 170 a n c 0 0 underlying59
 obtain⟨i0,hi,hz0,hz1,hz2⟩:=info_parts ZaT;have HSM:=Zaa hn.2;have hn1:=hn.1;clear hn
 have hmk:∀ u:World,(Instr.makeSlice 59 (.int .i64 (Xl.length:Int)) (.int .i64 (Xl.length:Int))).run prog u=.ok (.slice (some ⟨u.heap.size,0,none⟩) Xl.length Xl.length) (u.alloc (.cells (madeCells (Value.cells (.agg #[.int .i64 0,.slice none 0 0])) (Xl.length*2)) 170)):=fun u=>by
  have h:=run_make (P:=prog) u 59 170 i0 _ underlying59 hi hz0 .i64 .i64 Xl.length Xl.length (by omega) (by omega) (by rw [hz2];omega) (by omega);rw [hz1] at h
  simpa using h
 clear hi hz0 hz1 hz2;have HV:=Zaa hv;obtain⟨a,cap,rfl⟩:=hv.form;clear hv
 cases a with
 | none=>
  have h0:Xl.length=0:=by
   rcases HV.o with ⟨_,_,_,rfl⟩ | ⟨_,_,_,h1,_⟩
   . rfl
   . injection h1 with e;cases e
  obtain rfl:=List.eq_nil_of_length_eq_zero h0;go_enter func150,ntmps150;go_wp2;go_ret;exact⟨_,[],rfl,Below.refl _ _,Or.inl ⟨rfl,rfl⟩,rfl⟩
 | some ad=>
 go_enter func150,ntmps150;go_wp2;clear hmk hnil
 go_loopw [15] (fun i wr=>∃ (k:Nat) (L:List AX) (c:Nat->Nat×Nat),i=.int .i64 k/\k<=Xl.length/\Zw_ w wr/\FR axL 2 wr w.heap.size (w.heap.size+1) w.heap.size Xl.length L/\Zfa PA wr w.heap.size wr.heap.size w.heap.size L c/\(∀ i,i < L.length->(c i).2<=wr.heap.size)/\L.map (·.1)=Xl.take k) (fun i _=>Xl.length - (intOf i).toNat)
 case atStart=>exact⟨0,[],fun _=>(0,0),rfl,by omega,Zab _ _,Zbb axL 2 w _ _ Xl.length (by rw [size_madeCells]) (by unfold maxLen;omega),⟨fun i hi=>by simp at hi,fun i j hi=>by simp at hi,fun i hi=>by simp at hi⟩,fun i hi=>by simp at hi,by simp⟩
 case round=>
  obtain⟨k,L,c,rfl,hk,hb,hf,hin,htop,hL⟩:=hrel;have HB:=Zaa hb;have HF:=Zaa hf;have HI:=Zaa hin;have HTP:=Zaa htop;have HL:=Zaa hL
  have HLl:Hd (L.length=k):=by
   unfold Hd;have:=congrArg List.length hL;rw [List.length_map,List.length_take] at this
   omega
  clear hb hf hin hL htop
  by_cases hlt:k < Xl.length
  . obtain⟨b,off,had,hbw,-,hc⟩:=HV.o.full' (by omega)
    injection had with had
    subst had;obtain⟨m,hm'⟩:∃ m,m=Xl[k]:=⟨_,rfl⟩
    obtain⟨ms,hr,b0,m0,rfl,hf⟩:=hc k hlt;rw [<- hm'] at hf hr;have HS:Hd (m.fr.length<=1048576):=by unfold Hd;rw [hm'];exact HSM.o k hlt
    have HFi:Hd (ZaR lo wr (.slice b0 m.fr.length m0) m.fr):=hf.l0.below HB.o;have HR:=Zaz hr HB.o hbw;have HX:=Zaa hm';have s0:wr.cell? ⟨b,off+k*2,none⟩=some (.int .i64 m.ix):=HR 0 _ rfl;have s1:wr.cell? ⟨b,off+k*2+1,none⟩=some (.slice b0 m.fr.length m0):=HR 1 _ rfl;have i0:(0:Int)<=(k:Int):=by omega
    have i1:(k:Int) < (Xl.length:Int):=by omega
    clear hc hr hf hm' HR;go_wp2_with fail;clear s0 s1;generalize hWx:wr.alloc _=Wx;have hx:Below wr.heap.size wr Wx:=by rw [<- hWx];exact Zab _ _
    clear hWx;refine (ZfR lo m b0 m0 _ (HFi.o.below hx) HS.o).mono ?_;rintro e w1 ⟨b1,m1,rfl,hb1,hf1⟩;have hb2:Below wr.heap.size wr w1:=bt hx hb1;have HB1:Hd (Zw_ w w1):=bt HB.o hb2;have hsz:=HB.o.size;have hsz1:=hb2.size;have hszx:=hx.size;have hwlt:w.heap.size < wr.heap.size:=HF.o.lt
    have HF1:=Zaa (HF.o.below hb2)
    have HI1:Hd (Zfa PA w1 w.heap.size w1.heap.size w.heap.size (L ++ [(m,b1,m1)]) (Zfg c L.length (Wx.heap.size,w1.heap.size))):=
     ((HI.o.below ZkW hb2).wide Zl_ hsz1).snoc hf1 (by omega) hb1.size Zl_ (Or.inl (by omega)) (fun i hi=>Or.inl (by have:=HTP.o i hi;omega))
    have hth:∀ j,j < Xl.length*2->∃ o,w1.cell? ⟨w.heap.size,j,none⟩=some o:=fun j hj=>Option.isSome_iff_exists.1 (HF1.o.th j hj)
    have hfr:=HF1.o.fz;obtain⟨o0,ho0⟩:=hth (k*2) (by omega);obtain⟨o1,ho1⟩:=hth (k*2+1) (by omega)
    have HFn:Hd (FR axL 2 ((w1.setCell ⟨w.heap.size,k*2,none⟩ (.int .i64 m.ix)).setCell ⟨w.heap.size,k*2+1,none⟩ (.slice b1 m.fr.length m1)) w.heap.size (w.heap.size+1) w.heap.size Xl.length (L ++ [(m,b1,m1)])):=by
     unfold Hd;have h:=HF1.o.put Zar (M:=[(m,b1,m1)]) (by have:=HLl.o;simp;omega);rw [Nat.zero_add,HLl.o] at h;exact h
    have HTT:Hd (Zad w.heap.size (w.heap.size+1) w1 ((w1.setCell ⟨w.heap.size,k*2,none⟩ (.int .i64 m.ix)).setCell ⟨w.heap.size,k*2+1,none⟩ (.slice b1 m.fr.length m1))):=by
     have h:=Zad.sets (lo:=w.heap.size) (hi:=w.heap.size+1) (b:=w.heap.size) ⟨Nat.le_refl _,Nat.lt_succ_self _⟩ (Zai axL [(m,b1,m1)]) (k*2) w1;exact h
    clear hth hb1 hb2 hf1 hx HF HI HB;rw [show (raL m b1 m1).toArray=#[.int .i64 m.ix,.slice b1 m.fr.length m1] from rfl];go_wp2;generalize hWn:World.setCell _ _ _=Wn at*;clear hWn;go_roundw
    . 
     have ht:=HTT.o;have hszn:=ht.size;refine⟨k+1,L ++ [(m,b1,m1)],_,by go_num,by omega,HB1.o.trans (ht.under (by omega)),HFn.o,((HI1.o.touch ZkW ht (fun i hi=>?_)).wide Zl_ hszn),fun i hi=>?_,by rw [List.map_append,HL.o,List.take_succ_eq_append_getElem hlt,HX.o];rfl⟩
     . rcases (HI1.o.seg i hi).2.2.2 with h | h
       . exact Or.inr h
       . exact Or.inl h
     . exact Nat.le_trans (HI1.o.seg i hi).2.2.1 hszn
    . simp [intOf];omega
  . have e:k=Xl.length:=by omega
    subst e;have hl:=HLl.o;go_wp2;go_ret;refine⟨.slice (some ⟨w.heap.size,0,none⟩) Xl.length Xl.length,L,rfl,HB.o,Or.inr ⟨w.heap.size,c,⟨w.heap.size,Xl.length,by rw [hl],HF.o⟩,Nat.le_refl _,HF.o.lt,HI.o⟩,by rw [HL.o,List.take_of_length_le Zl_]⟩
structure H7 (β:Nat) (p0 k0 s0 p1 k1 s1 s5:Value) (W:World):Prop where
 c3:W.cell? ⟨β,3,none⟩=some p0
 c4:W.cell? ⟨β,4,none⟩=some k0
 c5:W.cell? ⟨β,5,none⟩=some s0
 c6:W.cell? ⟨β,6,none⟩=some p1
 c7:W.cell? ⟨β,7,none⟩=some k1
 c8:W.cell? ⟨β,8,none⟩=some s1
 c15:W.cell? ⟨β,15,none⟩=some s5
theorem H7.below {β:Nat}{p0 k0 s0 p1 k1 s1 s5:Value}{W W':World} (h:H7 β p0 k0 s0 p1 k1 s1 s5 W) (hb:Below W.heap.size W W') (hl:β < W.heap.size):H7 β p0 k0 s0 p1 k1 s1 s5 W':=
 ⟨(hb.cell (p:=⟨β,3,none⟩) hl).trans h.c3,(hb.cell (p:=⟨β,4,none⟩) hl).trans h.c4,(hb.cell (p:=⟨β,5,none⟩) hl).trans h.c5,(hb.cell (p:=⟨β,6,none⟩) hl).trans h.c6,(hb.cell (p:=⟨β,7,none⟩) hl).trans h.c7,(hb.cell (p:=⟨β,8,none⟩) hl).trans h.c8,(hb.cell (p:=⟨β,15,none⟩) hl).trans h.c15⟩
theorem ZhO (lo:Nat) (cs:List Value) (U:Rr) (w:World) (h:RrC lo w cs U) (hn:Zba U) :
 Calls prog 71 #[.agg cs.toArray] w
  fun e w'=>∃ b0 m0 b1 m1 b2 m2 b3 m3 b4 m4 b5 m5 b6 m6 c,e=.returned (.agg (rrL U b0 m0 b1 m1 b2 m2 b3 m3 b4 m4 b5 m5 b6 m6).toArray)/\Zw_ w w'/\Cpn w' w.heap.size c (.slice b0 U.sf.sl.length m0) (.slice b1 U.dk.sl.length m1) (.slice b2 U.he.length m2) (.slice b3 U.wi.length m3) (.slice b4 U.ye.length m4) (.slice b5 U.be.length m5) (.slice b6 U.ac.length m6) U:=by
 obtain⟨a0,k0,a1,k1,a2,k2,a3,k3,a4,k4,a5,k5,a6,k6,rfl,h⟩:=h;have HL:=Zaa h;obtain⟨hn0,hn1,hn2,hn3,hn4,hn5,hn6⟩:=hn;have HN2:=Zaa hn2;have HN6:=Zaa hn6;have q0:=hn0.1;have q1:=hn1.1;have q3:=hn3;have q4:=hn4;have q5:=hn5.1;unfold Zbo at q3;unfold ZaS at q4;clear h hn0 hn1 hn2 hn3 hn4 hn5 hn6;obtain⟨cs,hcs⟩:∃ cs,cs=rrL U a0 k0 a1 k1 a2 k2 a3 k3 a4 k4 a5 k5 a6 k6:=⟨_,rfl⟩
 rw [<- hcs];go_enter func71,ntmps71;have HCS:=Zaa hcs;clear hcs;go_wp2_with fail
 obtain⟨v0,hv0,FB,RB,HB⟩:∃ wz,wz=(w.alloc (.cells cs.toArray 61)).alloc (.cells zR 61)/\
  Hd (Box wz w.heap.size (rrL U a0 k0 a1 k1 a2 k2 a3 k3 a4 k4 a5 k5 a6 k6).toArray)/\Hd (Box wz (w.heap.size+1) zR)/\Hd (Zw_ w wz):=
  ⟨_,rfl,by unfold Hd;rw [<- HCS.o];exact (Box.new w _ _ _ rfl).on (Zab _ _),Box.new _ _ _ _ (by simp),(Zab _ _).trans ((Zab _ _).mono (by simp))⟩
 rw [<- hv0];clear hv0;have hz0:w.heap.size+2<=v0.heap.size:=by have:=RB.o.lt;omega
 have g3:v0.cell? ⟨w.heap.size,3,none⟩=some (.int .i64 U.sf.pr):=FB.o.cell 3;have g4:v0.cell? ⟨w.heap.size,4,none⟩=some (.int .i64 U.sf.kn):=FB.o.cell 4;have g5:v0.cell? ⟨w.heap.size,5,none⟩=some (.slice a0 U.sf.sl.length k0):=FB.o.cell 5;have g6:v0.cell? ⟨w.heap.size,6,none⟩=some (.int .i64 U.dk.pr):=FB.o.cell 6;have g7:v0.cell? ⟨w.heap.size,7,none⟩=some (.int .i64 U.dk.kn):=FB.o.cell 7;have g8:v0.cell? ⟨w.heap.size,8,none⟩=some (.slice a1 U.dk.sl.length k1):=FB.o.cell 8;have g15:v0.cell? ⟨w.heap.size,15,none⟩=some (.slice a5 U.be.length k5):=FB.o.cell 15;refine Code.wp_mono NoPanic.imp ?_;refine Zan (S:=H7 w.heap.size (.int .i64 U.sf.pr) (.int .i64 U.sf.kn) (.slice a0 U.sf.sl.length k0) (.int .i64 U.dk.pr) (.int .i64 U.dk.kn) (.slice a1 U.dk.sl.length k1) (.slice a5 U.be.length k5)) [10,11,12,13,14] (by kernel_rfl) ⟨g3,g4,g5,g6,g7,g8,g15⟩ (fun hHeld=>?_)
 refine Zbu [1,2,5,8,9,10,11,12,13,14] (i:=0) (v:=.pointer (some ⟨w.heap.size,3,none⟩)) rfl (by kernel_rfl) (by kernel_rfl) (by kernel_rfl) (by kernel_rfl) (fun _ _ _ h=>h) (Or.inl ⟨by rfl,fun W hW=>by obtain⟨h1,h2,h3,h4,h5,h6,h7⟩:=hW;go_simp⟩) hHeld ?_
 try simp only [Act.put,List.getElem_toArray,List.getElem_cons_zero,List.setIfInBounds_toArray,List.set_cons_zero,List.set_cons_succ]
 refine Zbu [2,5,8,9,10,11,12,13,14] (i:=1) (v:=.agg #[.int .i64 U.sf.pr,.int .i64 U.sf.kn,.slice a0 U.sf.sl.length k0]) rfl (by kernel_rfl) (by kernel_rfl) (by kernel_rfl) (by kernel_rfl) (fun _ _ _ h=>h) (Or.inl ⟨by rfl,fun W hW=>by obtain⟨h1,h2,h3,h4,h5,h6,h7⟩:=hW;go_simp⟩) hHeld ?_
 try simp only [Act.put,sLs]
 refine Zbu [4,5,8,9,10,11,12,13,14] (i:=3) (v:=.pointer (some ⟨w.heap.size,6,none⟩)) rfl (by kernel_rfl) (by kernel_rfl) (by kernel_rfl) (by kernel_rfl) (fun _ _ _ h=>h) (Or.inl ⟨by rfl,fun W hW=>by obtain⟨h1,h2,h3,h4,h5,h6,h7⟩:=hW;go_simp⟩) hHeld ?_
 try simp only [Act.put,sLs]
 refine Zbu [5,8,9,10,11,12,13,14] (i:=4) (v:=.agg #[.int .i64 U.dk.pr,.int .i64 U.dk.kn,.slice a1 U.dk.sl.length k1]) rfl (by kernel_rfl) (by kernel_rfl) (by kernel_rfl) (by kernel_rfl) (fun _ _ _ h=>h) (Or.inl ⟨by rfl,fun W hW=>by obtain⟨h1,h2,h3,h4,h5,h6,h7⟩:=hW;go_simp⟩) hHeld ?_
 try simp only [Act.put,sLs]
 refine Zbu [7,8,9,10,11,12,13,14] (i:=6) (v:=.pointer (some ⟨w.heap.size,15,none⟩)) rfl (by kernel_rfl) (by kernel_rfl) (by kernel_rfl) (by kernel_rfl) (fun _ _ _ h=>h) (Or.inl ⟨by rfl,fun W hW=>by obtain⟨h1,h2,h3,h4,h5,h6,h7⟩:=hW;go_simp⟩) hHeld ?_
 try simp only [Act.put,sLs]
 refine Zbu [8,9,10,11,12,13,14] (i:=7) (v:=.slice a5 U.be.length k5) rfl (by kernel_rfl) (by kernel_rfl) (by kernel_rfl) (by kernel_rfl) (fun _ _ _ h=>h) (Or.inl ⟨by rfl,fun W hW=>by obtain⟨h1,h2,h3,h4,h5,h6,h7⟩:=hW;go_simp⟩) hHeld ?_
 try simp only [Act.put,sLs]
 refine oB 2 rfl (fun K hK=>?_)
 go_simp
 refine (Zdo lo U.sf _ _ _ ((HL.o.below HB.o).l0.below (Zb_.drew)) q0).mono ?_;rintro e x0 ⟨b0,m0,rfl,hb,hs⟩;have hx0:v0.heap.size<=x0.heap.size:=hb.size;have hHn:=hHeld.below hb (by have:=FB.o.lt;exact this);replace hb:Below v0.heap.size v0 x0:=(Zb_.drew).trans hb;replace FB:=Zaa (FB.o.on hb);replace RB:=Zaa (RB.o.on hb);replace HB:=Zaa (bt HB.o hb);have N0:Hd (Zay rsL 2 x0 v0.heap.size x0.heap.size (.slice b0 U.sf.sl.length m0) U.sf.sl):=hs;clear hb hs;refine hK.out _ _ (fun _=>hHn) (fun hHx=>?_);clear hHeld hHn;have hHeld:=hHx (by decide);clear hK K hHx
 try simp only [Act.put,sLs]
 refine Zbu [10,11,12,13,14] (i:=9) (v:=.pointer (some ⟨w.heap.size,3,none⟩)) rfl (by kernel_rfl) (by kernel_rfl) (by kernel_rfl) (by kernel_rfl) (fun _ _ _ h=>h) (Or.inl ⟨by rfl,fun W hW=>by obtain⟨h1,h2,h3,h4,h5,h6,h7⟩:=hW;go_simp⟩) hHeld ?_
 try simp only [Act.put,sLs]
 refine oB 5 rfl (fun K hK=>?_)
 go_simp
 refine (Zdo lo U.dk _ _ _ ((HL.o.below HB.o).l1) q1).mono ?_;rintro e x1 ⟨b1,m1,rfl,hb,hs⟩;have hx1:x0.heap.size<=x1.heap.size:=hb.size;have hHn:=hHeld.below hb (by have:=FB.o.lt;exact this);replace hb:Below x0.heap.size x0 x1:=hb;replace FB:=Zaa (FB.o.on hb);replace RB:=Zaa (RB.o.on hb);replace HB:=Zaa (bt HB.o hb);replace N0:=Zaa (N0.o.below hb);have N1:Hd (Zay rsL 2 x1 x0.heap.size x1.heap.size (.slice b1 U.dk.sl.length m1) U.dk.sl):=hs;clear hb hs;refine hK.out _ _ (fun _=>hHn) (fun hHx=>?_);clear hHeld hHn;have hHeld:=hHx (by decide);clear hK K hHx
 try simp only [Act.put,sLs]
 refine oB 8 rfl (fun K hK=>?_)
 go_simp
 refine (ZcI lo _ U.be _ ((HL.o.below HB.o).l5) q5).mono ?_;rintro e x5 ⟨u5,rfl,hb,hs⟩;obtain⟨b5,m5,rfl⟩:=hs.form;have hx5:x1.heap.size<=x5.heap.size:=hb.size;have hHn:=hHeld.below hb (by have:=FB.o.lt;exact this);replace hb:Below x1.heap.size x1 x5:=hb;replace FB:=Zaa (FB.o.on hb);replace RB:=Zaa (RB.o.on hb);replace HB:=Zaa (bt HB.o hb);replace N0:=Zaa (N0.o.below hb);replace N1:=Zaa (N1.o.below hb);have N5:Hd (Zay rsL 2 x5 x1.heap.size x5.heap.size (.slice b5 U.be.length m5) U.be):=hs;clear hb hs;refine hK.out _ _ (fun _=>hHn) (fun hHx=>?_);clear hHeld hHn;have hHeld:=hHx (by decide);clear hK K hHx
 try simp only [Act.put,sLs]
 clear hHeld;have z3:x5.cell? ⟨w.heap.size,3,none⟩=some (.int .i64 U.sf.pr):=FB.o.cell 3;have z4:x5.cell? ⟨w.heap.size,4,none⟩=some (.int .i64 U.sf.kn):=FB.o.cell 4;have z5:x5.cell? ⟨w.heap.size,5,none⟩=some (.slice a0 U.sf.sl.length k0):=FB.o.cell 5;have z6:x5.cell? ⟨w.heap.size,6,none⟩=some (.int .i64 U.dk.pr):=FB.o.cell 6;have z7:x5.cell? ⟨w.heap.size,7,none⟩=some (.int .i64 U.dk.kn):=FB.o.cell 7;have z8:x5.cell? ⟨w.heap.size,8,none⟩=some (.slice a1 U.dk.sl.length k1):=FB.o.cell 8;have z15:x5.cell? ⟨w.heap.size,15,none⟩=some (.slice a5 U.be.length k5):=FB.o.cell 15;have zf:=FB.o.free;refine oB 10 rfl (fun K hK=>?_)
 go_simp
 refine hK.out _ _ (fun h=>absurd (by decide) h) (fun _=>?_);clear hK K
 try simp only [Act.put,sLs]
 refine oB 11 rfl (fun K hK=>?_)
 go_simp
 refine hK.out _ _ (fun h=>absurd (by decide) h) (fun _=>?_);clear hK K
 try simp only [Act.put,sLs]
 refine oB 12 rfl (fun K hK=>?_)
 go_simp
 refine hK.out _ _ (fun h=>absurd (by decide) h) (fun _=>?_);clear hK K
 try simp only [Act.put,sLs]
 refine oB 13 rfl (fun K hK=>?_)
 go_simp
 refine hK.out _ _ (fun h=>absurd (by decide) h) (fun _=>?_);clear hK K
 try simp only [Act.put,sLs]
 refine oB 14 rfl (fun K hK=>?_)
 go_simp
 refine hK.out _ _ (fun h=>absurd (by decide) h) (fun _=>?_);clear hK K
 try simp only [Act.put,sLs]
 refine Zak (by kernel_rfl) ?_ _;refine NoPanic.normal ?_;clear z3 z4 z5 z6 z7 z8 z15 zf g3 g4 g5 g6 g7 g8 g15
 obtain⟨v2,hwq,GF,GR,GB,GN0,GN1,GN5⟩:∃ wq,wq=(((((((x5.setCell ⟨w.heap.size,3,none⟩ (.int .i64 U.sf.pr)).setCell ⟨w.heap.size,4,none⟩ (.int .i64 U.sf.kn)).setCell ⟨w.heap.size,5,none⟩ (.slice b0 U.sf.sl.length m0)).setCell ⟨w.heap.size,6,none⟩ (.int .i64 U.dk.pr)).setCell ⟨w.heap.size,7,none⟩ (.int .i64 U.dk.kn)).setCell ⟨w.heap.size,8,none⟩ (.slice b1 U.dk.sl.length m1)).setCell ⟨w.heap.size,15,none⟩ (.slice b5 U.be.length m5))/\Hd (Box wq w.heap.size (rrL U b0 m0 b1 m1 a2 k2 a3 k3 a4 k4 b5 m5 a6 k6).toArray)/\Hd (Box wq (w.heap.size+1) zR)/\Hd (Zw_ w wq)/\Hd (Zay rsL 2 wq v0.heap.size x0.heap.size (.slice b0 U.sf.sl.length m0) U.sf.sl)/\Hd (Zay rsL 2 wq x0.heap.size x1.heap.size (.slice b1 U.dk.sl.length m1) U.dk.sl)/\Hd (Zay rsL 2 wq x1.heap.size x5.heap.size (.slice b5 U.be.length m5) U.be):=
  ⟨_,rfl,(((((((FB.o.set (k:=3) (.int .i64 U.sf.pr) (by show 3 < 18;omega)).set (k:=4) (.int .i64 U.sf.kn) (by show 4 < 18;omega)).set (k:=5) (.slice b0 U.sf.sl.length m0) (by show 5 < 18;omega)).set (k:=6) (.int .i64 U.dk.pr) (by show 6 < 18;omega)).set (k:=7) (.int .i64 U.dk.kn) (by show 7 < 18;omega)).set (k:=8) (.slice b1 U.dk.sl.length m1) (by show 8 < 18;omega)).set (k:=15) (.slice b5 U.be.length m5) (by show 15 < 18;omega)),(((((((RB.o.setFar (by simp only [];omega) _).setFar (by simp only [];omega) _).setFar (by simp only [];omega) _).setFar (by simp only [];omega) _).setFar (by simp only [];omega) _).setFar (by simp only [];omega) _).setFar (by simp only [];omega) _),(((((((HB.o.setCell (by simp only [];omega) _).setCell (by simp only [];omega) _).setCell (by simp only [];omega) _).setCell (by simp only [];omega) _).setCell (by simp only [];omega) _).setCell (by simp only [];omega) _).setCell (by simp only [];omega) _),(((((((N0.o.set (by simp only [];omega) _).set (by simp only [];omega) _).set (by simp only [];omega) _).set (by simp only [];omega) _).set (by simp only [];omega) _).set (by simp only [];omega) _).set (by simp only [];omega) _),(((((((N1.o.set (by simp only [];omega) _).set (by simp only [];omega) _).set (by simp only [];omega) _).set (by simp only [];omega) _).set (by simp only [];omega) _).set (by simp only [];omega) _).set (by simp only [];omega) _),(((((((N5.o.set (by simp only [];omega) _).set (by simp only [];omega) _).set (by simp only [];omega) _).set (by simp only [];omega) _).set (by simp only [];omega) _).set (by simp only [];omega) _).set (by simp only [];omega) _)⟩
 have hv2:v2.heap.size=x5.heap.size:=by rw [hwq];simp [World.setCell]
 rw [<- hwq];clear hwq FB RB HB N0 N1 N5;have FB:=GF;have RB:=GR;have HB:=GB;have N0:=GN0;have N1:=GN1;have N5:=GN5;clear GF GR GB GN0 GN1 GN5;have g9:v2.cell? ⟨w.heap.size,9,none⟩=some (.slice a2 U.he.length k2):=FB.o.cell 9;go_wp2_with fail;clear g9;refine (ZfX lo _ U.he _ (HL.o.below HB.o).l2 HN2.o).mono ?_;rintro e x2 ⟨u2,L2,rfl,hb,hs,hl⟩;have HL2:=Zaa hl;have hlen:L2.length=U.he.length:=by rw [<- hl,List.length_map]
 obtain⟨b2,m2,hu⟩:=hs.form;rw [hlen] at hu;subst hu;clear hlen hl;have hx2:v2.heap.size<=x2.heap.size:=hb.size;replace FB:=Zaa (FB.o.on hb);replace RB:=Zaa (RB.o.on hb);replace HB:=Zaa (bt HB.o hb);replace N0:=Zaa (N0.o.below hb);replace N1:=Zaa (N1.o.below hb);replace N5:=Zaa (N5.o.below hb);have N2:Hd (ZbO PM mxL 8 x2 v2.heap.size x2.heap.size (.slice b2 U.he.length m2) L2):=hs;clear hb hs;have g9:x2.cell? ⟨w.heap.size,9,none⟩=some (.slice a2 U.he.length k2):=FB.o.cell 9;have gf:=FB.o.free;have y10:∀ u,(x2.setCell ⟨w.heap.size,9,none⟩ u).cell? ⟨w.heap.size,10,none⟩=some (.slice a3 U.wi.length k3):=fun u=>(FB.o.set (k:=9) u (by show 9 < 18;omega)).cell 10
 go_wp2_with fail;clear g9 gf y10
 obtain⟨v3,hwq,GF,GR,GB,GN0,GN1,GN5,GN2⟩:∃ wq,wq=(x2.setCell ⟨w.heap.size,9,none⟩ (.slice b2 U.he.length m2))/\Hd (Box wq w.heap.size (rrL U b0 m0 b1 m1 b2 m2 a3 k3 a4 k4 b5 m5 a6 k6).toArray)/\Hd (Box wq (w.heap.size+1) zR)/\Hd (Zw_ w wq)/\Hd (Zay rsL 2 wq v0.heap.size x0.heap.size (.slice b0 U.sf.sl.length m0) U.sf.sl)/\Hd (Zay rsL 2 wq x0.heap.size x1.heap.size (.slice b1 U.dk.sl.length m1) U.dk.sl)/\Hd (Zay rsL 2 wq x1.heap.size x5.heap.size (.slice b5 U.be.length m5) U.be)/\Hd (ZbO PM mxL 8 wq v2.heap.size x2.heap.size (.slice b2 U.he.length m2) L2):=
  ⟨_,rfl,(FB.o.set (k:=9) (.slice b2 U.he.length m2) (by show 9 < 18;omega)),(RB.o.setFar (by simp only [];omega) _),(HB.o.setCell (by simp only [];omega) _),(N0.o.set (by simp only [];omega) _),(N1.o.set (by simp only [];omega) _),(N5.o.set (by simp only [];omega) _),(N2.o.set Zi0 (by simp only [];omega) _)⟩
 have hv3:v3.heap.size=x2.heap.size:=by rw [hwq];simp [World.setCell]
 rw [<- hwq];clear hwq FB RB HB N0 N1 N5 N2;have FB:=GF;have RB:=GR;have HB:=GB;have N0:=GN0;have N1:=GN1;have N5:=GN5;have N2:=GN2;clear GF GR GB GN0 GN1 GN5 GN2;refine (Zg2 lo _ U.wi _ (HL.o.below HB.o).l3 q3).mono ?_;rintro e x3 ⟨u3,rfl,hb,hs⟩;obtain⟨b3,m3,rfl⟩:=hs.form;have hx3:v3.heap.size<=x3.heap.size:=hb.size;replace FB:=Zaa (FB.o.on hb);replace RB:=Zaa (RB.o.on hb);replace HB:=Zaa (bt HB.o hb);replace N0:=Zaa (N0.o.below hb);replace N1:=Zaa (N1.o.below hb);replace N5:=Zaa (N5.o.below hb);replace N2:=Zaa (N2.o.below Zi0 hb);have N3:Hd (Zay tyL 1 x3 v3.heap.size x3.heap.size (.slice b3 U.wi.length m3) U.wi):=hs;clear hb hs;have g10:x3.cell? ⟨w.heap.size,10,none⟩=some (.slice a3 U.wi.length k3):=FB.o.cell 10;have gf:=FB.o.free
 have y14:∀ u,(x3.setCell ⟨w.heap.size,10,none⟩ u).cell? ⟨w.heap.size,14,none⟩=some (.slice a4 U.ye.length k4):=fun u=>(FB.o.set (k:=10) u (by show 10 < 18;omega)).cell 14
 go_wp2_with (at_builtin;refine Hd.o ?_);clear g10 gf y14
 obtain⟨v4,hwq,GF,GR,GB,GN0,GN1,GN5,GN2,GN3⟩:∃ wq,wq=(x3.setCell ⟨w.heap.size,10,none⟩ (.slice b3 U.wi.length m3))/\Hd (Box wq w.heap.size (rrL U b0 m0 b1 m1 b2 m2 b3 m3 a4 k4 b5 m5 a6 k6).toArray)/\Hd (Box wq (w.heap.size+1) zR)/\Hd (Zw_ w wq)/\Hd (Zay rsL 2 wq v0.heap.size x0.heap.size (.slice b0 U.sf.sl.length m0) U.sf.sl)/\Hd (Zay rsL 2 wq x0.heap.size x1.heap.size (.slice b1 U.dk.sl.length m1) U.dk.sl)/\Hd (Zay rsL 2 wq x1.heap.size x5.heap.size (.slice b5 U.be.length m5) U.be)/\Hd (ZbO PM mxL 8 wq v2.heap.size x2.heap.size (.slice b2 U.he.length m2) L2)/\Hd (Zay tyL 1 wq v3.heap.size x3.heap.size (.slice b3 U.wi.length m3) U.wi):=
  ⟨_,rfl,(FB.o.set (k:=10) (.slice b3 U.wi.length m3) (by show 10 < 18;omega)),(RB.o.setFar (by simp only [];omega) _),(HB.o.setCell (by simp only [];omega) _),(N0.o.set (by simp only [];omega) _),(N1.o.set (by simp only [];omega) _),(N5.o.set (by simp only [];omega) _),(N2.o.set Zi0 (by simp only [];omega) _),(N3.o.set (by simp only [];omega) _)⟩
 have hv4:v4.heap.size=x3.heap.size:=by rw [hwq];simp [World.setCell]
 rw [<- hwq];clear hwq FB RB HB N0 N1 N5 N2 N3;have FB:=GF;have RB:=GR;have HB:=GB;have N0:=GN0;have N1:=GN1;have N5:=GN5;have N2:=GN2;have N3:=GN3;clear GF GR GB GN0 GN1 GN5 GN2 GN3;have HP4:=Zaa (HL.o.below HB.o).l4;refine Zaa ?_;refine Zdj ZaE (by decide) underlying51 Zbe rfl (w:=v4) (lo:=v4.heap.size) (hi':=v4.heap.size) (L:=[]) U.ye rfl (.const (.slice none 0 0)) (.tmp 24) rfl rfl (Zay.nil _ _ _ _ _) a4 U.ye.length k4 rfl rfl (fun e=>HP4.o.nilN e) HP4.o.src (ZaO _) (by simp;omega) (by decide) ?_;intro u4 x4 h1 h2;have hb:Below v4.heap.size v4 x4:=h1.none Zl_;rw [List.nil_append] at h2;have hs:=Zay.freshB h2 h1.size;obtain⟨b4,m4,rfl⟩:=hs.form;clear h1 h2 HP4;have hx4:v4.heap.size<=x4.heap.size:=hb.size;replace FB:=Zaa (FB.o.on hb);replace RB:=Zaa (RB.o.on hb);replace HB:=Zaa (bt HB.o hb);replace N0:=Zaa (N0.o.below hb)
 replace N1:=Zaa (N1.o.below hb);replace N5:=Zaa (N5.o.below hb);replace N2:=Zaa (N2.o.below Zi0 hb);replace N3:=Zaa (N3.o.below hb);have N4:Hd (Zay inL 1 x4 v4.heap.size x4.heap.size (.slice b4 U.ye.length m4) U.ye):=hs;clear hb hs;have g14:x4.cell? ⟨w.heap.size,14,none⟩=some (.slice a4 U.ye.length k4):=FB.o.cell 14;have gf:=FB.o.free;have y16:∀ u,(x4.setCell ⟨w.heap.size,14,none⟩ u).cell? ⟨w.heap.size,16,none⟩=some (.slice a6 U.ac.length k6):=fun u=>(FB.o.set (k:=14) u (by show 14 < 18;omega)).cell 16
 go_wp2_with fail;clear g14 gf y16
 obtain⟨v6,hwq,GF,GR,GB,GN0,GN1,GN5,GN2,GN3,GN4⟩:∃ wq,wq=(x4.setCell ⟨w.heap.size,14,none⟩ (.slice b4 U.ye.length m4))/\Hd (Box wq w.heap.size (rrL U b0 m0 b1 m1 b2 m2 b3 m3 b4 m4 b5 m5 a6 k6).toArray)/\Hd (Box wq (w.heap.size+1) zR)/\Hd (Zw_ w wq)/\Hd (Zay rsL 2 wq v0.heap.size x0.heap.size (.slice b0 U.sf.sl.length m0) U.sf.sl)/\Hd (Zay rsL 2 wq x0.heap.size x1.heap.size (.slice b1 U.dk.sl.length m1) U.dk.sl)/\Hd (Zay rsL 2 wq x1.heap.size x5.heap.size (.slice b5 U.be.length m5) U.be)/\Hd (ZbO PM mxL 8 wq v2.heap.size x2.heap.size (.slice b2 U.he.length m2) L2)/\Hd (Zay tyL 1 wq v3.heap.size x3.heap.size (.slice b3 U.wi.length m3) U.wi)/\Hd (Zay inL 1 wq v4.heap.size x4.heap.size (.slice b4 U.ye.length m4) U.ye):=
  ⟨_,rfl,(FB.o.set (k:=14) (.slice b4 U.ye.length m4) (by show 14 < 18;omega)),(RB.o.setFar (by simp only [];omega) _),(HB.o.setCell (by simp only [];omega) _),(N0.o.set (by simp only [];omega) _),(N1.o.set (by simp only [];omega) _),(N5.o.set (by simp only [];omega) _),(N2.o.set Zi0 (by simp only [];omega) _),(N3.o.set (by simp only [];omega) _),(N4.o.set (by simp only [];omega) _)⟩
 have hv6:v6.heap.size=x4.heap.size:=by rw [hwq];simp [World.setCell]
 rw [<- hwq];clear hwq FB RB HB N0 N1 N5 N2 N3 N4;have FB:=GF;have RB:=GR;have HB:=GB;have N0:=GN0;have N1:=GN1;have N5:=GN5;have N2:=GN2;have N3:=GN3;have N4:=GN4;clear GF GR GB GN0 GN1 GN5 GN2 GN3 GN4;refine (ZfW lo _ U.ac _ (HL.o.below HB.o).l6 HN6.o).mono ?_;rintro e x6 ⟨u6,L6,rfl,hb,hs,hl⟩;have HL6:=Zaa hl;have hlen:L6.length=U.ac.length:=by rw [<- hl,List.length_map]
 obtain⟨b6,m6,hu⟩:=hs.form;rw [hlen] at hu;subst hu;clear hlen hl;have hx6:v6.heap.size<=x6.heap.size:=hb.size;replace FB:=Zaa (FB.o.on hb);replace RB:=Zaa (RB.o.on hb);replace HB:=Zaa (bt HB.o hb);replace N0:=Zaa (N0.o.below hb);replace N1:=Zaa (N1.o.below hb);replace N5:=Zaa (N5.o.below hb);replace N2:=Zaa (N2.o.below Zi0 hb);replace N3:=Zaa (N3.o.below hb);replace N4:=Zaa (N4.o.below hb);have N6:Hd (ZbO PA axL 2 x6 v6.heap.size x6.heap.size (.slice b6 U.ac.length m6) L6):=hs;clear hb hs;have g16:x6.cell? ⟨w.heap.size,16,none⟩=some (.slice a6 U.ac.length k6):=FB.o.cell 16;have gf:=FB.o.free;obtain⟨ll,hll⟩:∃ ll,ll=rrL U b0 m0 b1 m1 b2 m2 b3 m3 b4 m4 b5 m5 b6 m6:=⟨_,rfl⟩
 have HLL:=Zaa hll;have h18:ll.toArray.size=18:=by rw [hll];rfl
 have FB8:Hd (Box (x6.setCell ⟨w.heap.size,16,none⟩ (.slice b6 U.ac.length m6)) w.heap.size ll.toArray):=by unfold Hd;rw [hll];exact FB.o.set (k:=16) (.slice b6 U.ac.length m6) (by show 16 < 18;omega)
 have RB8:Hd (Box (x6.setCell ⟨w.heap.size,16,none⟩ (.slice b6 U.ac.length m6)) (w.heap.size+1) zR):=RB.o.setFar (by simp only [];omega) _;have HS:Hd ((prog.info? 61).map (·.size)=some ll.length):=by unfold Hd;rw [hll];exact ZaA
 have HSA:Hd ((prog.info? 61).map (·.size)=some ll.toArray.size):=by unfold Hd;rw [hll];exact ZaA
 have HON:Hd (ll.toArray.all (·.oneCell')=true):=by unfold Hd;rw [hll];simp [rrL,Value.oneCell']
 have HTH:Hd (World.there (x6.setCell ⟨w.heap.size,16,none⟩ (.slice b6 U.ac.length m6)) (w.heap.size+1) 0 ll.toArray.size):=by unfold Hd;rw [h18];exact RB8.o.there rfl
 have HRA:Hd (World.rangeAt (x6.setCell ⟨w.heap.size,16,none⟩ (.slice b6 U.ac.length m6)) w.heap.size 0 ll):=FB8.o.range rfl;have H18:=Zaa h18;clear hll h18
 go_wp2_with (first
  | (with_reducible refine ldR (.tmp 1) w.heap.size 0 ll HRA.o HS.o ?_)
  | (with_reducible refine stR (.tmp 2) (.tmp 31) (w.heap.size+1) 0 ll.toArray HTH.o HSA.o HON.o ?_;refine Hd.o ?_))
 clear g16 gf;generalize hW:World.setCells _ _ _ _=W9;have FR9:Hd (Box W9 (w.heap.size+1) ll.toArray):=by unfold Hd;rw [<- hW];exact RB8.o.full (by rw [H18.o];rfl)
 have h9:W9.heap.size=x6.heap.size:=by rw [<- hW,Za6];simp [World.setCell]
 have HB9:Hd (Zw_ w W9):=by unfold Hd;rw [<- hW];exact Below.sets (by omega) _ _ (HB.o.setCell (by simp only [];omega) _)
 have M0:Hd (Zay rsL 2 W9 v0.heap.size x0.heap.size (.slice b0 U.sf.sl.length m0) U.sf.sl):=by unfold Hd;rw [<- hW];exact Za4 (P:=fun W=>Zay rsL 2 W v0.heap.size x0.heap.size (.slice b0 U.sf.sl.length m0) U.sf.sl) (fun _ _ u hp h=>h.set hp u) (show w.heap.size+1 < v0.heap.size by omega) _ _ _ (N0.o.set (show w.heap.size < v0.heap.size by omega) _)
 have M1:Hd (Zay rsL 2 W9 x0.heap.size x1.heap.size (.slice b1 U.dk.sl.length m1) U.dk.sl):=by unfold Hd;rw [<- hW];exact Za4 (P:=fun W=>Zay rsL 2 W x0.heap.size x1.heap.size (.slice b1 U.dk.sl.length m1) U.dk.sl) (fun _ _ u hp h=>h.set hp u) (show w.heap.size+1 < x0.heap.size by omega) _ _ _ (N1.o.set (show w.heap.size < x0.heap.size by omega) _)
 have M2:Hd (ZbO PM mxL 8 W9 v2.heap.size x2.heap.size (.slice b2 U.he.length m2) L2):=by unfold Hd;rw [<- hW];exact Za4 (P:=fun W=>ZbO PM mxL 8 W v2.heap.size x2.heap.size (.slice b2 U.he.length m2) L2) (fun _ _ u hp h=>h.set Zi0 hp u) (show w.heap.size+1 < v2.heap.size by omega) _ _ _ (N2.o.set Zi0 (show w.heap.size < v2.heap.size by omega) _)
 have M3:Hd (Zay tyL 1 W9 v3.heap.size x3.heap.size (.slice b3 U.wi.length m3) U.wi):=by unfold Hd;rw [<- hW];exact Za4 (P:=fun W=>Zay tyL 1 W v3.heap.size x3.heap.size (.slice b3 U.wi.length m3) U.wi) (fun _ _ u hp h=>h.set hp u) (show w.heap.size+1 < v3.heap.size by omega) _ _ _ (N3.o.set (show w.heap.size < v3.heap.size by omega) _)
 have M4:Hd (Zay inL 1 W9 v4.heap.size x4.heap.size (.slice b4 U.ye.length m4) U.ye):=by unfold Hd;rw [<- hW];exact Za4 (P:=fun W=>Zay inL 1 W v4.heap.size x4.heap.size (.slice b4 U.ye.length m4) U.ye) (fun _ _ u hp h=>h.set hp u) (show w.heap.size+1 < v4.heap.size by omega) _ _ _ (N4.o.set (show w.heap.size < v4.heap.size by omega) _)
 have M5:Hd (Zay rsL 2 W9 x1.heap.size x5.heap.size (.slice b5 U.be.length m5) U.be):=by unfold Hd;rw [<- hW];exact Za4 (P:=fun W=>Zay rsL 2 W x1.heap.size x5.heap.size (.slice b5 U.be.length m5) U.be) (fun _ _ u hp h=>h.set hp u) (show w.heap.size+1 < x1.heap.size by omega) _ _ _ (N5.o.set (show w.heap.size < x1.heap.size by omega) _)
 have M6:Hd (ZbO PA axL 2 W9 v6.heap.size x6.heap.size (.slice b6 U.ac.length m6) L6):=by unfold Hd;rw [<- hW];exact Za4 (P:=fun W=>ZbO PA axL 2 W v6.heap.size x6.heap.size (.slice b6 U.ac.length m6) L6) (fun _ _ u hp h=>h.set ZkW hp u) (show w.heap.size+1 < v6.heap.size by omega) _ _ _ (N6.o.set ZkW (show w.heap.size < v6.heap.size by omega) _)
 clear hW;refine Zaa ?_;go_wp2;refine bodyPost_ret (v:=.agg ll.toArray) (ZdL (p:=2) (ty:=61) results71 _ _ (w.heap.size+1) 0 ll _ rfl (FR9.o.range rfl) underlying61 rfl HS.o) rfl ⟨b0,m0,b1,m1,b2,m2,b3,m3,b4,m4,b5,m5,b6,m6,fun i=>(lo7 (v0.heap.size) (x0.heap.size) (v2.heap.size) (v3.heap.size) (v4.heap.size) (x1.heap.size) (v6.heap.size) i,lo7 (x0.heap.size) (x1.heap.size) (x2.heap.size) (x3.heap.size) (x4.heap.size) (x5.heap.size) (x6.heap.size) i),by rw [HLL.o],HB9.o,⟨fun i hi=>?_,fun i j hi hj hne=>?_,M0.o,M1.o,⟨L2,M2.o,HL2.o⟩,M3.o,M4.o,M5.o,⟨L6,M6.o,HL6.o⟩⟩⟩
 . rcases (by omega:i=0\/i=1\/i=2\/i=3\/i=4\/i=5\/i=6) with rfl | rfl | rfl | rfl | rfl | rfl | rfl <;> simp only [lo7] <;> omega
 . rcases (by omega:i=0\/i=1\/i=2\/i=3\/i=4\/i=5\/i=6) with rfl | rfl | rfl | rfl | rfl | rfl | rfl <;> rcases (by omega:j=0\/j=1\/j=2\/j=3\/j=4\/j=5\/j=6) with rfl | rfl | rfl | rfl | rfl | rfl | rfl <;> simp only [lo7] <;> omega
end Go.Proofs.YtdeammfdkaomlaaGreat
