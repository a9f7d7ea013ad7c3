import Derived.Test.YtdeammfdkaomlaaGreatM45
set_option maxHeartbeats 16000000
set_option maxRecDepth 100000
open Go.Proofs.Tryz
namespace Go.Proofs.YtdeammfdkaomlaaGreat
open Go.RowKit Go.Deep
variable {U:Rr}
theorem Rz.row {K:Nat->Prop}{lo:Nat}{w w':World}{γ lx ux lx' ux':Nat}{b:Nat->Option Addr}{m:Nat->Nat}{S:Nat->Nat->Prop} (h:Rz (fun k=>K k\/(lx<=k/\k < ux)) lo w γ b m S U) (ht:Zad lx ux w w') (hq:(lx'=lx/\ux'=ux)\/(lx'=w.heap.size/\ux'=w'.heap.size)):Rz (fun k=>K k\/(lx'<=k/\k < ux')) lo w' γ b m S U:=by
 have hsz:=ht.size
 have hγ:γ < lx\/ux<=γ:=by
  rcases Nat.lt_or_ge γ lx with h1 | h1
  . exact Or.inl h1
  . rcases Nat.lt_or_ge γ ux with h2 | h2
    . exact absurd rfl (h.prot γ (Or.inr ⟨h1,h2⟩)).2.1
    . exact Or.inr h2
 refine⟨h.box.tch2 ht hγ,h.cp.kept (K:=fun k=>k < w.heap.size/\(k < lx\/ux<=k)) (Zag.touch ht fun _ h=>h) (fun i hi k hS=>⟨(h.cp.seg i hi k hS).2,?_⟩),Nat.le_trans h.low hsz,h.far,fun k hk=>?_⟩
 . rcases Nat.lt_or_ge k lx with h1 | h1
   . exact Or.inl h1
   . rcases Nat.lt_or_ge k ux with h2 | h2
     . exact absurd hS ((h.prot k (Or.inr ⟨h1,h2⟩)).2.2 i hi)
     . exact Or.inr h2
 . have hb:=h.box.lt
   rcases hk with hk | ⟨k1,k2⟩
   . have:=h.prot k (Or.inl hk);exact⟨by omega,this.2⟩
   . rcases hq with ⟨rfl,rfl⟩ | ⟨rfl,rfl⟩
     . have:=h.prot k (Or.inr ⟨k1,k2⟩);exact⟨by omega,this.2⟩
     . exact⟨k2,by omega,fun i hi hS=>by have:=(h.cp.seg i hi k hS).2;omega⟩
theorem ZcM {M:Rm} (h:U.of<=5):(Zax U M).length<=5:=by
 have h1:=ZcY U M U.of.toNat;have h2:ZaB U M U.of.toNat=Zax U M:=rfl;rw [h2] at h1
 omega
theorem Zeq (h:U.of<=5):∀ k,(Zb6 U k).length<=5*k
 | 0=>by simp [Zb6]
 | k+1=>by
  rw [ZcO,List.length_append];have h1:=Zeq h k;have h2:=ZcM (M:=Zcp U (U.dk.kn.toNat+k)) h
  omega
theorem ZcD {P:Program}{fn:Func}{p q:Tmp}{ty:TypeId} (h:fn.results=#[.cell p ty,.tmp q]) (tmps:Array Value) (w:World) (b o:Nat) (cs:List Value) (d:TypeDesc)
 (hp:tmps.getD p undef=.pointer (some ⟨b,o,none⟩)) (hc:w.rangeAt b o cs) (hu:P.underlying ty=some d) (hd:d.isRow=true) (hi:(P.info? ty).map (·.size)=some cs.length) :
 (results fn tmps).run P w=.ok (.tuple #[.agg cs.toArray,tmps.getD q undef]) w:=by
 have hp':tmps[p]?.getD undef=.pointer (some ⟨b,o,none⟩):=by simpa using hp
 simp [results,h,hp',asAddr,run_loadVar_mid w b o ty cs d hc hu hd hi]
theorem Zij {a b:Bool} (h:a=b):(Ending.returned (.bool a))=.returned (.bool b):=by rw [h]
theorem Zh8 (K:Nat->Prop) (lo:Nat) (w:World) (U:Rr) (b:Nat->Option Addr) (m:Nat->Nat) (S:Nat->Nat->Prop) (lx ux:Nat) (v:Value) (L:List MX) (h:Cz K lo w b m S U) (hKx:∀ k,lx<=k->k < ux->K k) (hv:Zay mxL 8 w lx ux v L) (hux:ux<=w.heap.size) (hok:Zc3 1000 U) (hsf:U.sf.sl.length<=120) (hdl:U.dk.sl.length<=120) (hwl:U.wi.length<=1000) (hof:0<=U.of) (hof5:U.of<=5) (hL:L.length<=1000) (hz1:∀ x ∈ U.dk.sl,ZaJ x) (hz3:∀ x ∈ U.wi,x.size<=maxLen) :
 Calls prog 58 #[.agg (rrF U b m).toArray,v] w fun e w'=>∃ b' m' S' v' lx' ux',e=.returned (.tuple #[.agg (rrF (leadT U) b' m').toArray,v'])/\Zag (fun k=>K k/\¬ (lx<=k/\k < ux)) w w'/\Cz (fun k=>(K k/\¬ (lx<=k/\k < ux))\/(lx'<=k/\k < ux')) lo w' b' m' S' (leadT U)/\Zay mxL 8 w' lx' ux' v' (L ++ (Zcj (leadT U)).map mx0)/\ux'<=w'.heap.size/\((lx'=lx/\ux'=ux)\/w.heap.size<=lx'):=by
 have HC:=Zaa h;have HKw:Hd (∀ k,K k->k < w.heap.size):=fun k hk=>(h.prot k hk).1
 obtain⟨cs,hcs⟩:∃ cs,cs=rrF U b m:=⟨_,rfl⟩
 rw [<- hcs];have HCS:=Zaa hcs;clear hcs h;go_enter func58,ntmps58
 go_upto_region 1 with fail
 obtain⟨wz,hwz,FB,RB,HB⟩:∃ wz,wz=(w.alloc (.cells cs.toArray 61)).alloc (.cells zR 61)/\Hd (Box wz w.heap.size (rrF U b m).toArray)/\Hd (Box wz (w.heap.size+1) zR)/\Hd (Zw_ w wz):=⟨_,rfl,by unfold Hd;rw [<- HCS.o];exact ((Box.new w _ _ _ rfl).on (Zab _ _)),Box.new _ _ _ _ (by simp),(bt (Zab _ _) (Zab _ _))⟩
 rw [<- hwz];clear hwz;have hwn:w.heap.size+2<=wz.heap.size:=by have:=RB.o.lt;omega
 have HR:Hd (Rz (fun k=>K k\/(w.heap.size+1<=k/\k < w.heap.size+2)) lo wz w.heap.size b m S U):=HC.o.rz HB.o FB.o Zl_ (fun k hk=>hk.imp (fun h=>h) (fun h=>⟨by omega,by omega,by omega⟩));have HKP:Hd (Zag K w wz):=Zag.below HB.o HKw.o;clear FB HB;have HV:=Zaa hv;have HOK:=Zaa hok;have HZ1:=Zaa hz1;have HZ3:=Zaa hz3;clear hv hok hz1 hz3;go_wp2
 go_loopw [6] (fun iv wr=>∃ (i:Nat) (b':Nat->Option Addr) (m':Nat->Nat) (S':Nat->Nat->Prop),iv=.int .i64 (i:Int)/\i<=U.sf.sl.length/\Rz (fun k=>K k\/(w.heap.size+1<=k/\k < w.heap.size+2)) lo wr w.heap.size b' m' S' (ZbW U i)/\Zag K w wr/\w.heap.size+2<=wr.heap.size/\Box wr (w.heap.size+1) zR) (fun iv _=>U.sf.sl.length - (intOf iv).toNat)
 case atStart=>exact⟨0,b,m,S,rfl,Nat.zero_le _,HR.o,HKP.o,hwn,RB.o⟩
 case round=>
  obtain⟨i,b5,m5,S5,rfl,hi,hr,hkp,hsz,hrb⟩:=hrel;clear HR HKP RB;have HR:=Zaa hr;have HKP:=Zaa hkp;have RB:=Zaa hrb;clear hr hkp hrb;obtain⟨hak,kn5,A5,hN⟩:=ZbK HOK.o i (by omega);have HAK:=Zaa hak;obtain⟨V,hV⟩:∃ V,V=ZbW U i:=⟨_,rfl⟩
  have HVE:Hd (V=ZbW U i):=hV;rw [<- hV] at HR hN HAK hak;have vsf:V.sf=U.sf:=by rw [hN]
  have vba:V.ba=U.ba:=by rw [hN]
  have vdl:V.dk.sl=U.dk.sl:=by rw [hN]
  have x5:wr.cell? ⟨w.heap.size,5,none⟩=some (.slice (b5 0) U.sf.sl.length (m5 0)):=by rw [HR.o.box.cell 5,<- vsf];rfl
  have HVS:=Zaa vsf;have HVD:=Zaa vdl;have HVB:=Zaa vba;clear hN hV hak vsf vdl vba
  by_cases hlt:i < U.sf.sl.length
  . obtain⟨sq,hsq⟩:∃ x,x=U.sf.sl[i]:=⟨_,rfl⟩
    have ho0:=HR.o.cp.o0;rw [HVS.o] at ho0
    rcases ho0 with ⟨-,hnil⟩ | ⟨g1,hSg1,g1',cap1,hvv,hfr1⟩
    . rw [hnil] at hlt;simp at hlt
    injection hvv with hv1 hv2 hv3
    rw [hv1] at x5;have z0:wr.cell? ⟨g1',i*2,none⟩=some (.int .i64 sq.ba):=by rw [hsq];exact hfr1.get ZaC hlt (t:=0) (by omega) rfl
    have x13:wr.cell? ⟨w.heap.size,13,none⟩=some (.int .i64 V.ba):=HR.o.box.cell 13;have j0:(0:Int)<=(i:Int):=by omega
    have j1:(i:Int) < (U.sf.sl.length:Int):=by omega
    have HNX:Hd (ZbW U (i+1)=if sq.ba=V.ba then ZcR V ((i:Int)+1) V.nu else V):=by
     unfold Hd;rw [ZcG,<- HVE.o];unfold ack1;rw [List.getElem?_eq_getElem hlt,<- hsq]
    clear hfr1 hv1 hv2 hv3 hsq;have d1:decide ((i:Int) < (U.sf.sl.length:Int))=true:=decide_eq_true j1
    go_upto_region 4 with fail
    by_cases q1:sq.ba=V.ba
    case neg=>
     go_quiet (fail)
     obtain⟨w3,hw3⟩:∃ w3,w3=wr.drewN nq:=⟨_,rfl⟩
     have hb3:Below wr.heap.size wr w3:=by rw [hw3];exact below_drewN Zb_ _
     rw [<- hw3];clear hw3 x5 z0 x13 d1;go_wp2;go_roundw
     . exact⟨i+1,b5,m5,S5,by go_num,by omega,by rw [HNX.o,if_neg q1];exact HR.o.on hb3,HKP.o.trans (Zag.below hb3 (fun k hk=>by have:=HKw.o k hk;omega)),by have:=hb3.size;omega,RB.o.on hb3⟩
     . simp [intOf];omega
    case pos=>
     have HQ1:=Zaa q1
     go_quiet (fail)
     obtain⟨w3,hw3⟩:∃ w3,w3=wr.drewN nq:=⟨_,rfl⟩
     have hb3:Below wr.heap.size wr w3:=by rw [hw3];exact below_drewN Zb_ _
     rw [<- hw3];clear hw3 x5 z0 x13 d1 q1;have hs3:=hb3.size;replace HR:=Zaa (HR.o.on hb3);replace RB:=Zaa (RB.o.on hb3);replace HKP:Hd (Zag K w w3):=HKP.o.trans (Zag.below hb3 (fun k hk=>by have:=HKw.o k hk;omega));have x0:w3.cell? ⟨w.heap.size,0,none⟩=some (.int .i64 V.nu):=HR.o.box.cell 0;have wi:IntKind.wrap .i64 ((i:Int)+1)=(i:Int)+1:=by rw [IntKind.wrap_i64];omega
     have hvl:V.dk.sl.length<=1048576:=by rw [HVD.o];omega
     have hva:V.ac.length<=100000:=Nat.le_trans HAK.o.al (by omega);have HVI:Hd (∀ j (h:j < V.ac.length),1<=V.ac[j].ix/\V.ac[j].ix<=1000):=fun j hj=>⟨(HAK.o.ai _ (List.getElem_mem hj)).1,(HAK.o.ai _ (List.getElem_mem hj)).2.1⟩
     have HVF:Hd (∀ j (h:j < V.ac.length),V.ac[j].fr.length<=100000):=fun j hj=>Nat.le_trans (HAK.o.ai _ (List.getElem_mem hj)).2.2.1 (by omega)
     clear hb3;obtain⟨b8,m8,S8,HRx⟩:∃ b' m' S',Hd (Rz (fun k=>K k\/(w.heap.size+1<=k/\k < w.heap.size+2)) lo w3 w.heap.size b' m' S' (V)):=⟨_,_,_,HR⟩
     clear HR;have HRA:Hd (World.rangeAt w3 w.heap.size 0 (rrF (V) b8 m8)):=HRx.o.box.range rfl;have HSy:Hd ((prog.info? 61).map (·.size)=some (rrF (V) b8 m8).length):=by unfold Hd;exact ZaA
     go_wp2_with (first
      | (with_reducible refine ldR (.tmp 2) w.heap.size 0 (rrF (V) b8 m8) HRA.o HSy.o ?_))
     clear HRA HSy;refine (Zi8 (fun k=>(fun k=>K k\/(w.heap.size+1<=k/\k < w.heap.size+2)) k\/k=w.heap.size) lo _ V b8 m8 S8 ((i:Int)+1) V.nu HRx.o.czg (by omega) (by omega) HAK.o.k0 HAK.o.k1 HVI.o hva HVF.o hvl).mono ?_;rintro e w4a ⟨b7,m7,S7,rfl,hk,hc⟩;have HKc:=Zaa hk;have HCc:=Zaa hc;have HBX:Hd (Box w4a w.heap.size (rrF (V) b8 m8).toArray):=HRx.o.box.kept hk (Or.inr rfl);replace RB:=Zaa (RB.o.kept hk (Or.inl (Or.inr (by omega))));replace HKP:Hd (Zag K w w4a):=HKP.o.trans (hk.less fun k h=>Or.inl (Or.inl h));have hsw4a:w.heap.size+2<=w4a.heap.size:=Nat.le_trans (by omega) hk.size;have HKne:Hd (∀ k,(fun k=>K k\/(w.heap.size+1<=k/\k < w.heap.size+2)) k->k≠w.heap.size):=fun k h=>(HRx.o.prot k h).2.1
     clear hk hc HRx;have HTH:Hd (World.there w4a w.heap.size 0 (rrF (ZcR V ((i:Int)+1) V.nu) b7 m7).toArray.size):=HBX.o.there rfl;have HON:Hd ((rrF (ZcR V ((i:Int)+1) V.nu) b7 m7).toArray.all (·.oneCell')=true):=Zb5 _ _ _;go_wp2_with (with_reducible refine stR (.tmp 2) (.tmp 32) w.heap.size 0 (rrF (ZcR V ((i:Int)+1) V.nu) b7 m7).toArray HTH.o (szN (Zb4 _ _ _)) HON.o ?_;refine Hd.o ?_);generalize hW9:World.setCells _ _ _ _=w4;obtain⟨hr,ht⟩:=HCc.o.put HBX.o rfl HKne.o hW9.symm;have HR:=Zaa hr;replace RB:=Zaa (RB.o.tch2 ht (Or.inr (by omega)));replace HKP:Hd (Zag K w w4):=HKP.o.trans (Zag.box ht (fun k h=>⟨by have:=HKw.o k h;omega,by have:=HKw.o k h;omega⟩));have hsw4:w.heap.size+2<=w4.heap.size:=Nat.le_trans hsw4a ht.size;clear hr ht hW9 HBX HKc HCc HTH HON HKne;refine Zaa ?_;clear x0 wi;go_wp2;go_roundw
     . exact⟨i+1,_,_,_,by go_num,by omega,by rw [HNX.o,if_pos HQ1.o];exact HR.o,HKP.o,hsw4,RB.o⟩
     . simp [intOf];omega
  . have hii:i=U.sf.sl.length:=by omega
    have dn:decide ((i:Int) < (U.sf.sl.length:Int))=false:=by simp;omega
    have HXE:Hd (V=ZbW U U.sf.sl.length):=by unfold Hd;rw [HVE.o,hii]
    obtain⟨-,kn6,A6,hN⟩:=ZbK HOK.o i (by omega);rw [<- HVE.o] at hN;have vwi:V.wi=U.wi:=by rw [hN]
    have vof:V.of=U.of:=by rw [hN]
    have HK6:Hd (0<=V.dk.kn/\V.dk.kn<=1000):=⟨HAK.o.k0,HAK.o.k1⟩;have HVW:=Zaa vwi;have HVO:=Zaa vof;have hdv:V.dk.sl.length<=120:=by rw [HVD.o];exact hdl
    have hwv:V.wi.length<=1000:=by rw [vwi];exact hwl
    clear hN vwi vof hii;go_wp2;clear x5 dn;have HLE:Hd (leadT U=ZeQ V V.wi.length):=by unfold Hd leadT;rw [<- HXE.o]
    clear HXE HVE HAK hlt hi
    go_loopw [7] (fun iv wr=>∃ (i:Nat) (b':Nat->Option Addr) (m':Nat->Nat) (S':Nat->Nat->Prop),iv=.int .i64 (i:Int)/\i<=V.wi.length/\Rz (fun k=>K k\/(w.heap.size+1<=k/\k < w.heap.size+2)) lo wr w.heap.size b' m' S' (ZeQ V i)/\Zag K w wr/\w.heap.size+2<=wr.heap.size/\Box wr (w.heap.size+1) zR) (fun iv _=>V.wi.length - (intOf iv).toNat)
    case atStart=>exact⟨0,b5,m5,S5,rfl,Nat.zero_le _,HR.o,HKP.o,hsz,RB.o⟩
    case round=>
     rename_i wr0 _;clear HR HKP RB hsz;obtain⟨i,b5,m5,S5,rfl,hi,hr,hkp,hsz,hrb⟩:=hrel;have HR:=Zaa hr;have HKP:=Zaa hkp;have RB:=Zaa hrb;clear hr hkp hrb;obtain⟨Tn,hN,hTl,hTm⟩:=Zcb hdv i hi;obtain⟨N1,hN1⟩:∃ N1,N1=ZeQ V i:=⟨_,rfl⟩
     have HN1:Hd (N1=ZeQ V i):=hN1;rw [<- hN1] at HR hN;have nwi:N1.wi=V.wi:=by rw [hN]
     have nba:N1.ba=V.ba:=by rw [hN]
     have nsl:N1.dk.sl=V.dk.sl ++ Tn:=by rw [hN]
     have hnl:N1.dk.sl.length<=120:=by rw [nsl];exact hTl
     have HNZ:Hd (∀ i (h:i < N1.dk.sl.length),ZaJ N1.dk.sl[i]):=fun i h=>by
      have hm:=List.getElem_mem h;have hm2:N1.dk.sl[i] ∈ V.dk.sl ++ Tn:=by rw [<- nsl];exact hm
      rcases List.mem_append.1 hm2 with q | q
      . rw [HVD.o] at q;exact HZ1.o _ q
      . exact⟨HZ3.o _ (by rw [<- HVW.o];exact (hTm _ q).2)⟩
     have x10:wr.cell? ⟨w.heap.size,10,none⟩=some (.slice (b5 3) V.wi.length (m5 3)):=by rw [HR.o.box.cell 10,<- nwi];rfl
     have HNW:=Zaa nwi;have HNB:=Zaa nba;clear hN hN1 nwi nsl hTl hTm nba
     by_cases hlt:i < V.wi.length
     . obtain⟨tx,htx⟩:∃ x,x=V.wi[i]:=⟨_,rfl⟩
       have ho3:=HR.o.cp.o3;rw [HNW.o] at ho3
       rcases ho3 with ⟨-,hnil⟩ | ⟨g1,hSg1,g1',cap1,hvv,hfr1⟩
       . rw [hnil] at hlt;simp at hlt
       injection hvv with hv1 hv2 hv3
       rw [hv1] at x10
       have z0:wr.cell? ⟨g1',i,none⟩=some (.string tx):=by
        have:=hfr1.get ZbN hlt (t:=0) (by omega) (v:=.string V.wi[i]) rfl;rw [htx]
        simpa using this
       have x8:wr.cell? ⟨w.heap.size,8,none⟩=some (.slice (b5 1) N1.dk.sl.length (m5 1)):=HR.o.box.cell 8;have j0:(0:Int)<=(i:Int):=by omega
       have j1:(i:Int) < (V.wi.length:Int):=by omega
       have d1:decide ((i:Int) < (V.wi.length:Int))=true:=decide_eq_true j1
       have HNX:Hd (ZeQ V (i+1)=if (!Zdd N1.dk.sl tx&&decide (N1.dk.sl.length < 120))=true then ZdA N1 (N1.dk.sl.length+1) ⟨N1.ba,tx⟩ else N1):=by
        unfold Hd;rw [Zer V hlt,<- HN1.o,<- htx]
        rfl
       have HDT:Hd (Zat 0 wr (.slice (b5 1) N1.dk.sl.length (m5 1)) N1.dk.sl):=(HR.o.cp.o1.rss HNZ.o).at (fun _ _=>Nat.zero_le _);clear hfr1 hv1 hv2 hv3 htx
       go_upto_region 9 with fail
       have y8:∀ X:In (Up wr),X.w.cell? ⟨w.heap.size,8,none⟩=some (.slice (b5 1) N1.dk.sl.length (m5 1)):=fun X=>Up.cell X x8
       have y10:∀ X:In (Up wr),X.w.cell? ⟨w.heap.size,10,none⟩=some (.slice (some ⟨g1',0,none⟩) V.wi.length (m5 3)):=fun X=>Up.cell X x10
       have yt:∀ X:In (Up wr),X.w.cell? ⟨g1',i,none⟩=some (.string tx):=fun X=>Up.cell X z0
       have xn:Nonempty (In (Up wr)):=⟨⟨wr,Below.refl _ _⟩⟩;have xs:=fun (X:In (Up wr))=>Zbc X
       have HXT:Hd (wr.cell? ⟨w.heap.size,8,none⟩=some (.slice (b5 1) N1.dk.sl.length (m5 1))/\wr.cell? ⟨w.heap.size,10,none⟩=some (.slice (some ⟨g1',0,none⟩) V.wi.length (m5 3))/\wr.cell? ⟨g1',i,none⟩=some (.string tx)):=⟨x8,x10,z0⟩;clear x8 x10 z0 d1;refine Zaf (Up wr) (by kernel_rfl) (by kernel_rfl) (Zb_.drew) ?_
       cases q3:Zdd N1.dk.sl tx with
       | true=>
        have HE:Hd (ZeQ V (i+1)=N1):=by unfold Hd;rw [HNX.o,q3];rfl
        repeat (go_big_quiet_step (first|(go_at_call 56;rename_i X;exact (Zdc 0 _ N1.dk.sl tx _ (HDT.o.below X.h)).mono fun _ _ h=>⟨h.1.trans (Zij q3),Up.same X h.2⟩)))
        refine wpQuiet_nil ?_;intro w3 hw;obtain⟨X,hX⟩:=hw;have hb3:Below wr.heap.size wr w3:=by rw [hX];exact X.h
        clear hX X y8 y10 yt xn xs;go_wp2;go_roundw
        . exact⟨i+1,b5,m5,S5,by go_num,by omega,by rw [HE.o];exact HR.o.on hb3,HKP.o.trans (Zag.below hb3 (fun k hk=>by have:=HKw.o k hk;omega)),by have:=hb3.size;omega,RB.o.on hb3⟩
        . simp [intOf];omega
       | false=>
       by_cases q4:N1.dk.sl.length < 120
       case neg=>
        have HE:Hd (ZeQ V (i+1)=N1):=by unfold Hd;rw [HNX.o,q3,decide_eq_false q4];rfl
        have d4:decide ((N1.dk.sl.length:Int) < 120)=false:=by simp;omega
        repeat (go_big_quiet_step (first|(go_at_call 56;rename_i X;exact (Zdc 0 _ N1.dk.sl tx _ (HDT.o.below X.h)).mono fun _ _ h=>⟨h.1.trans (Zij q3),Up.same X h.2⟩)))
        refine wpQuiet_nil ?_;intro w3 hw;obtain⟨X,hX⟩:=hw;have hb3:Below wr.heap.size wr w3:=by rw [hX];exact X.h
        clear hX X y8 y10 yt xn xs;go_wp2;go_roundw
        . exact⟨i+1,b5,m5,S5,by go_num,by omega,by rw [HE.o];exact HR.o.on hb3,HKP.o.trans (Zag.below hb3 (fun k hk=>by have:=HKw.o k hk;omega)),by have:=hb3.size;omega,RB.o.on hb3⟩
        . simp [intOf];omega
       case pos=>
        have HE:Hd (ZeQ V (i+1)=ZdA N1 (N1.dk.sl.length+1) ⟨N1.ba,tx⟩):=by unfold Hd;rw [HNX.o,q3,decide_eq_true q4];rfl
        have d4:decide ((N1.dk.sl.length:Int) < 120)=true:=by simp;omega
        repeat (go_big_quiet_step (first|(go_at_call 56;rename_i X;exact (Zdc 0 _ N1.dk.sl tx _ (HDT.o.below X.h)).mono fun _ _ h=>⟨h.1.trans (Zij q3),Up.same X h.2⟩)))
        refine wpQuiet_nil ?_;intro w3 hw;obtain⟨X,hX⟩:=hw;have hb3:Below wr.heap.size wr w3:=by rw [hX];exact X.h
        clear hX X y8 y10 yt xn xs d4;have hs3:=hb3.size;replace HR:=Zaa (HR.o.on hb3);replace RB:=Zaa (RB.o.on hb3);replace HKP:Hd (Zag K w w3):=HKP.o.trans (Zag.below hb3 (fun k hk=>by have:=HKw.o k hk;omega));have hg1:g1' < wr.heap.size:=World.block_lt_of_cell? wr _ HXT.o.2.2
        have x8:w3.cell? ⟨w.heap.size,8,none⟩=some (.slice (b5 1) N1.dk.sl.length (m5 1)):=HR.o.box.cell 8;have x10:w3.cell? ⟨w.heap.size,10,none⟩=some (.slice (some ⟨g1',0,none⟩) V.wi.length (m5 3)):=(hb3.cell (p:=⟨w.heap.size,10,none⟩) (by simp only [];omega)).trans HXT.o.2.1;have x13:w3.cell? ⟨w.heap.size,13,none⟩=some (.int .i64 N1.ba):=HR.o.box.cell 13;have z0:w3.cell? ⟨g1',i,none⟩=some (.string tx):=(hb3.cell (p:=⟨g1',i,none⟩) hg1).trans HXT.o.2.2;have wl:IntKind.wrap .i64 ((N1.dk.sl.length:Int)+1)=((N1.dk.sl.length+1:Nat):Int):=by rw [IntKind.wrap_i64];omega
        have HRA:Hd (World.rangeAt w3 w.heap.size 0 (rrF N1 b5 m5)):=HR.o.box.range rfl;have HSy:Hd ((prog.info? 61).map (·.size)=some (rrF N1 b5 m5).length):=by unfold Hd;exact ZaA
        have hln:N1.dk.sl.length<=1000:=by omega
        clear hb3;go_wp2
        go_upto_region 10 with fail
        refine Code.wp_mono NoPanic.imp ?_;refine Zan (S:=fun W=>W.rangeAt w.heap.size 0 (rrF N1 b5 m5)/\W.cell? ⟨w.heap.size,8,none⟩=some (.slice (b5 1) N1.dk.sl.length (m5 1))/\W.cell? ⟨w.heap.size,10,none⟩=some (.slice (some ⟨g1',0,none⟩) V.wi.length (m5 3))/\W.cell? ⟨w.heap.size,13,none⟩=some (.int .i64 N1.ba)/\W.cell? ⟨g1',i,none⟩=some (.string tx)) [14,15] (by kernel_rfl) ⟨HRA.o,x8,x10,x13,z0⟩ (fun hHeld=>?_);refine tB 0 _ [14,15] rfl hHeld ?_ (hy:=yieldsIf_load_mid (by rfl) 61 (.tmp 2) rfl w.heap.size 0 rfl (rrF N1 b5 m5) _ (fun _ h=>h.1) underlying61 rfl HSy.o)
        try simp only [Act.put,sLs]
        refine tB 1 (.pointer (some ⟨w.heap.size,6,none⟩)) [2,3,4,5,14,15] rfl hHeld ?_
        try simp only [Act.put,sLs]
        refine tB 2 (.pointer (some ⟨w.heap.size,8,none⟩)) [3,4,5,14,15] rfl hHeld ?_
        try simp only [Act.put,sLs]
        refine tB 3 (.slice (b5 1) N1.dk.sl.length (m5 1)) [4,5,14,15] rfl hHeld ?_
        try simp only [Act.put,sLs]
        refine tB 4 (.int .i64 (N1.dk.sl.length:Int)) [5,14,15] rfl hHeld ?_
        try simp only [Act.put,sLs]
        refine tB 5 (.int .i64 ((N1.dk.sl.length+1:Nat):Int)) [14,15] rfl hHeld ?_
        try simp only [Act.put,sLs]
        refine tB 6 (.pointer (some ⟨w.heap.size,13,none⟩)) [7,13,14,15] rfl hHeld ?_
        try simp only [Act.put,sLs]
        refine tB 7 (.int .i64 N1.ba) [13,14,15] rfl hHeld ?_
        try simp only [Act.put,sLs]
        refine tB 8 (.pointer (some ⟨w.heap.size,10,none⟩)) [9,11,12,13,14,15] rfl hHeld ?_
        try simp only [Act.put,sLs]
        refine tB 9 (.slice (some ⟨g1',0,none⟩) V.wi.length (m5 3)) [11,12,13,14,15] rfl hHeld ?_
        try simp only [Act.put,sLs]
        refine tB 10 (.int .i64 (i:Int)) [11,12,13,14,15] rfl hHeld ?_
        try simp only [Act.put,sLs]
        refine tB 11 (.pointer (some ⟨g1',i,none⟩)) [12,13,14,15] rfl hHeld ?_
        try simp only [Act.put,sLs]
        refine tB 12 (.string tx) [13,14,15] rfl hHeld ?_
        try simp only [Act.put,sLs]
        refine tB 13 (.agg #[.int .i64 N1.ba,.string tx]) [14,15] rfl hHeld ?_
        try simp only [Act.put,sLs]
        refine oB 14 rfl (fun KC hK=>?_)
        go_simp
        refine (ZgR (fun k=>(fun k=>K k\/(w.heap.size+1<=k/\k < w.heap.size+2)) k\/k=w.heap.size) lo _ N1 b5 m5 S5 (N1.dk.sl.length+1) ⟨N1.ba,tx⟩ (HR.o.on (Zb_.drew)).czg (by omega) (by omega) hln).mono ?_;rintro e wc ⟨b7,m7,S7,rfl,hk,hc⟩;have HCc:=Zaa hc;have hk0:Zag (fun k=>(fun k=>K k\/(w.heap.size+1<=k/\k < w.heap.size+2)) k\/k=w.heap.size) w3 wc:=(Zag.below (Zb_.drew) (fun k h=>by rcases h with h | h;exact (HR.o.prot k h).1;rw [h];exact HR.o.box.lt)).trans hk;have HBX:Hd (Box wc w.heap.size (rrF N1 b5 m5).toArray):=HR.o.box.kept hk0 (Or.inr rfl);replace RB:=Zaa (RB.o.kept hk0 (Or.inl (Or.inr (by omega))));replace HKP:Hd (Zag K w wc):=HKP.o.trans (hk0.less fun k h=>Or.inl (Or.inl h));have hswc:w.heap.size+2<=wc.heap.size:=Nat.le_trans (by omega) hk0.size
        have HKne:Hd (∀ k,(fun k=>K k\/(w.heap.size+1<=k/\k < w.heap.size+2)) k->k≠w.heap.size):=fun k h=>(HR.o.prot k h).2.1
        clear hk hc hk0 HR hHeld z0 x8 x10 x13 HRA;have HTH:Hd (World.there wc w.heap.size 0 (rrF (ZdA N1 (N1.dk.sl.length+1) ⟨N1.ba,tx⟩) b7 m7).toArray.size):=HBX.o.there rfl;have HON:Hd ((rrF (ZdA N1 (N1.dk.sl.length+1) ⟨N1.ba,tx⟩) b7 m7).toArray.all (·.oneCell')=true):=Zb5 _ _ _;refine hK.out _ _ (fun h=>absurd (by decide) h) (fun _=>?_);clear hK
        try simp only [Act.put,sLs]
        refine oB 15 rfl (fun KC hK=>?_);refine Zcf rfl 61 (.tmp 2) (.tmp 71) rfl w.heap.size 0 (rrF (ZdA N1 (N1.dk.sl.length+1) ⟨N1.ba,tx⟩) b7 m7).toArray rfl rfl HTH.o (szN (Zb4 _ _ _)) HON.o ?_;refine hK.out _ _ (fun h=>absurd (by decide) h) (fun _=>?_);clear hK
        try simp only [Act.put,sLs]
        refine Zak (by kernel_rfl) ?_ _;refine NoPanic.normal ?_;generalize hW9:World.setCells _ _ _ _=wd;obtain⟨hr,ht⟩:=HCc.o.put HBX.o rfl HKne.o hW9.symm;have HRn:=Zaa hr;have HTT:=Zaa ht;clear hr ht hW9;go_wp2;go_roundw
        . 
         have ht:=HTT.o;exact⟨i+1,b7,m7,S7,by go_num,by omega,by rw [HE.o];exact HRn.o,HKP.o.trans (Zag.box ht (fun k h=>⟨by have:=HKw.o k h;omega,by have:=HKw.o k h;omega⟩)),Nat.le_trans hswc ht.size,RB.o.tch2 ht (Or.inr (by omega))⟩
        . simp [intOf];omega
     . have hii:i=V.wi.length:=by omega
       have dn:decide ((i:Int) < (V.wi.length:Int))=false:=by simp;omega
       have HYE:Hd (leadT U=N1):=by unfold Hd;rw [HLE.o,HN1.o,hii]
       obtain⟨Tn,hN,-,-⟩:=Zcb hdv i hi;rw [<- HN1.o] at hN;have hk0:0<=N1.dk.kn:=by rw [hN];exact HK6.o.1
       have hk1:N1.dk.kn<=1000:=by rw [hN];exact HK6.o.2
       have ho0:0<=N1.of:=by rw [hN];show 0<=V.of;rw [HVO.o];exact hof
       have ho5:N1.of<=5:=by rw [hN];show V.of<=5;rw [HVO.o];exact hof5
       have x7:wr.cell? ⟨w.heap.size,7,none⟩=some (.int .i64 N1.dk.kn):=HR.o.box.cell 7;have x13:wr.cell? ⟨w.heap.size,13,none⟩=some (.int .i64 N1.ba):=HR.o.box.cell 13;have HRA:Hd (World.rangeAt wr w.heap.size 0 (rrF N1 b5 m5)):=HR.o.box.range rfl;have HSy:Hd ((prog.info? 61).map (·.size)=some (rrF N1 b5 m5).length):=by unfold Hd;exact ZaA
       have HNR:=Zaa (HV.o.kept HKP.o hKx);clear hN hii HLE HN1;obtain⟨av,cv,rfl⟩:=HNR.o.form;go_wp2_with (with_reducible refine ldR (.tmp 2) w.heap.size 0 (rrF N1 b5 m5) HRA.o HSy.o ?_);clear x7 x13 HRA dn x10 hi hlt;refine (ZcZ _ N1 b5 m5 (ZcT N1) lx ux _ L rfl ho0 ho5 (by omega) (by omega) HNR.o).mono ?_;rintro e w3 ⟨v3,rfl,ht,hrow⟩
       obtain⟨lx3,ux3,hq3,hrw3⟩:∃ lx3 ux3,((lx3=lx/\ux3=ux)\/(lx3=wr.heap.size/\ux3=w3.heap.size))/\Zay mxL 8 w3 lx3 ux3 v3 (L ++ (Zax N1 (ZcT N1)).map mx0):=by
        rcases hrow with h | h
        . exact⟨lx,ux,Or.inl ⟨rfl,rfl⟩,h⟩
        . exact⟨_,_,Or.inr ⟨rfl,rfl⟩,h⟩
       have hs3:=ht.size
       have HR0:Hd (Rz (fun k=>(fun k=>K k\/(w.heap.size+1<=k/\k < w.heap.size+2)) k\/(lx<=k/\k < ux)) lo wr w.heap.size b5 m5 S5 N1):=HR.o.shield Zb_ (fun k hk=>Or.inl (by
        rcases hk with h | ⟨h1,h2⟩
        . exact h
        . exact Or.inl (hKx k h1 h2)))
       have HR3:=Zaa (HR0.o.row ht hq3);have HRW:=Zaa hrw3;have HQ3:=Zaa hq3;have HK3:Hd (Zag (fun k=>K k/\¬ (lx<=k/\k < ux)) w w3):=(HKP.o.less fun k hk=>hk.1).trans (Zag.touch ht (fun k hk=>⟨by have:=HKw.o k hk.1;omega,by have:=hk.2;omega⟩));replace RB:=Zaa (RB.o.tch2 ht (Or.inr (by omega)));have hux3:ux3<=w3.heap.size:=by omega
       have hq4:(lx3=lx/\ux3=ux)\/w.heap.size+2<=lx3:=by omega
       clear ht hrow hrw3 hq3 HR HR0 HKP HNR;obtain⟨k0,hk0e⟩:∃ k0:Nat,(k0:Int)=N1.dk.kn:=⟨N1.dk.kn.toNat,by omega⟩
       have HKE:Hd (N1.dk.kn.toNat=k0):=by unfold Hd;omega
       have x7:w3.cell? ⟨w.heap.size,7,none⟩=some (.int .i64 (k0:Int)):=by rw [hk0e];exact HR3.o.box.cell 7
       have hk0b:k0<=1000:=by omega
       clear hk0e;go_wp2;clear x7
       go_loopw [1,8] (fun ov iv wr=>∃ (j n lx5 ux5:Nat),iv=.int .i64 (n:Int)/\n=k0+j/\j<=N1.dk.sl.length - k0/\Rz (fun k=>(fun k=>K k\/(w.heap.size+1<=k/\k < w.heap.size+2)) k\/(lx5<=k/\k < ux5)) lo wr w.heap.size b5 m5 S5 N1/\Zay mxL 8 wr lx5 ux5 ov (L ++ (Zax N1 (ZcT N1) ++ Zb6 N1 j).map mx0)/\Zag (fun k=>K k/\¬ (lx<=k/\k < ux)) w wr/\w.heap.size+2<=wr.heap.size/\ux5<=wr.heap.size/\((lx5=lx/\ux5=ux)\/w.heap.size+2<=lx5)/\Box wr (w.heap.size+1) zR) (fun _ iv _=>N1.dk.sl.length - (intOf iv).toNat)
       case atStart=>exact⟨0,k0,lx3,ux3,rfl,rfl,Nat.zero_le _,HR3.o,by simpa [Zb6] using HRW.o,HK3.o,by omega,hux3,hq4,RB.o⟩
       case round=>
        clear HR3 HRW HK3 RB HQ3;obtain⟨j,n,lx5,ux5,rfl,hn,hj,hr,hrow,hk3,hsz5,hux5,hq5,hrb⟩:=hrel;have HR:=Zaa hr;have HRW:=Zaa hrow;have HK3:=Zaa hk3;have RB:=Zaa hrb;obtain⟨a5,c5,rfl⟩:=hrow.form;clear hr hrow hk3 hrb;have x8:wr.cell? ⟨w.heap.size,8,none⟩=some (.slice (b5 1) N1.dk.sl.length (m5 1)):=HR.o.box.cell 8
        have hll:(L ++ (Zax N1 (ZcT N1) ++ Zb6 N1 j).map mx0).length<=10000:=by
         rw [List.length_append,List.length_map,List.length_append];have h1:=ZcM (M:=ZcT N1) ho5;have h2:=Zeq ho5 j
         omega
        obtain⟨Lj,hLj⟩:∃ Lj,Lj=L ++ (Zax N1 (ZcT N1) ++ Zb6 N1 j).map mx0:=⟨_,rfl⟩
        rw [<- hLj] at HRW hll;rw [<- hLj];have HLJ:=Zaa hLj;clear hLj
        by_cases hlt:n < N1.dk.sl.length
        . obtain⟨sj,hsj⟩:∃ x,x=N1.dk.sl[n]:=⟨_,rfl⟩
          have ho1:=HR.o.cp.o1
          rcases ho1 with ⟨-,hnil⟩ | ⟨g1,hSg1,g1',cap1,hvv,hfr1⟩
          . rw [hnil] at hlt;simp at hlt
          injection hvv with hv1 hv2 hv3
          rw [hv1] at x8;have z1:wr.cell? ⟨g1',n*2+1,none⟩=some (.string sj.tx):=by rw [hsj];exact hfr1.get ZaC hlt (t:=1) (by omega) rfl
          have x13:wr.cell? ⟨w.heap.size,13,none⟩=some (.int .i64 N1.ba):=HR.o.box.cell 13;have j0:(0:Int)<=(n:Int):=by omega
          have j1:(n:Int) < (N1.dk.sl.length:Int):=by omega
          have d1:decide ((n:Int) < (N1.dk.sl.length:Int))=true:=decide_eq_true j1;have wn:IntKind.wrap .i64 ((n:Int)+1)=(n:Int)+1:=by rw [IntKind.wrap_i64];omega
          obtain⟨Ma,hMa⟩:∃ Ma:Rm,Ma=⟨3,0,0,N1.ba,(n:Int)+1,0,sj.tx,[]⟩:=⟨_,rfl⟩
          have HNX:Hd (Zb6 N1 (j+1)=Zb6 N1 j ++ Zax N1 Ma):=by
           unfold Hd;rw [ZcO,HKE.o,<- hn,hMa];unfold Zcp;rw [List.getElem?_eq_getElem hlt,<- hsj]
          have HMA:=Zaa hMa;have HRA:Hd (World.rangeAt wr w.heap.size 0 (rrF N1 b5 m5)):=HR.o.box.range rfl;have HSy:Hd ((prog.info? 61).map (·.size)=some (rrF N1 b5 m5).length):=by unfold Hd;exact ZaA
          have HN:=Zaa hn;have hjl:j+1<=N1.dk.sl.length - k0:=by omega
          clear hfr1 hv1 hv2 hv3 hsj hMa hn
          go_upto_region 15 with fail
          refine Code.wp_mono NoPanic.imp ?_;refine Zan (S:=fun W=>W.rangeAt w.heap.size 0 (rrF N1 b5 m5)/\W.cell? ⟨w.heap.size,8,none⟩=some (.slice (some ⟨g1',0,none⟩) N1.dk.sl.length (m5 1))/\W.cell? ⟨w.heap.size,13,none⟩=some (.int .i64 N1.ba)/\W.cell? ⟨g1',n*2+1,none⟩=some (.string sj.tx)) [14,15] (by kernel_rfl) ⟨HRA.o,x8,x13,z1⟩ (fun hHeld=>?_);refine tB 0 _ [14,15] rfl hHeld ?_ (hy:=yieldsIf_load_mid (by rfl) 61 (.tmp 2) rfl w.heap.size 0 rfl (rrF N1 b5 m5) _ (fun _ h=>h.1) underlying61 rfl HSy.o)
          try simp only [Act.put,sLs]
          refine tB 1 (.slice a5 Lj.length c5) [14,15] rfl hHeld ?_
          try simp only [Act.put,sLs]
          refine tB 2 (.pointer (some ⟨w.heap.size,13,none⟩)) [3,13,14,15] rfl hHeld ?_
          try simp only [Act.put,sLs]
          refine tB 3 (.int .i64 N1.ba) [13,14,15] rfl hHeld ?_
          try simp only [Act.put,sLs]
          refine tB 4 (.int .i64 (n:Int)) [5,13,14,15] rfl hHeld ?_
          try simp only [Act.put,sLs]
          refine tB 5 (.int .i64 ((n:Int)+1)) [13,14,15] rfl hHeld ?_
          try simp only [Act.put,sLs]
          refine tB 6 (.pointer (some ⟨w.heap.size,6,none⟩)) [7,8,10,11,12,13,14,15] rfl hHeld ?_
          try simp only [Act.put,sLs]
          refine tB 7 (.pointer (some ⟨w.heap.size,8,none⟩)) [8,10,11,12,13,14,15] rfl hHeld ?_
          try simp only [Act.put,sLs]
          refine tB 8 (.slice (some ⟨g1',0,none⟩) N1.dk.sl.length (m5 1)) [10,11,12,13,14,15] rfl hHeld ?_
          try simp only [Act.put,sLs]
          refine tB 9 (.int .i64 (n:Int)) [10,11,12,13,14,15] rfl hHeld ?_
          try simp only [Act.put,sLs]
          refine tB 10 (.pointer (some ⟨g1',n*2,none⟩)) [11,12,13,14,15] rfl hHeld ?_
          try simp only [Act.put,sLs]
          refine tB 11 (.pointer (some ⟨g1',n*2+1,none⟩)) [12,13,14,15] rfl hHeld ?_
          try simp only [Act.put,sLs]
          refine tB 12 (.string sj.tx) [13,14,15] rfl hHeld ?_
          try simp only [Act.put,sLs]
          refine tB 13 (.agg #[.int .i64 3,.int .i64 0,.int .i64 0,.int .i64 N1.ba,.int .i64 ((n:Int)+1),.int .i64 0,.string sj.tx,.slice none 0 0]) [14,15] rfl hHeld ?_
          try simp only [Act.put,sLs]
          refine oB 14 rfl (fun KC hK=>?_)
          go_simp
          have hcall:=ZcZ wr.drew N1 b5 m5 Ma lx5 ux5 (.slice a5 Lj.length c5) Lj (by rw [HMA.o]) ho0 ho5 (by omega) hux5 (HRW.o.below (Zb_.drew));rw [show (rmL Ma none 0).toArray=#[.int .i64 3,.int .i64 0,.int .i64 0,.int .i64 N1.ba,.int .i64 ((n:Int)+1),.int .i64 0,.string sj.tx,.slice none 0 0] by rw [HMA.o];rfl] at hcall;refine hcall.mono ?_;rintro e w3 ⟨v3,rfl,ht0,hrow⟩;have ht:Zad lx5 ux5 wr w3:=(Zad.below (Zb_.drew)).trans ht0
          obtain⟨lx3,ux3,hq3,hrw3⟩:∃ lx3 ux3,((lx3=lx5/\ux3=ux5)\/(lx3=wr.heap.size/\ux3=w3.heap.size))/\Zay mxL 8 w3 lx3 ux3 v3 (Lj ++ (Zax N1 Ma).map mx0):=by
           rcases hrow with h | h
           . exact⟨lx5,ux5,Or.inl ⟨rfl,rfl⟩,h⟩
           . exact⟨_,_,Or.inr ⟨rfl,rfl⟩,h⟩
          have hs3:=ht.size;have HR3:=Zaa (HR.o.row ht hq3)
          have HRW3:Hd (Zay mxL 8 w3 lx3 ux3 v3 (L ++ (Zax N1 (ZcT N1) ++ Zb6 N1 (j+1)).map mx0)):=by
           unfold Hd;have e:L ++ (Zax N1 (ZcT N1) ++ Zb6 N1 (j+1)).map mx0=Lj ++ (Zax N1 Ma).map mx0:=by rw [HLJ.o,HNX.o];simp
           rw [e];exact hrw3
          have HK4:Hd (Zag (fun k=>K k/\¬ (lx<=k/\k < ux)) w w3):=HK3.o.trans (Zag.touch ht (fun k hk=>⟨by have:=HKw.o k hk.1;omega,by have:=HKw.o k hk.1;have:=hk.2;omega⟩));have RB3:=Zaa (RB.o.tch2 ht (by omega));have hux3:ux3<=w3.heap.size:=by omega
          have hq4:(lx3=lx/\ux3=ux)\/w.heap.size+2<=lx3:=by omega
          obtain⟨a3,c3,rfl⟩:=hrw3.form;clear ht ht0 hrow hrw3 hq3 hHeld hcall x8 x13 z1 HRA;refine hK.out _ _ (fun h=>absurd (by decide) h) (fun _=>?_);clear hK
          try simp only [Act.put,sLs]
          refine oB 15 rfl (fun KC hK=>?_)
          go_simp
          refine hK.out _ _ (fun h=>absurd (by decide) h) (fun _=>?_);clear hK KC
          try simp only [Act.put,sLs]
          refine Zak (by kernel_rfl) ?_ _;refine NoPanic.normal ?_;go_wp2;go_roundw
          . 
           have hn:=HN.o;exact⟨j+1,n+1,lx3,ux3,by go_num,by omega,hjl,HR3.o,by have h:=HRW3.o;simp only [List.length_append,List.length_map] at h;exact h,HK4.o,by omega,hux3,hq4,RB3.o⟩
          . simp [intOf];omega
        . have hjj:j=N1.dk.sl.length - k0:=by omega
          have dn:decide ((n:Int) < (N1.dk.sl.length:Int))=false:=by simp;omega
          have HTE:Hd (L ++ (Zcj N1).map mx0=Lj):=by
           unfold Hd Zcj;rw [HLJ.o,HKE.o,<- hjj]
          obtain⟨yl,hyl⟩:∃ yl,yl=rrF N1 b5 m5:=⟨_,rfl⟩
          have hy18:yl.length=18:=by rw [hyl];rfl
          have HON:Hd (yl.toArray.all (·.oneCell')=true):=by unfold Hd;rw [hyl];exact Zcs ..
          have HBy:Hd (Box wr w.heap.size yl.toArray):=by unfold Hd;rw [hyl];exact HR.o.box
          have HYL:=Zaa hyl;clear hyl hjj;have HTH:Hd (World.there wr (w.heap.size+1) 0 yl.toArray.size):=by unfold Hd;rw [show yl.toArray.size=18 from hy18];exact RB.o.there rfl
          have HRA:=Zaa (HBy.o.range (l:=yl) rfl);have HSy:Hd ((prog.info? 61).map (·.size)=some yl.length):=by unfold Hd;rw [hy18];exact ZaA
          go_upto_region 16 with fail
          clear x8 dn
          go_wp2_with (first
           | (with_reducible refine ldR (.tmp 2) w.heap.size 0 yl HRA.o HSy.o ?_)
           | (with_reducible refine stR (.tmp 4) (.tmp 107) (w.heap.size+1) 0 yl.toArray HTH.o (szN hy18) HON.o ?_;refine Hd.o ?_))
          generalize hW9:World.setCells _ _ _ _=W9;have FR9:Hd (Box W9 (w.heap.size+1) yl.toArray):=by unfold Hd;rw [<- hW9];exact RB.o.full (by rw [show yl.toArray.size=18 from hy18];rfl)
          have TT:Hd (Zad (w.heap.size+1) ((w.heap.size+1)+1) wr W9):=by unfold Hd;rw [<- hW9];exact Zad.sets ⟨by omega,by omega⟩ _ _ _
          clear hW9;have HRn:=Zaa (HR.o.other (β:=(w.heap.size+1)) (Or.inl (Or.inr (by omega))) TT.o);have HKn:Hd (Zag (fun k=>K k/\¬ (lx<=k/\k < ux)) w W9):=HK3.o.trans (Zag.touch TT.o (fun k hk=>⟨by have:=HKw.o k hk.1;omega,by have:=HKw.o k hk.1;omega⟩));have HRWn:=Zaa (HRW.o.touch TT.o (by omega));have hs9:=TT.o.size;refine Zaa ?_;go_wp2;refine bodyPost_ret (v:=.tuple #[.agg yl.toArray,.slice a5 Lj.length c5]) (ZcD (p:=4) (q:=5) (ty:=61) results58 _ _ (w.heap.size+1) 0 yl _ rfl (FR9.o.range rfl) underlying61 rfl HSy.o) rfl ⟨b5,m5,S5,_,lx5,ux5,by rw [HYL.o,HYE.o],HKn.o,?_,?_,by omega,by omega⟩
          . rw [HYE.o]
            exact HRn.o.cz.less (fun k hk=>by
             rcases hk with h | h
             . exact Or.inl (Or.inl h.1)
             . exact Or.inr h)
          . rw [HYE.o,HTE.o]
            exact HRWn.o
end Go.Proofs.YtdeammfdkaomlaaGreat
