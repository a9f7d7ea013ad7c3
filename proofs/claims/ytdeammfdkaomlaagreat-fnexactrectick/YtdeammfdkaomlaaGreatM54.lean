import Derived.Test.YtdeammfdkaomlaaGreatM52
import Derived.Test.YtdeammfdkaomlaaGreatM53
set_option maxHeartbeats 16000000
set_option maxRecDepth 100000
open Go.Proofs.Tryz
namespace Go.Proofs.YtdeammfdkaomlaaGreat
section
open Go.RowKit Go.Deep
theorem Zla (n of:Int) (up:Bool):RrZ (nwU n of up):=by constructor <;> intro i h <;> exact absurd h (Nat.not_lt_zero _)
theorem Zkm (T:Nat->Prop) (n of:Int) (up:Bool) (lo:Nat) (w:World):Za8 T lo w.heap.size w (nwL n of up) (nwU n of up):=
 ⟨none,0,none,0,none,0,none,0,none,0,none,0,none,0,fun _ _=>False,rfl,CpS.own ⟨fun _ _ _ h=>h.elim,fun _ _ _ _ _ _ h=>h.elim,Or.inl ⟨rfl,rfl⟩,Or.inl ⟨rfl,rfl⟩,⟨[],Or.inl ⟨rfl,rfl⟩,rfl⟩,Or.inl ⟨rfl,rfl⟩,Or.inl ⟨rfl,rfl⟩,Or.inl ⟨rfl,rfl⟩,⟨[],Or.inl ⟨rfl,rfl⟩,rfl⟩⟩ (Zla _ _ _),fun _ _ _ h=>h.elim⟩
theorem Zgd {E:Nat->Prop}{w:World}{l u:Nat}{v:Value}{L:List MX}{c:Nat->Nat×Nat}{Xl:List Rm} (hr:Zay mxL 8 w l u v L) (hi:InE E w L c) (he:∀ k,E k->¬ (l<=k/\k < u)) (hL:L.map (·.1)=Xl) (hz:MsZ Xl):Za9 (fun k=>E k\/(l<=k/\k < u)) w v Xl:=by
 refine NGS.rms (L:=L) ?_ hL hz.z
 rcases hr with h | ⟨g,cap,h1,h2⟩
 . exact Or.inl h
 . have hg:l<=g/\g < u:=⟨h2.bs,h2.up⟩
   refine Or.inr ⟨g,c,Or.inr hg,⟨g,cap,h1,h2.own'⟩,⟨fun i hL=>?_,hi.one,hi.ap,hi.inn⟩⟩;obtain⟨a,b⟩:=hi.seg i hL;refine⟨a,fun k p q=>Or.inl (b k p q),?_⟩
   rcases Nat.lt_trichotomy (c i).1 g with h | h | h
   . right
     have:=hi.one i hL
     omega
   . by_cases e:(c i).1=(c i).2
     . right;omega
     . exact absurd hg (by rw [<- h];exact he _ (b _ Zl_ (by omega)))
   . exact Or.inl h
theorem Zfl (cs:List Value) (U:Rr) (w:World) (h:RrC 0 w cs U) (hn:Zba U) :
 Calls prog 17 #[.agg cs.toArray] w fun e w'=>∃ cs' v S,e=.returned (.tuple #[.agg cs'.toArray,v])/\Zw_ w w'/\Za8 (fun k=>¬ S k) w.heap.size w'.heap.size w' cs' (ZdC U)/\Za9 S w' v (ZdD U)/\∀ k,S k->w.heap.size<=k/\k < w'.heap.size:=by
 have HC:=Zaa h;have HN:=Zaa hn;have HZ:=Zaa h.sizes;have HS:Hd ((prog.info? 61).map (·.size)=some cs.length):=by unfold Hd;rw [h.len];exact ZaA
 have HE:Hd (ZdC U=if ZaM U then (if U.up then Zbw U else U) else nwU 0 0 false):=rfl;have HEL:Hd (ZdD U=if (ZaM U&&U.up)=true then Zb7 U else []):=rfl;have HUP:=Zaa (Ze6 h).2.2.1;have HTN:Hd (∀ (X:World) (l:List Value),l.length=18->(X.alloc (.cells zR 61)).there X.heap.size 0 l.toArray.size):=fun X l h=>by rw [show l.toArray.size=18 from h];exact ZdF _ _ _ _ rfl
 have HBX:Hd (∀ (X:World) (l:List Value),l.length=18->Box ((X.alloc (.cells zR 61)).setCells X.heap.size 0 l.toArray.toList) X.heap.size l.toArray):=fun X l h=>(Box.new _ _ _ _ rfl).full (by rw [show l.toArray.size=18 from h];rfl)
 clear h hn;have HR0:Hd (World.rangeAt ((w.alloc (.cells cs.toArray 61)).alloc (.cells zR 61)) w.heap.size 0 cs):=((Box.new w _ _ _ rfl).on (Zab _ _)).range rfl;go_enter func17,ntmps17;go_wp2_with (with_reducible refine ldR (.tmp 1) w.heap.size 0 cs HR0.o HS.o ?_)
 obtain⟨wz,hwz,FB,RB,HB⟩:∃ wz,wz=((w.alloc (.cells cs.toArray 61)).alloc (.cells zR 61))/\Hd (Box wz w.heap.size cs.toArray)/\Hd (Box wz (w.heap.size+1) zR)/\Hd (Zw_ w wz):=
  ⟨_,rfl,(Box.new w _ _ _ rfl).on (Zab _ _),Box.new _ _ _ _ (by simp),bt (Zab _ _) (Zab _ _)⟩
 rw [<- hwz];clear hwz HR0;refine (Zet 0 cs U _ (HC.o.below HB.o)).mono ?_;rintro e w1 ⟨rfl,hb⟩;replace HB:Hd (Zw_ w w1):=bt HB.o hb;replace FB:=Zaa (FB.o.on hb);replace RB:=Zaa (RB.o.on hb);clear hb
 cases qv:ZaM U with
 | false=>
  have HV:Hd (ZdC U=nwU 0 0 false):=by unfold Hd;rw [HE.o,qv];rfl
  have HVL:Hd (ZdD U=[]):=by unfold Hd;rw [HEL.o,qv];rfl
  obtain⟨zl,hzl⟩:∃ zl,zl=nwL 0 0 false:=⟨_,rfl⟩
  have hz18:zl.length=18:=by rw [hzl];rfl
  have HON:Hd (zl.toArray.all (·.oneCell')=true):=by unfold Hd;rw [hzl];exact Zid _ _ _
  have HZL:=Zaa hzl;have hzb:∀ u,Sem.run prog (zeroValue 61) u=.ok (.agg zl.toArray) u:=by rw [hzl];intro u;kernel_rfl
  clear hzl;have HTH:Hd (World.there w1 (w.heap.size+1) 0 zl.toArray.size):=by unfold Hd;rw [show zl.toArray.size=18 from hz18];exact RB.o.there rfl
  go_wp2_with (with_reducible refine stR (.tmp 2) (.tmp 9) (w.heap.size+1) 0 zl.toArray HTH.o (szN hz18) HON.o ?_;refine Hd.o ?_);generalize hW:World.setCells _ _ _ _=W9;have FR9:Hd (Box W9 (w.heap.size+1) zl.toArray):=by unfold Hd;rw [<- hW];exact RB.o.full (by rw [show zl.toArray.size=18 from hz18];rfl)
  have TT:Hd (Zad (w.heap.size+1) (w.heap.size+2) w1 W9):=by unfold Hd;rw [<- hW];exact Zad.sets ⟨by omega,by omega⟩ _ _ _
  have HB9:Hd (Zw_ w W9):=HB.o.trans ((TT.o.under (by have:=RB.o.lt;omega)).mono (by omega));clear hW;refine Zaa ?_;go_wp2;exact bodyPost_ret (v:=.tuple #[.agg zl.toArray,.slice none 0 0]) (ZcD (p:=2) (q:=3) (ty:=61) results17 _ _ (w.heap.size+1) 0 zl _ rfl (FR9.o.range rfl) underlying61 rfl (by rw [hz18];exact ZaA)) rfl ⟨zl,_,fun _=>False,rfl,HB9.o,by rw [HV.o,HZL.o];exact Zkm _ _ _ _ _ _,by rw [HVL.o];exact Or.inl ⟨_,_,rfl,rfl⟩,fun _ h=>h.elim⟩
 | true=>
 have HRA:=Zaa (FB.o.range (l:=cs) rfl);go_wp2_with (with_reducible refine ldR (.tmp 1) w.heap.size 0 cs HRA.o HS.o ?_);clear HRA;have hsz:w.heap.size+2<=w1.heap.size:=by have:=RB.o.lt;omega
 refine (ZhO 0 cs U _ (HC.o.below HB.o) HN.o).mono ?_;rintro e w2 ⟨b0,m0,b1,m1,b2,m2,b3,m3,b4,m4,b5,m5,b6,m6,c,rfl,hb,hcp⟩;have hs2:w1.heap.size<=w2.heap.size:=hb.size;replace HB:Hd (Zw_ w w2):=bt HB.o hb;replace FB:=Zaa (FB.o.on hb);replace RB:=Zaa (RB.o.on hb)
 have HCZ:Hd (Cz (fun k=>k < w1.heap.size) w1.heap.size w2 (f7 b0 b1 b2 b3 b4 b5 b6) (f7 m0 m1 m2 m3 m4 m5 m6) (fun i k=>(c i).1<=k/\k < (c i).2) U):=
  ⟨hcp.sets,hs2,fun k hk=>⟨Zk_ hk hs2,fun i hi hS=>by have:=hcp.seg i hi;omega⟩⟩
 clear hb hcp;obtain⟨yl,hyl⟩:∃ yl,yl=rrL U b0 m0 b1 m1 b2 m2 b3 m3 b4 m4 b5 m5 b6 m6:=⟨_,rfl⟩
 rw [<- hyl];have hy18:yl.length=18:=by rw [hyl];rfl
 have HON:Hd (yl.toArray.all (·.oneCell')=true):=by unfold Hd;rw [hyl];exact Zcs ..
 have HYL:Hd (yl=rrF U (f7 b0 b1 b2 b3 b4 b5 b6) (f7 m0 m1 m2 m3 m4 m5 m6)):=hyl;clear hyl;go_wp2_with (with_reducible refine stR (.tmp 4) (.tmp 11) w2.heap.size 0 yl.toArray (HTN.o _ _ hy18) (szN hy18) HON.o ?_;refine Hd.o ?_);generalize hW:World.setCells _ _ _ _=w3;have NB:Hd (Box w3 w2.heap.size yl.toArray):=by unfold Hd;rw [<- hW];exact HBX.o _ _ hy18
 have hb:Below w2.heap.size w2 w3:=by rw [<- hW];exact Below.sets Zl_ _ _ (Zab _ _)
 clear hW;have hs3:w2.heap.size < w3.heap.size:=NB.o.lt
 replace HB:Hd (Zw_ w w3):=bt HB.o hb;replace FB:=Zaa (FB.o.on hb);replace RB:=Zaa (RB.o.on hb);have HRZ:Hd (Rz (fun k=>k < w1.heap.size) w1.heap.size w3 w2.heap.size (f7 b0 b1 b2 b3 b4 b5 b6) (f7 m0 m1 m2 m3 m4 m5 m6) (fun i k=>(c i).1<=k/\k < (c i).2) U):=HCZ.o.rz hb (by rw [<- HYL.o];exact NB.o) Zl_ (fun k hk=>Or.inl hk);clear hb HCZ;have g2:w3.cell? ⟨w.heap.size,2,none⟩=some (.bool U.up):=by rw [FB.o.cell 2,List.getElem?_toArray,HUP.o]
 refine Zaa ?_
 cases qu:U.up with
 | false=>
  rw [qu] at g2;have HV:Hd (ZdC U=U):=by unfold Hd;rw [HE.o,qv,qu];rfl
  have HVL:Hd (ZdD U=[]):=by unfold Hd;rw [HEL.o,qv,qu];rfl
  have HOW:Hd (Za8 (fun _=>True) w1.heap.size w3.heap.size w3 yl U):=by unfold Hd;rw [HYL.o];exact (HRZ.o.ownT HZ.o).wide Zl_ Zl_ Zl_ (fun _ _ _ _=>trivial)
  go_upto_region 7 with fail
  clear g2;have HTH:Hd (World.there w3 (w.heap.size+1) 0 yl.toArray.size):=by unfold Hd;rw [show yl.toArray.size=18 from hy18];exact RB.o.there rfl
  have HRA:=Zaa (NB.o.range (l:=yl) rfl);have HSy:Hd ((prog.info? 61).map (·.size)=some yl.length):=by unfold Hd;rw [hy18];exact ZaA
  go_wp2_with (first
   | (with_reducible refine ldR (.tmp 4) w2.heap.size 0 yl HRA.o HSy.o ?_)
   | (with_reducible refine stR (.tmp 2) (.tmp 15) (w.heap.size+1) 0 yl.toArray HTH.o (szN hy18) HON.o ?_;refine Hd.o ?_))
  generalize hW:World.setCells _ _ _ _=W9;have FR9:Hd (Box W9 (w.heap.size+1) yl.toArray):=by unfold Hd;rw [<- hW];exact RB.o.full (by rw [show yl.toArray.size=18 from hy18];rfl)
  have TT:Hd (Zad (w.heap.size+1) (w.heap.size+2) w3 W9):=by unfold Hd;rw [<- hW];exact Zad.sets ⟨by omega,by omega⟩ _ _ _
  have HB9:Hd (Zw_ w W9):=HB.o.trans ((TT.o.under (by have:=RB.o.lt;omega)).mono (by omega));clear hW;refine Zaa ?_;go_wp2;refine bodyPost_ret (v:=.tuple #[.agg yl.toArray,.slice none 0 0]) (ZcD (p:=2) (q:=3) (ty:=61) results17 _ _ (w.heap.size+1) 0 yl _ rfl (FR9.o.range rfl) underlying61 rfl HSy.o) rfl ⟨yl,.slice none 0 0,fun _=>False,rfl,HB9.o,?_,?_,?_⟩
  . rw [HV.o]
    exact (HOW.o.touch TT.o (Or.inr (by omega))).wide (by omega) TT.o.size Zl_ (fun _ _ _ _ h=>h.elim)
  . rw [HVL.o]
    exact Or.inl ⟨_,_,rfl,rfl⟩
  . exact fun k h=>h.elim
 | true=>
 rw [qu] at g2;have HV:Hd (ZdC U=Zbw U):=by unfold Hd;rw [HE.o,qv,qu];rfl
 have HVL:Hd (ZdD U=Zb7 U):=by unfold Hd;rw [HEL.o,qv,qu];rfl
 have HBZ:=Zaa (Zgi qv HZ.o);have HMZ:=Zaa (Ze7 qv HZ.o)
 go_upto_region 6 with fail
 clear g2;go_wp2_with fail;refine (Zgc (fun k=>k < w1.heap.size) w1.heap.size _ w2.heap.size U ⟨_,_,_,HRZ.o⟩ qv HZ.o).mono ?_;rintro e w5 ⟨v',E,l,u,L,c',rfl,hk,hwz,hrow,huw,hin,hL,hE,hl⟩;replace HB:Hd (Zw_ w w5):=HB.o.trans ((hk.under (n:=w1.heap.size) (fun k h=>h)).mono (by omega));replace RB:=Zaa (RB.o.kept hk (by show w.heap.size+1 < w1.heap.size;omega));have HRM:Hd (Za9 (fun k=>E k\/(l<=k/\k < u)) w5 v' (Zb7 U)):=Zgd hrow hin (fun k hk=>(hE k hk).1) hL HMZ.o
 have HSK:Hd (∀ k,(E k\/(l<=k/\k < u))->w1.heap.size<=k/\k < w5.heap.size):=fun k hk=>by
  rcases hk with h | h
  . exact⟨(hE k h).2,hwz.kw k (Or.inl (Or.inr h))⟩
  . omega
 obtain⟨b,m,c'',hR⟩:=hwz;have NB5:Hd (Box w5 w2.heap.size (rrF (Zbw U) b m).toArray):=hR.box;have HOW:Hd (Za8 (fun k=>¬ (E k\/(l<=k/\k < u))) w1.heap.size w5.heap.size w5 (rrF (Zbw U) b m) (Zbw U)):=(hR.ownT HBZ.o.rrz).wide Zl_ Zl_ Zl_ (fun k _ _ h hk=>h.1 (hk.elim (fun h=>Or.inl (Or.inr h)) (fun h=>Or.inr h)));obtain⟨va,vc,rfl⟩:=HRM.o.form;clear hk hR HRZ hrow huw hin hL hE hl;obtain⟨yl,hyl⟩:∃ yl,yl=rrF (Zbw U) b m:=⟨_,rfl⟩
 rw [<- hyl] at NB5 HOW;have hy18:yl.length=18:=by rw [hyl];rfl
 have HON:Hd (yl.toArray.all (·.oneCell')=true):=by unfold Hd;rw [hyl];exact Zcs ..
 clear hyl;have HTH:Hd (World.there w5 (w.heap.size+1) 0 yl.toArray.size):=by unfold Hd;rw [show yl.toArray.size=18 from hy18];exact RB.o.there rfl
 have HRA:=Zaa (NB5.o.range (l:=yl) rfl);have HSy:Hd ((prog.info? 61).map (·.size)=some yl.length):=by unfold Hd;rw [hy18];exact ZaA
 go_wp2_with (first
  | (with_reducible refine ldR (.tmp 4) w2.heap.size 0 yl HRA.o HSy.o ?_)
  | (with_reducible refine stR (.tmp 2) (.tmp 15) (w.heap.size+1) 0 yl.toArray HTH.o (szN hy18) HON.o ?_;refine Hd.o ?_))
 generalize hW:World.setCells _ _ _ _=W9;have FR9:Hd (Box W9 (w.heap.size+1) yl.toArray):=by unfold Hd;rw [<- hW];exact RB.o.full (by rw [show yl.toArray.size=18 from hy18];rfl)
 have TT:Hd (Zad (w.heap.size+1) (w.heap.size+2) w5 W9):=by unfold Hd;rw [<- hW];exact Zad.sets ⟨by omega,by omega⟩ _ _ _
 have HB9:Hd (Zw_ w W9):=HB.o.trans ((TT.o.under (by have:=RB.o.lt;omega)).mono (by omega));clear hW;refine Zaa ?_;go_wp2;refine bodyPost_ret (v:=.tuple #[.agg yl.toArray,.slice va (Zb7 U).length vc]) (ZcD (p:=2) (q:=3) (ty:=61) results17 _ _ (w.heap.size+1) 0 yl _ rfl (FR9.o.range rfl) underlying61 rfl HSy.o) rfl ⟨yl,.slice va (Zb7 U).length vc,fun k=>E k\/(l<=k/\k < u),rfl,HB9.o,?_,?_,?_⟩
 . rw [HV.o]
   exact (HOW.o.touch TT.o (Or.inr (by omega))).wide (by omega) TT.o.size Zl_ (fun _ _ _ h=>h)
 . rw [HVL.o]
   exact HRM.o.kept (Zag.touch TT.o (K:=fun k=>k < w5.heap.size/\(k < w.heap.size+1\/w.heap.size+2<=k)) (fun k h=>h)) (fun k h=>by have:=HSK.o k h;omega)
 . exact fun k h=>by have:=HSK.o k h;have:=TT.o.size;omega
end
section
open Go.RowKit Go.Deep
theorem Zku:(prog.info? 102).map (·.size)=some 8:=by kernel_rfl
theorem ZkM (lo:Nat) (n of:Int) (up:Bool) (w:World):RrC lo w (nwL n of up) (nwU n of up):=
 ⟨none,0,none,0,none,0,none,0,none,0,none,0,none,0,rfl,⟨Or.inl ⟨none,0,rfl,rfl⟩,Or.inl ⟨none,0,rfl,rfl⟩,Or.inl ⟨none,0,rfl,rfl⟩,Or.inl ⟨none,0,rfl,rfl⟩,Or.inl ⟨none,0,rfl,rfl⟩,Or.inl ⟨none,0,rfl,rfl⟩,Or.inl ⟨none,0,rfl,rfl⟩⟩⟩
theorem ZfD (cs:List Value) (U:Rr) (wo:World) (h:RrC 0 wo cs U) (hn:Zba U) :
 Calls prog 15 #[.agg cs.toArray] wo fun e w'=>∃ cs' v,e=.returned (.tuple #[.agg cs'.toArray,v])/\Below wo.heap.size wo w'/\RrC wo.heap.size w' cs' (ZdC U)/\Zbd wo.heap.size w' v (ZdD U):=by
 have HC:=Zaa h;have HN:=Zaa hn;have HZ:=Zaa h.sizes;have HS:Hd ((prog.info? 61).map (·.size)=some cs.length):=by unfold Hd;rw [h.len];exact ZaA
 have HE:Hd (ZdC U=if ZaM U then (if U.up then Zbw U else U) else nwU 0 0 false):=rfl;have HEL:Hd (ZdD U=if (ZaM U&&U.up)=true then Zb7 U else []):=rfl;have HUP:=Zaa (Ze6 h).2.2.1;have HTN:Hd (∀ (X:World) (l:List Value),l.length=18->(X.alloc (.cells zR 61)).there X.heap.size 0 l.toArray.size):=fun X l h=>by rw [show l.toArray.size=18 from h];exact ZdF _ _ _ _ rfl
 have HBX:Hd (∀ (X:World) (l:List Value),l.length=18->Box ((X.alloc (.cells zR 61)).setCells X.heap.size 0 l.toArray.toList) X.heap.size l.toArray):=fun X l h=>(Box.new _ _ _ _ rfl).full (by rw [show l.toArray.size=18 from h];rfl)
 clear h hn;have HR0:Hd (World.rangeAt (((wo.alloc (.cells cs.toArray 61)).alloc (.cells zR 61)).alloc (.cells #[] 102)) wo.heap.size 0 cs):=(((Box.new wo _ _ _ rfl).on (Zab _ _)).on (Zab _ _)).range rfl;go_enter func15,ntmps15;go_wp2_with (with_reducible refine ldR (.tmp 1) wo.heap.size 0 cs HR0.o HS.o ?_)
 obtain⟨wz,hwz,FB,RB,OB,HB⟩:∃ wz,wz=(((wo.alloc (.cells cs.toArray 61)).alloc (.cells zR 61)).alloc (.cells #[] 102))/\Hd (Box wz wo.heap.size cs.toArray)/\Hd (Box wz (wo.heap.size+1) zR)/\Hd (ZaH mxL 8 wz (wo.heap.size+2) (wo.heap.size+3) (.slice (some ⟨wo.heap.size+2,0,none⟩) 0 0) [])/\Hd (Below wo.heap.size wo wz):=
  ⟨_,rfl,((Box.new wo _ _ _ rfl).on (Zab _ _)).on (Zab _ _),(Box.new _ _ _ _ (by simp)).on (Zab _ _),⟨wo.heap.size+2,0,rfl,by
   have:=Zbb mxL 8 ((wo.alloc (.cells cs.toArray 61)).alloc (.cells zR 61)) #[] 102 0 rfl Zz_
   simpa using this⟩,bt (bt (Zab _ _) (Zab _ _)) (Zab _ _)⟩
 simp only [Nat.add_assoc,Nat.reduceAdd] at hwz |-;rw [<- hwz];clear hwz HR0;refine (Zey 0 cs U _ (HC.o.below HB.o) HN.o).mono ?_;rintro e w1 ⟨rfl,hb⟩;replace HB:Hd (Below wo.heap.size wo w1):=bt HB.o hb;replace FB:=Zaa (FB.o.on hb);replace RB:=Zaa (RB.o.on hb);replace OB:=Zaa (OB.o.below hb);clear hb;have hsz:wo.heap.size+3<=w1.heap.size:=by obtain⟨g,c,-,hf⟩:=OB.o;have h1:=hf.lt;have h2:=hf.bs;have h3:=hf.up;omega
 cases qv:ZaM U with
 | false=>
  have HV:Hd (ZdC U=nwU 0 0 false):=by unfold Hd;rw [HE.o,qv];rfl
  have HVL:Hd (ZdD U=[]):=by unfold Hd;rw [HEL.o,qv];rfl
  obtain⟨zl,hzl⟩:∃ zl,zl=nwL 0 0 false:=⟨_,rfl⟩
  have hz18:zl.length=18:=by rw [hzl];rfl
  have HON:Hd (zl.toArray.all (·.oneCell')=true):=by unfold Hd;rw [hzl];exact Zid _ _ _
  have HZL:=Zaa hzl;have hzb:∀ u,Sem.run prog (zeroValue 61) u=.ok (.agg zl.toArray) u:=by rw [hzl];intro u;kernel_rfl
  clear hzl;have HTH:Hd (World.there w1 (wo.heap.size+1) 0 zl.toArray.size):=by unfold Hd;rw [show zl.toArray.size=18 from hz18];exact RB.o.there rfl
  go_wp2_with (first
   | (with_reducible refine stR (.tmp 2) (.tmp 15) (wo.heap.size+1) 0 zl.toArray HTH.o (szN hz18) HON.o ?_;refine Hd.o ?_))
  generalize hW:World.setCells _ _ _ _=W9;have FR9:Hd (Box W9 (wo.heap.size+1) zl.toArray):=by unfold Hd;rw [<- hW];exact RB.o.full (by rw [show zl.toArray.size=18 from hz18];rfl)
  have TT:Hd (Zad (wo.heap.size+1) ((wo.heap.size+1)+1) w1 W9):=by unfold Hd;rw [<- hW];exact Zad.sets ⟨by omega,by omega⟩ _ _ _
  have HB9:Hd (Below wo.heap.size wo W9):=HB.o.trans ((TT.o.under (by have:=RB.o.lt;omega)).mono (by omega));clear hW;refine Zaa ?_;go_wp2;refine bodyPost_ret (v:=.tuple #[.agg zl.toArray,.slice (some ⟨wo.heap.size+2,0,none⟩) 0 0]) (ZcD (p:=2) (q:=3) (ty:=61) results15 _ _ (wo.heap.size+1) 0 zl _ rfl (FR9.o.range rfl) underlying61 rfl (by rw [hz18];exact ZaA)) rfl ⟨zl,.slice (some ⟨wo.heap.size+2,0,none⟩) 0 0,rfl,HB9.o,?_,?_⟩
  . rw [HV.o]
    rw [HZL.o];exact ZkM _ _ _ _ _
  . rw [HVL.o]
    exact Or.inl ⟨_,_,rfl,rfl⟩
 | true=>
 have HRA:=Zaa (FB.o.range (l:=cs) rfl);go_wp2_with (with_reducible refine ldR (.tmp 1) wo.heap.size 0 cs HRA.o HS.o ?_);clear HRA;refine (Zd5 0 cs U _ (HC.o.below HB.o) HN.o).mono ?_;rintro e w2 ⟨b0,m0,b1,m1,b2,m2,b3,m3,b4,m4,b5,m5,b6,m6,c,rfl,hb,hcp⟩;have hs2:w1.heap.size<=w2.heap.size:=hb.size;replace HB:Hd (Below wo.heap.size wo w2):=bt HB.o hb;replace FB:=Zaa (FB.o.on hb);replace RB:=Zaa (RB.o.on hb);replace OB:=Zaa (OB.o.below hb);have HCP:=Zaa hcp
 have HCZ:Hd (Cz (fun k=>k < w1.heap.size) w1.heap.size w2 (f7 b0 b1 b2 b3 b4 b5 b6) (f7 m0 m1 m2 m3 m4 m5 m6) (fun i k=>(c i).1<=k/\k < (c i).2) U):=
  ⟨hcp.cpn.sets,hs2,fun k hk=>⟨Zk_ hk hs2,fun i hi hS=>by have:=hcp.seg i hi;omega⟩⟩
 clear hb hcp;obtain⟨yl,hyl⟩:∃ yl,yl=rrL U b0 m0 b1 m1 b2 m2 b3 m3 b4 m4 b5 m5 b6 m6:=⟨_,rfl⟩
 rw [<- hyl];have hy18:yl.length=18:=by rw [hyl];rfl
 have HON:Hd (yl.toArray.all (·.oneCell')=true):=by unfold Hd;rw [hyl];exact Zcs ..
 have HYL:=Zaa hyl;have HYF:Hd (yl=rrF U (f7 b0 b1 b2 b3 b4 b5 b6) (f7 m0 m1 m2 m3 m4 m5 m6)):=hyl;clear hyl;go_wp2_with (with_reducible refine stR (.tmp 5) (.tmp 18) w2.heap.size 0 yl.toArray (HTN.o _ _ hy18) (szN hy18) HON.o ?_;refine Hd.o ?_);generalize hW:World.setCells _ _ _ _=w3;have NB:Hd (Box w3 w2.heap.size yl.toArray):=by unfold Hd;rw [<- hW];exact HBX.o _ _ hy18
 have hb:Below w2.heap.size w2 w3:=by rw [<- hW];exact Below.sets Zl_ _ _ (Zab _ _)
 clear hW;have hs3:w2.heap.size < w3.heap.size:=NB.o.lt
 replace HB:Hd (Below wo.heap.size wo w3):=bt HB.o hb;replace FB:=Zaa (FB.o.on hb);replace RB:=Zaa (RB.o.on hb);replace OB:=Zaa (OB.o.below hb);have H23:=Zaa hb;have HRZ:Hd (Rz (fun k=>k < w1.heap.size) w1.heap.size w3 w2.heap.size (f7 b0 b1 b2 b3 b4 b5 b6) (f7 m0 m1 m2 m3 m4 m5 m6) (fun i k=>(c i).1<=k/\k < (c i).2) U):=HCZ.o.rz hb (by rw [<- HYF.o];exact NB.o) Zl_ (fun k hk=>Or.inl hk);clear hb HCZ;have g2:w3.cell? ⟨wo.heap.size,2,none⟩=some (.bool U.up):=by rw [FB.o.cell 2,List.getElem?_toArray,HUP.o]
 refine Zaa ?_
 cases qu:U.up with
 | false=>
  rw [qu] at g2;have HV:Hd (ZdC U=U):=by unfold Hd;rw [HE.o,qv,qu];rfl
  have HVL:Hd (ZdD U=[]):=by unfold Hd;rw [HEL.o,qv,qu];rfl
  have HRA:=Zaa (NB.o.range (l:=yl) rfl);have HSy:Hd ((prog.info? 61).map (·.size)=some yl.length):=by unfold Hd;rw [hy18];exact ZaA
  go_upto_region 6 with fail
  clear g2;have HTH:Hd (World.there w3 (wo.heap.size+1) 0 yl.toArray.size):=by unfold Hd;rw [show yl.toArray.size=18 from hy18];exact RB.o.there rfl
  go_wp2_with (first
   | (with_reducible refine ldR (.tmp 5) w2.heap.size 0 yl HRA.o HSy.o ?_)
   | (with_reducible refine stR (.tmp 2) (.tmp 22) (wo.heap.size+1) 0 yl.toArray HTH.o (szN hy18) HON.o ?_;refine Hd.o ?_))
  generalize hW:World.setCells _ _ _ _=W9;have FR9:Hd (Box W9 (wo.heap.size+1) yl.toArray):=by unfold Hd;rw [<- hW];exact RB.o.full (by rw [show yl.toArray.size=18 from hy18];rfl)
  have TT:Hd (Zad (wo.heap.size+1) ((wo.heap.size+1)+1) w3 W9):=by unfold Hd;rw [<- hW];exact Zad.sets ⟨by omega,by omega⟩ _ _ _
  have HB9:Hd (Below wo.heap.size wo W9):=HB.o.trans ((TT.o.under (by have:=RB.o.lt;omega)).mono (by omega));clear hW;refine Zaa ?_;go_wp2;refine bodyPost_ret (v:=.tuple #[.agg yl.toArray,.slice (some ⟨wo.heap.size+2,0,none⟩) 0 0]) (ZcD (p:=2) (q:=3) (ty:=61) results15 _ _ (wo.heap.size+1) 0 yl _ rfl (FR9.o.range rfl) underlying61 rfl (by rw [hy18];exact ZaA)) rfl ⟨yl,.slice (some ⟨wo.heap.size+2,0,none⟩) 0 0,rfl,HB9.o,?_,?_⟩
  . rw [HV.o]
    rw [HYL.o];have hat:=(Zgr.touchUp ((HCP.o.at HZ.o).below H23.o) TT.o (by omega)).mono (lo':=wo.heap.size) (by omega);exact⟨b0,m0,b1,m1,b2,m2,b3,m3,b4,m4,b5,m5,b6,m6,rfl,hat⟩
  . rw [HVL.o]
    exact Or.inl ⟨_,_,rfl,rfl⟩
 | true=>
 rw [qu] at g2;have HV:Hd (ZdC U=Zbw U):=by unfold Hd;rw [HE.o,qv,qu];rfl
 have HVL:Hd (ZdD U=Zb7 U):=by unfold Hd;rw [HEL.o,qv,qu];rfl
 have HBZ:=Zaa (Zgi qv HZ.o);have HMZ:=Zaa (Ze7 qv HZ.o)
 go_upto_region 7 with fail
 clear g2 HE HEL HUP HCP HYL H23 HTN HBX FB HS HN HC;obtain⟨γ,hγ⟩:∃ γ,γ=w2.heap.size:=⟨_,rfl⟩
 rw [<- hγ] at NB HRZ |-;have hγ1:w1.heap.size<=γ:=by omega
 have HTV:=Zaa (ZdY qv HZ.o);have HV5:=Zaa (ZeY qv HZ.o);have HVO:=Zaa (Zdi qv);clear qv qu hγ;rw [HYF.o] at NB;clear HYF HON hy18 hs3 hs2;have x6:w3.cell? ⟨γ,6,none⟩=some (.int .i64 U.dk.pr):=NB.o.cell 6;have x7:w3.cell? ⟨γ,7,none⟩=some (.int .i64 U.dk.kn):=NB.o.cell 7;have x8:w3.cell? ⟨γ,8,none⟩=some (.slice b1 U.dk.sl.length m1):=NB.o.cell 8;go_wp2_with fail;clear x6 x7 x8;have HVS:Hd (Zat 0 w3 (.slice b1 U.dk.sl.length m1) U.dk.sl):=(HRZ.o.cp.o1.rss HZ.o.z1).at (fun _ _=>Nat.zero_le _);refine (Zd7 0 U.dk b1 m1 _ HVS.o (by have:=HTV.o.1.dk;omega)).mono ?_;rintro e w4 ⟨a8,c8,rfl,hb,hrow⟩;have hsf:=HRZ.o.safe hb (Or.inr hrow);have hs4:=hb.size;replace NB:=Zaa (NB.o.on hb);replace RB:=Zaa (RB.o.on hb);replace OB:=Zaa (OB.o.below hb);replace HB:Hd (Below wo.heap.size wo w4):=bt HB.o hb;have HSF:=Zaa hsf
 have x3:w4.cell? ⟨γ,3,none⟩=some (.int .i64 U.sf.pr):=NB.o.cell 3;have x4:w4.cell? ⟨γ,4,none⟩=some (.int .i64 U.sf.kn):=NB.o.cell 4;have x5:w4.cell? ⟨γ,5,none⟩=some (.slice b0 U.sf.sl.length m0):=NB.o.cell 5;have gf:=NB.o.free;clear hb hrow hsf HVS HRZ
 go_upto_region 8 with fail
 clear x3 x4 x5 gf;obtain⟨⟨bA,mA,SA,hR5⟩,hk5⟩:=HSF.o;obtain⟨w5,hw5⟩:∃ w5,w5=((w4.setCell ⟨γ,3,none⟩ (.int .i64 U.dk.pr)).setCell ⟨γ,4,none⟩ (.int .i64 U.dk.kn)).setCell ⟨γ,5,none⟩ (.slice a8 U.dk.sl.length c8):=⟨_,rfl⟩
 rw [<- hw5] at hR5 hk5 |-;clear hw5 HSF NB;have hs5:=hk5.size;have hg5:γ < w5.heap.size:=hR5.box.lt
 replace RB:=Zaa (RB.o.kept hk5 (by show wo.heap.size+1 < w1.heap.size;omega));replace OB:=Zaa (OB.o.kept hk5 (fun k _ h=>by show k < w1.heap.size;omega));replace HB:Hd (Below wo.heap.size wo w5):=HB.o.trans ((hk5.under (n:=w1.heap.size) (fun k h=>h)).mono (by omega));obtain⟨L2,hng,hL2⟩:=hR5.cp.o2;have hL2':L2.map (·.1)=U.he:=hL2;have hll:L2.length=U.he.length:=by rw [<- hL2',List.length_map]
 have x9:w5.cell? ⟨γ,9,none⟩=some (.slice (bA 2) U.he.length (mA 2)):=hR5.box.cell 9
 have HIN0:Hd (∃ cI,InE (SA 2) w5 L2 cI):=by
  rcases hng with ⟨-,rfl⟩ | ⟨gg,cI,hg,hf,hi⟩
  . exact⟨fun _=>(0,0),fun i hi=>absurd hi (Nat.not_lt_zero _),fun i hi=>absurd hi (Nat.not_lt_zero _),fun i j hi=>absurd hi (Nat.not_lt_zero _),fun i hi=>absurd hi (Nat.not_lt_zero _)⟩
  . exact⟨cI,fun i h=>⟨(hi.seg i h).1,(hi.seg i h).2.1⟩,hi.one,hi.ap,hi.inn⟩
 have HSRC:Hd ((∀ ad,bA 2=some ad->∀ j u,(Zai mxL L2)[j]?=some u->w5.cell? (ad.add j)=some u)/\(bA 2=none->U.he.length=0)):=by
  rcases hng with ⟨hv,hl⟩ | ⟨gg,cI,hg,⟨g',cap,hv,hf⟩,hi⟩
  . injection hv with h1 h2 h3
    refine⟨fun ad e=>by rw [h1] at e;(first | cases e | exact absurd e (by simp)),fun _=>by rw [<- hll,hl];rfl⟩
  . injection hv with h1 h2 h3
    refine⟨fun ad e j u hu=>?_,fun e=>by rw [h1] at e;(first | cases e | exact absurd e (by simp))⟩;rw [h1] at e;injection e with e
    rw [<- e,Addr.add_lit];exact hf.rg j u hu
 have hhe:U.he.length<=400:=HTV.o.1.he;have HR5:=Zaa hR5;have HLM:=Zaa hL2';clear hng hR5 hk5 hL2 hL2'
 go_upto_region 9 with (at_builtin;refine Zcl Zb3 (by decide) underlying32 Zcz rfl (w:=w5) (lo:=wo.heap.size+2) (hi':=wo.heap.size+3) (L:=[]) L2 rfl (.tmp 28) (.tmp 30) rfl rfl OB.o (bA 2) U.he.length (mA 2) rfl hll.symm HSRC.o.2 HSRC.o.1 (Zdt _) (by rw [hll,List.length_nil];omega) (by decide) ?_;intro v6 w6 h1 h2;have H1:=Zaa h1;have H2:=Zaa h2;clear h1 h2)
 clear x9 HSRC OB;have hs6:=H1.o.size
 obtain⟨lx,ux,hq,hrw,hlx,hux⟩:∃ lx ux,((lx=wo.heap.size+2/\ux=wo.heap.size+3)\/(lx=w5.heap.size/\ux=w6.heap.size))/\Zay mxL 8 w6 lx ux v6 L2/\wo.heap.size+2<=lx/\ux<=w6.heap.size:=by
  rcases H2.o with h | h
  . exact⟨_,_,Or.inl ⟨rfl,rfl⟩,Or.inr h,Nat.le_refl _,by omega⟩
  . exact⟨_,_,Or.inr ⟨rfl,rfl⟩,Or.inr h,by omega,Nat.le_refl _⟩
 have HRW:=Zaa hrw;clear hrw H2;have HR6:Hd (Rz (fun k=>k < w1.heap.size\/(lx<=k/\k < ux)) w1.heap.size w6 γ bA mA SA (Zev U)):=(HR5.o.shield (K':=fun k=>k < w1.heap.size\/(wo.heap.size+2<=k/\k < wo.heap.size+3)) Zb_ (fun k hk=>Or.inl (hk.elim (fun h=>h) (fun h=>by show k < w1.heap.size;omega)))).row H1.o hq
 have HES:Hd (∀ k,SA 2 k->w1.heap.size<=k/\k < w5.heap.size/\¬ (lx<=k/\k < ux)):=fun k hk=>by
  have:=HR5.o.cp.seg 2 (by decide) k hk
  omega
 have HIN6:Hd (∃ cI,InE (SA 2) w6 L2 cI):=by
  obtain⟨cI,hi⟩:=HIN0.o;exact⟨cI,hi.kept (Zag.touch (K:=SA 2) H1.o (fun k hk=>by have:=HES.o k hk;omega)) (fun k h=>h)⟩
 replace RB:=Zaa (RB.o.tch2 H1.o (Or.inl (by omega)));replace HB:Hd (Below wo.heap.size wo w6):=HB.o.trans ((H1.o.under (by omega)).mono (by omega));have xc:∀ o,(w6.alloc o).cell? ⟨γ,9,none⟩=some (.slice (bA 2) U.he.length (mA 2)):=fun o=>(HR6.o.box.on (Zab _ o)).cell 9
 have gf:∀ o j,(w6.alloc o).frozen? ⟨γ,j,none⟩=false:=fun o j=>(HR6.o.box.on (Zab _ o)).free j
 clear HR5 HIN0 H1 hq hhe hll
 go_upto_region 10 with fail
 clear xc gf;have hh0:=HR6.o.held0;obtain⟨w,hw⟩:∃ w,w=(w6.alloc (.cells #[] 102)).setCell ⟨γ,9,none⟩ (.slice (some ⟨w6.heap.size,0,none⟩) 0 0):=⟨_,rfl⟩
 rw [<- hw] at hh0 |-;obtain⟨⟨b9,m9,S9,hR7⟩,hk7⟩:=hh0;have hs7:=hk7.size;obtain⟨E,hE⟩:∃ E:Nat->Prop,E=SA 2:=⟨_,rfl⟩
 rw [<- hE] at HES HIN6 hR7 hk7;obtain⟨K,hK⟩:∃ K:Nat->Prop,K=fun k=>(k < w1.heap.size\/(lx<=k/\k < ux))\/E k:=⟨_,rfl⟩
 rw [<- hK] at hR7 hk7;have HKI:Hd (∀ k,K k↔((k < w1.heap.size\/(lx<=k/\k < ux))\/E k)):=fun k=>by rw [hK]
 have HR:=Zaa hR7;have HKw:Hd (∀ k,K k->k < w.heap.size/\k≠γ):=fun k hk=>⟨(hR7.prot k hk).1,(hR7.prot k hk).2.1⟩
 replace RB:=Zaa (RB.o.kept hk7 ((HKI.o _).2 (Or.inl (Or.inl (by omega)))));replace HRW:=Zaa (HRW.o.kept hk7 (fun k a b=>(HKI.o k).2 (Or.inl (Or.inr ⟨a,b⟩))))
 have HIN:Hd (∃ cI,InE E w L2 cI):=by
  obtain⟨cI,hi⟩:=HIN6.o;exact⟨cI,hi.kept hk7 (fun k h=>(HKI.o k).2 (Or.inr h))⟩
 replace HB:Hd (Below wo.heap.size wo w):=HB.o.trans ((hk7.under (n:=w1.heap.size) (fun k h=>(HKI.o k).2 (Or.inl (Or.inl h)))).mono (by omega));have hux7:ux<=w.heap.size:=by omega
 clear hR7 hk7 hw HR6 HIN6 hE hK hs7 hs6 hs5 hs4;obtain⟨V,hV⟩:∃ V,V=stU U 2:=⟨_,rfl⟩
 have HVE:=Zaa hV;rw [show ({ Zev U with he:=[] }:Rr)=V from hV.symm] at HR;have HVV:Hd (Tv V):=by unfold Hd;rw [hV];exact (HTV.o.1.safe).held
 have HDE:Hd (Zg6 V=stU U 3):=by unfold Hd;rw [hV];rfl
 clear hV;obtain⟨p,hp⟩:∃ p:Zy_->Bool,p=fun t=>!Zdd (V.dk.sl.take V.dk.kn.toNat) t:=⟨_,rfl⟩
 have HP:=Zaa hp;clear hp;have hw20:V.wi.length<=20:=HVV.o.wi;go_wp2
 go_loopw [6,7] (fun lv iv wr=>∃ k:Nat,iv=.int .i64 (k:Int)/\k<=V.wi.length/\Zw_ w wr/\∃ l u,w.heap.size<=l/\u<=wr.heap.size/\ZaH tyL 1 wr l u lv ((V.wi.take k).filter p)) (fun _ iv _=>V.wi.length - (intOf iv).toNat)
 case atStart=>exact⟨0,rfl,Nat.zero_le _,Zab _ _,w.heap.size,w.heap.size+1,Nat.le_refl _,by simp,w.heap.size,0,rfl,(Zbb tyL 1 w #[] 9 0 rfl Zz_).own'⟩
 case round=>
  obtain⟨k,rfl,hk,hb,ll,lu,hl1,hl2,hfr⟩:=hrel;have HBk:=Zaa hb;have HO:=Zaa hfr;have HRk:=Zaa (HR.o.on hb);have hsk:=hb.size;obtain⟨Lk,hLk⟩:∃ Lk,Lk=(V.wi.take k).filter p:=⟨_,rfl⟩
  rw [<- hLk] at HO;have hlk:Lk.length<=20:=by rw [hLk];exact Nat.le_trans (List.length_filter_le _ _) (by rw [List.length_take];omega)
  have HLK:=Zaa hLk;obtain⟨gg,cp,rfl,-⟩:=hfr;rw [<- hLk] at HO |-;clear hb hLk;have x10:wr.cell? ⟨γ,10,none⟩=some (.slice (b9 3) V.wi.length (m9 3)):=HRk.o.box.cell 10
  by_cases hlt:k < V.wi.length
  . obtain⟨tx,htx⟩:∃ x,x=V.wi[k]:=⟨_,rfl⟩
    rcases HRk.o.cp.o3 with ⟨-,hnil⟩ | ⟨g1,hSg1,g1',cap1,hvv,hfr1⟩
    . rw [hnil] at hlt;simp at hlt
    injection hvv with hv1 hv2 hv3
    rw [hv1] at x10
    have z0:wr.cell? ⟨g1',k,none⟩=some (.string tx):=by
     have:=hfr1.get ZbN hlt (t:=0) (by omega) (v:=.string V.wi[k]) rfl;rw [htx]
     simpa using this
    have x7:wr.cell? ⟨γ,7,none⟩=some (.int .i64 V.dk.kn):=HRk.o.box.cell 7;have x8:wr.cell? ⟨γ,8,none⟩=some (.slice (b9 1) V.dk.sl.length (m9 1)):=HRk.o.box.cell 8;have r1:0<=V.dk.kn:=HVV.o.ak.k0;have hkl:V.dk.kn<=(V.dk.sl.length:Int):=HVV.o.kn1;have HD:Hd (Zat 0 wr (.slice (b9 1) V.dk.sl.length (m9 1)) V.dk.sl):=(HRk.o.cp.o1.rss HVV.o.z.rrz.z1).at (fun _ _=>Nat.zero_le _)
    have hcap:V.dk.sl.length<=m9 1:=by
     rcases HD.o with ⟨_,_,h1,h2⟩ | ⟨_,_,_,h1,_,_,_,_,h6,_⟩
     . rw [h2];simp
     . injection h1 with e1 e2 e3
       omega
    have r2:V.dk.kn<=(m9 1:Int):=by omega
    have HDT:Hd (Zat 0 wr (.slice (b9 1) V.dk.kn.toNat (m9 1)) (V.dk.sl.take V.dk.kn.toNat)):=HD.o.takeR _ rfl (by omega);have j0:(0:Int)<=(k:Int):=by omega
    have j1:(k:Int) < (V.wi.length:Int):=by omega
    have d1:decide ((k:Int) < (V.wi.length:Int))=true:=decide_eq_true j1
    have HNX:Hd ((V.wi.take (k+1)).filter p=if p tx then Lk ++ [tx] else Lk):=by
     unfold Hd;rw [List.take_succ_eq_append_getElem hlt,List.filter_append,<- HLK.o,htx]
     cases hq:p V.wi[k] <;> simp [hq]
    have HTXP:Hd (p tx=!Zdd (V.dk.sl.take V.dk.kn.toNat) tx):=by unfold Hd;rw [HP.o]
    clear hfr1 hv1 hv2 hv3 htx
    go_upto_region 14 with fail
    have y7:∀ X:In (Up wr),X.w.cell? ⟨γ,7,none⟩=some (.int .i64 V.dk.kn):=fun X=>Up.cell X x7
    have y8:∀ X:In (Up wr),X.w.cell? ⟨γ,8,none⟩=some (.slice (b9 1) V.dk.sl.length (m9 1)):=fun X=>Up.cell X x8
    have y10:∀ X:In (Up wr),X.w.cell? ⟨γ,10,none⟩=some (.slice (some ⟨g1',0,none⟩) V.wi.length (m9 3)):=fun X=>Up.cell X x10
    have yt:∀ X:In (Up wr),X.w.cell? ⟨g1',k,none⟩=some (.string tx):=fun X=>Up.cell X z0
    have xn:Nonempty (In (Up wr)):=⟨⟨wr,Below.refl _ _⟩⟩;have xs:=fun (X:In (Up wr))=>Zbc X
    have HXT:Hd (wr.cell? ⟨γ,10,none⟩=some (.slice (some ⟨g1',0,none⟩) V.wi.length (m9 3))/\wr.cell? ⟨g1',k,none⟩=some (.string tx)):=⟨x10,z0⟩;clear x7 x8 x10 z0 d1;refine Zaf (Up wr) (by kernel_rfl) (by kernel_rfl) (Zb_.drew) ?_
    cases q3:Zdd (V.dk.sl.take V.dk.kn.toNat) tx with
    | true=>
     have HN2:Hd ((V.wi.take (k+1)).filter p=Lk):=by unfold Hd;rw [HNX.o,HTXP.o,q3];rfl
     repeat (go_big_quiet_step (first|(go_at_call 56;rename_i X;exact (Zdc 0 _ (V.dk.sl.take V.dk.kn.toNat) tx _ (HDT.o.below X.h)).mono fun _ _ h=>⟨h.1.trans (Zij q3),Up.same X h.2⟩)))
     refine wpQuiet_nil ?_;intro w3 hw;obtain⟨X,hX⟩:=hw;have hb3:Below wr.heap.size wr w3:=by rw [hX];exact X.h
     clear hX X y7 y8 y10 yt xn xs;go_wp2;go_roundw
     . exact⟨k+1,by go_num,by omega,bt HBk.o hb3,ll,lu,hl1,Nat.le_trans hl2 hb3.size,by rw [HN2.o];exact HO.o.below hb3⟩
     . simp [intOf];omega
    | false=>
     have HN2:Hd ((V.wi.take (k+1)).filter p=Lk ++ [tx]):=by unfold Hd;rw [HNX.o,HTXP.o,q3];rfl
     repeat (go_big_quiet_step (first|(go_at_call 56;rename_i X;exact (Zdc 0 _ (V.dk.sl.take V.dk.kn.toNat) tx _ (HDT.o.below X.h)).mono fun _ _ h=>⟨h.1.trans (Zij q3),Up.same X h.2⟩)))
     refine wpQuiet_nil ?_;intro w3 hw;obtain⟨X,hX⟩:=hw;have hb3:Below wr.heap.size wr w3:=by rw [hX];exact X.h
     clear hX X y7 y8 y10 yt xn xs;have hs3:=hb3.size;have hg1:g1' < wr.heap.size:=World.block_lt_of_cell? wr _ HXT.o.2
     have hgγ:γ < wr.heap.size:=HRk.o.box.lt
     have x10:w3.cell? ⟨γ,10,none⟩=some (.slice (some ⟨g1',0,none⟩) V.wi.length (m9 3)):=(hb3.cell (p:=⟨γ,10,none⟩) hgγ).trans HXT.o.1;have z0:w3.cell? ⟨g1',k,none⟩=some (.string tx):=(hb3.cell (p:=⟨g1',k,none⟩) hg1).trans HXT.o.2;have HO1:Hd (∀ o,ZaH tyL 1 (w3.alloc o) ll lu (.slice (some ⟨gg,0,none⟩) Lk.length cp) Lk):=fun o=>HO.o.below (bt hb3 (Zab w3 o))
     have HB3:Hd (∀ o,Zw_ w (w3.alloc o)):=fun o=>bt (bt HBk.o hb3) (Zab _ _)
     clear hb3 HXT
     go_wp2_with (at_builtin;refine Zcl ZbN (by decide) underlying50 Zh2 rfl (w:=w3.alloc _) (lo:=ll) (hi':=lu) (L:=Lk) [tx] rfl (.tmp 56) (.tmp 62) rfl rfl (HO1.o _) (some ⟨w3.heap.size,0,none⟩) 1 1 rfl rfl (fun e=>by cases e) (fun ad e j u hu=>by
      injection e with e
      subst e;rw [Addr.add_lit,Nat.zero_add,(Box.new w3 _ _ _ rfl).cell j]
      simpa [Zai,tyL] using hu) (Zgj _) (by simp;omega) (by decide) ?_;intro v' w' h1 h2;have H1:=Zaa h1;have H2:=Zaa h2;clear h1 h2)
     clear x10 z0;go_roundw
     . 
      have ht:=H1.o;have hszq:=ht.size;simp at hszq;refine⟨k+1,by go_num,by omega,(HB3.o _).trans ((ht.under (by obtain⟨q,_,-,hq⟩:=HO1.o (.cells #[.string tx] 9);have:=hq.bs;have:=hq.lt;simp at this |-;omega)).mono hl1),?_⟩;rw [HN2.o]
      rcases H2.o with h | h
      . exact⟨ll,lu,hl1,by omega,h⟩
      . exact⟨_,_,by simp;omega,Nat.le_refl _,h⟩
     . simp [intOf];omega
  . have hkk:k=V.wi.length:=by omega
    have dn:decide ((k:Int) < (V.wi.length:Int))=false:=by simp;omega
    have HLE:Hd ({ V with wi:=Lk }=Zg6 V):=by unfold Hd Zg6;rw [HLK.o,hkk,List.take_length,HP.o]
    have gf:=HRk.o.box.free;obtain⟨gq,cq,hvq,hfq⟩:=HO.o;injection hvq with hq1 hq2 hq3
    injection hq1 with hq1
    injection hq1 with hq1
    subst hq1;subst hq3;have hqa:=hfq.bs;have hqb:=hfq.up;have HP3:=Zaa (HR.o.part3 (w':=wr) (L':=Lk) (a':=some ⟨gg,0,none⟩) (m':=cp) (Zaj.below HBk.o) (Or.inr ⟨gg,Or.inr ⟨by omega,by omega⟩,gg,cp,rfl,hfq.own'⟩));clear hfq hq2
    go_upto_region 17 with fail
    clear x10 gf dn;obtain⟨wa,hwa⟩:∃ wa,wa=wr.setCell ⟨γ,10,none⟩ (.slice (some ⟨gg,0,none⟩) Lk.length cp):=⟨_,rfl⟩
    have hp3:=HP3.o;rw [<- hwa] at hp3 |-;obtain⟨bB,mB,SB,HR3⟩:∃ b m S,Hd (Rz K w1.heap.size wa γ b m S (stU U 3)):=⟨_,_,_,by unfold Hd;rw [<- HDE.o,<- HLE.o];exact hp3.1⟩
    have HK3:Hd (Zag K w wa):=hp3.2;clear hp3 hwa HP3 HLE HDE HRk HO HBk HLK HVV HVE HP HR hkk hlk hk hlt hqa hqb hl1 hl2 hsk hw20;obtain⟨V3,hV3⟩:∃ V3,V3=stU U 3:=⟨_,rfl⟩
    rw [<- hV3] at HR3;have HE4:Hd (stU U 4={ V3 with hd:=if V3.hd < 1000000 then V3.hd+1 else V3.hd }):=by unfold Hd;rw [hV3];rfl
    have hd0:0<=V3.hd:=by rw [hV3];exact HTV.o.2.2.1
    have hd1:V3.hd<=1000000:=by rw [hV3];exact HTV.o.2.2.2.1
    clear hV3;have x17:wa.cell? ⟨γ,17,none⟩=some (.int .i64 V3.hd):=HR3.o.box.cell 17
    go_upto_if 68 with fail
    go_cut [] (fun wc=>∃ b m S,Rz K w1.heap.size wc γ b m S (stU U 4)/\Zag K w wc)
    case first=>
     by_cases qh:V3.hd < 1000000
     . have HQ:=Zaa qh
       have d:decide (V3.hd < 1000000)=true:=decide_eq_true qh;have gf:=HR3.o.box.free;have wrp:IntKind.wrap .i64 (V3.hd+1)=V3.hd+1:=by rw [IntKind.wrap_i64];omega
       have hs:=HR3.o.scal (U':={ V3 with hd:=V3.hd+1 }) (j:=17) (v:=.int .i64 (V3.hd+1)) (by show 17 < 18;omega) rfl (fun _ h=>⟨h.seg,h.ap,h.o0,h.o1,h.o2,h.o3,h.o4,h.o5,h.o6⟩);have HSC:=Zaa hs;clear hs;go_wp2;go_meet;exact⟨_,_,_,by rw [HE4.o,if_pos HQ.o];exact HSC.o.1,HK3.o.trans HSC.o.2⟩
     . have HQ:Hd (¬ V3.hd < 1000000):=qh
       have d:decide (V3.hd < 1000000)=false:=decide_eq_false qh;go_wp2;go_meet;exact⟨_,_,_,by rw [HE4.o,if_neg (by have:=HQ.o;omega)];exact HR3.o,HK3.o⟩
    case rest=>
    obtain⟨bC,mC,SC,hr,hk⟩:=hcut
    rename World=>wC
    have HR4:=Zaa hr;have HK4:=Zaa hk;clear hr hk HR3 HK3 x17 HE4 hd0 hd1;obtain⟨V4,hV4⟩:∃ V4,V4=stU U 4:=⟨_,rfl⟩
    rw [<- hV4] at HR4;have HE5:Hd (stU U 5=if (V4.ty&&decide (V4.sf.pr=V4.ba))=true then Zb1 V4 V4.nu V4.dk.sl else V4):=by unfold Hd;rw [hV4];rfl
    have HV4:Hd (Tv V4/\V4.ye.length<=5):=by unfold Hd;rw [hV4];exact⟨((HTV.o.1.safe.held).wish _).hd _,HVO.o.ye⟩
    clear hV4
    go_upto_region 19 with fail
    go_cut [82] (fun c wc=>c=.bool (V4.ty&&(V4.sf.pr == V4.ba))/\wc=wC)
    case first=>
     have x12:wC.cell? ⟨γ,12,none⟩=some (.bool V4.ty):=HR4.o.box.cell 12;have x3:wC.cell? ⟨γ,3,none⟩=some (.int .i64 V4.sf.pr):=HR4.o.box.cell 3;have x13:wC.cell? ⟨γ,13,none⟩=some (.int .i64 V4.ba):=HR4.o.box.cell 13
     cases qt:V4.ty with
     | false=>
      rw [qt] at x12;go_wp2;go_meet;exact⟨by rw [qt];rfl,rfl⟩
     | true=>
      rw [qt] at x12;go_wp2;go_meet;exact⟨by rw [qt];rfl,rfl⟩
    case rest=>
    obtain⟨rfl,hwc⟩:=hcut;rw [hwc];clear hwc
    go_upto_if 82 with fail
    go_cut [] (fun wc=>∃ b m S,Rz K w1.heap.size wc γ b m S (stU U 5)/\Zag K w wc)
    case first=>
     cases qb:(V4.ty&&(V4.sf.pr == V4.ba)) with
     | false=>
      have HE:Hd (stU U 5=V4):=by
       unfold Hd;rw [HE5.o,if_neg];intro h;simp only [Bool.and_eq_true,decide_eq_true_eq] at h;rw [h.1,h.2] at qb;simp at qb
      go_wp2;go_meet;exact⟨_,_,_,by rw [HE.o];exact HR4.o,HK4.o⟩
     | true=>
      have HE:Hd (stU U 5=Zb1 V4 V4.nu V4.dk.sl):=by
       unfold Hd;rw [HE5.o,if_pos]
       simpa using qb
      clear HE5 qb;obtain⟨bx,mx,Sx,HRx⟩:∃ b' m' S',Hd (Rz K w1.heap.size wC γ b' m' S' (V4)):=⟨_,_,_,HR4⟩
      clear HR4;have HRA:Hd (World.rangeAt wC γ 0 (rrF (V4) bx mx)):=HRx.o.box.range rfl;have HSy:Hd ((prog.info? 61).map (·.size)=some (rrF (V4) bx mx).length):=by unfold Hd;exact ZaA
      have x0:wC.cell? ⟨γ,0,none⟩=some (.int .i64 V4.nu):=HRx.o.box.cell 0;have x8:wC.cell? ⟨γ,8,none⟩=some (.slice (bx 1) V4.dk.sl.length (mx 1)):=HRx.o.box.cell 8;have HDT:Hd (Zat 0 wC (.slice (bx 1) V4.dk.sl.length (mx 1)) V4.dk.sl):=(HRx.o.cp.o1.rss HV4.o.1.z.rrz.z1).at (fun _ _=>Nat.zero_le _);go_wp2_with (with_reducible refine ldR (.tmp 5) γ 0 (rrF (V4) bx mx) HRA.o HSy.o ?_);clear HRA HSy;refine (Zii (fun k=>K k\/k=γ) w1.heap.size _ V4 bx mx Sx V4.nu _ _ V4.dk.sl HRx.o.czg HDT.o HV4.o.1.z.rrz HV4.o.1.ak.k0 HV4.o.1.kn1 (by have:=HV4.o.1.dk;omega) (by have:=HV4.o.2;omega) (by have:=HV4.o.1.be;omega) (by have:=HV4.o.1.dk;omega)).mono ?_;rintro e wpa ⟨b20,m20,S20,rfl,hk,hc⟩;have HCc:=Zaa hc;have HBX:Hd (Box wpa γ (rrF (V4) bx mx).toArray):=HRx.o.box.kept hk (Or.inr rfl)
      have HKa:Hd (Zag K w wpa):=HK4.o.trans (hk.less fun k h=>Or.inl h);have HKne:Hd (∀ k,K k->k≠γ):=fun k h=>(HKw.o k h).2
      clear hk hc HRx HK4;have HTH:Hd (World.there wpa γ 0 (rrF (Zb1 V4 V4.nu V4.dk.sl) b20 m20).toArray.size):=HBX.o.there rfl;have HON:Hd ((rrF (Zb1 V4 V4.nu V4.dk.sl) b20 m20).toArray.all (·.oneCell')=true):=Zb5 _ _ _;go_wp2_with (with_reducible refine stR (.tmp 5) (.tmp 89) γ 0 (rrF (Zb1 V4 V4.nu V4.dk.sl) b20 m20).toArray HTH.o (szN (Zb4 _ _ _)) HON.o ?_;refine Hd.o ?_);generalize hW9:World.setCells _ _ _ _=wp;obtain⟨hr,ht⟩:=HCc.o.put HBX.o rfl HKne.o hW9.symm;have HR20:=Zaa hr;have hsa:=HKa.o.size;have HK20:Hd (Zag K w wp):=HKa.o.trans (Zag.box ht (fun k h=>⟨by have:=HKw.o k h;omega,(HKw.o k h).2⟩));clear hr ht hW9 HBX HKa HCc HTH HON HKne hsa;refine Zaa ?_;go_wp2;go_meet;exact⟨_,_,_,by rw [HE.o];exact HR20.o,HK20.o⟩
    case rest=>
    obtain⟨bD,mD,SD,hr,hk⟩:=hcut
    rename World=>wD
    have HR5:=Zaa hr;have HK5:=Zaa hk;clear hr hk HR4 HK4 HE5 HV4;obtain⟨V5,hV5⟩:∃ V5,V5=Zbp U:=⟨_,rfl⟩
    have HR:Hd (Rz K w1.heap.size wD γ bD mD SD V5):=by unfold Hd;rw [hV5];exact HR5.o
    have HT5:Hd (Tv V5):=by unfold Hd;rw [hV5];exact HV5.o
    have HTU:Hd (Zbw U=if V5.ld=true then leadT V5 else tryW V5):=by unfold Hd;rw [hV5];rfl
    have HTL:Hd (Zb7 U=U.he ++ if V5.ld=true then Zcj (leadT V5) else []):=by unfold Hd;rw [hV5];rfl
    clear hV5 HR5 HV5;have hsD:=HK5.o.size;have hgl:γ < wD.heap.size:=HR.o.box.lt
    have kRES:Hd (K (wo.heap.size+1)):=(HKI.o _).2 (Or.inl (Or.inl (by omega)));have x11:wD.cell? ⟨γ,11,none⟩=some (.bool V5.ld):=HR.o.box.cell 11
    cases qld:V5.ld with
    | true=>
     rw [qld] at x11;have HE7:Hd (Zbw U=leadT V5):=by unfold Hd;rw [HTU.o,qld];rfl
     have HL7:Hd (Zb7 U=U.he ++ Zcj (leadT V5)):=by unfold Hd;rw [HTL.o,qld];rfl
     have hL2:L2.length<=1000:=by
      have:=congrArg List.length HLM.o;rw [List.length_map] at this;have:=HTV.o.1.he
      omega
     clear qld HTU HTL;have HRA:Hd (World.rangeAt wD γ 0 (rrF (V5) bD mD)):=HR.o.box.range rfl;have HSy:Hd ((prog.info? 61).map (·.size)=some (rrF (V5) bD mD).length):=by unfold Hd;exact ZaA
     go_wp2_with (with_reducible refine ldR (.tmp 5) γ 0 (rrF (V5) bD mD) HRA.o HSy.o ?_);clear HRA HSy x11;refine (Zh8 (fun k=>K k\/k=γ) w1.heap.size _ V5 bD mD SD lx ux v6 L2 HR.o.czg (fun k a b=>Or.inl ((HKI.o k).2 (Or.inl (Or.inr ⟨a,b⟩)))) (HRW.o.kept HK5.o (fun k a b=>(HKI.o k).2 (Or.inl (Or.inr ⟨a,b⟩)))) (by omega) (HT5.o.ak.up (by decide)) HT5.o.sf HT5.o.dk (Nat.le_trans HT5.o.wi (by decide)) (by have:=HT5.o.of1;omega) HT5.o.of5 hL2 (fun x hx=>⟨HT5.o.z.z1 x hx⟩) HT5.o.z.z3).mono ?_;rintro e wE ⟨bE,mE,SE,vE,ly,uy,rfl,hk,hc,hrow,huy,hap⟩;have hsE:=hk.size;have hgx:¬ (lx<=γ/\γ < ux):=fun h=>(HKw.o γ ((HKI.o γ).2 (Or.inl (Or.inr h)))).2 rfl
     have hly:wo.heap.size+2<=ly:=by
      rcases hap with h | h
      . omega
      . omega
     obtain⟨KN,hKN⟩:∃ KN:Nat->Prop,KN=fun k=>(K k/\¬ (lx<=k/\k < ux))\/(ly<=k/\k < uy):=⟨_,rfl⟩
     have HKN:Hd (∀ k,KN k↔((K k/\¬ (lx<=k/\k < ux))\/(ly<=k/\k < uy))):=fun k=>by rw [hKN]
     clear hKN
     have HKne:Hd (∀ k,KN k->k≠γ):=fun k h=>by
      rcases (HKN.o k).1 h with h | h
      . exact (HKw.o k h.1).2
      . rcases hap with h2 | h2
        . exact (HKw.o k ((HKI.o k).2 (Or.inl (Or.inr ⟨by omega,by omega⟩)))).2
        . omega
     have HCc:Hd (Cz (fun k=>KN k\/k=γ) w1.heap.size wE bE mE SE (leadT V5)):=hc.less fun k h=>by
      rcases h with h | h
      . rcases (HKN.o k).1 h with h | h
        . exact Or.inl ⟨Or.inl h.1,h.2⟩
        . exact Or.inr h
      . exact Or.inl ⟨Or.inr h,by rw [h];exact hgx⟩
     have HBX:Hd (Box wE γ (rrF V5 bD mD).toArray):=HR.o.box.kept hk ⟨Or.inr rfl,hgx⟩;have HRO:Hd (Zay mxL 8 wE ly uy vE (L2 ++ (Zcj (leadT V5)).map mx0)):=hrow
     have HINE:Hd (∃ cI,InE E wE (L2 ++ (Zcj (leadT V5)).map mx0) cI):=by
      obtain⟨cI,hi⟩:=HIN.o;exact⟨_,((hi.kept HK5.o (fun k h=>(HKI.o k).2 (Or.inr h))).kept hk (fun k h=>⟨Or.inl ((HKI.o k).2 (Or.inr h)),(HES.o k h).2.2⟩)).app _ (ZgU _)⟩
     have HEX:Hd (∀ k,E k->w1.heap.size<=k/\k < wE.heap.size/\k≠γ/\¬ (ly<=k/\k < uy)):=fun k h=>by
      have h1:=HES.o k h;have h2:=HKw.o k ((HKI.o k).2 (Or.inr h))
      rcases hap with h3 | h3
      . exact⟨h1.1,by omega,h2.2,by omega⟩
      . exact⟨h1.1,by omega,h2.2,by omega⟩
     replace RB:=Zaa ((RB.o.kept HK5.o kRES.o).kept hk ⟨Or.inl kRES.o,by omega⟩);replace HB:Hd (Below wo.heap.size wo wE):=(HB.o.trans (HK5.o.under (n:=wo.heap.size) (fun k h=>(HKI.o k).2 (Or.inl (Or.inl (by omega)))))).trans (hk.under (n:=wo.heap.size) (fun k h=>⟨Or.inl ((HKI.o k).2 (Or.inl (Or.inl (by omega)))),by omega⟩));have HTH:Hd (World.there wE γ 0 (rrF (leadT V5) bE mE).toArray.size):=HBX.o.there rfl;have HON:Hd ((rrF (leadT V5) bE mE).toArray.all (·.oneCell')=true):=Zb5 _ _ _;clear hk hc hrow hap HR HK5 HRW HIN HES;go_wp2_with (with_reducible refine stR (.tmp 5) (.tmp 96) γ 0 (rrF (leadT V5) bE mE).toArray HTH.o (szN (Zb4 _ _ _)) HON.o ?_;refine Hd.o ?_);generalize hW9:World.setCells _ _ _ _=wf;obtain⟨hr,ht⟩:=HCc.o.put HBX.o rfl HKne.o hW9.symm
     have HR7:Hd (Rz KN w1.heap.size wf γ bE mE SE (Zbw U)):=by unfold Hd;rw [HE7.o];exact hr
     have hsf:=ht.size
     have HMS:Hd (Zbd wo.heap.size wf vE (Zb7 U)):=by
      obtain⟨cI,hi⟩:=HINE.o
      have kb:Zag (fun k=>E k\/(ly<=k/\k < uy)) wE wf:=Zag.box ht (fun k h=>by
       rcases h with h | h
       . exact⟨(HEX.o k h).2.1,(HEX.o k h).2.2.1⟩
       . exact⟨by omega,HKne.o k ((HKN.o k).2 (Or.inr h))⟩)
      exact (Zgd (HRO.o.kept kb (fun k a b=>Or.inr ⟨a,b⟩)) (hi.kept kb (fun k h=>Or.inl h)) (fun k h=>(HEX.o k h).2.2.2) (by rw [HL7.o,List.map_append,HLM.o,List.map_map];exact congrArg _ (List.map_id _)) HMZ.o).at (fun k h=>by
       rcases h with h | h
       . have:=(HEX.o k h).1;omega
       . omega)
     replace RB:=Zaa (RB.o.tch2 ht (Or.inl (by omega)));replace HB:Hd (Below wo.heap.size wo wf):=HB.o.trans ((ht.under (by omega)).mono (by omega));clear hr ht hW9 HCc HBX HRO HINE HEX HTH HON HKne HKN;refine Zaa ?_;have HRA:Hd (World.rangeAt wf γ 0 (rrF (Zbw U) bE mE)):=HR7.o.box.range rfl;have HSy:Hd ((prog.info? 61).map (·.size)=some (rrF (Zbw U) bE mE).length):=by unfold Hd;exact ZaA
     have hgf:γ < wf.heap.size:=HR7.o.box.lt
     have HAT:Hd (RrC 0 wf (rrF (Zbw U) bE mE) (Zbw U)):=(HR7.o.cz.at HBZ.o.rrz).mono Zz_;clear HR7;go_wp2_with (with_reducible refine ldR (.tmp 5) γ 0 (rrF (Zbw U) bE mE) HRA.o HSy.o ?_);clear HRA HSy;refine (Zd5 0 _ (Zbw U) _ HAT.o HBZ.o.small).mono ?_;rintro e wg ⟨d0,n0,d1,n1,d2,n2,d3,n3,d4,n4,d5,n5,d6,n6,c',rfl,hb,hcp⟩;replace RB:=Zaa (RB.o.on hb);replace HB:Hd (Below wo.heap.size wo wg):=bt HB.o hb;have HCQ:=Zaa (hcp.at HBZ.o.rrz);replace HMS:=Zaa (HMS.o.below hb);have hsg:=hb.size;clear hb hcp HAT;obtain⟨zl,hzl⟩:∃ zl,zl=rrL (Zbw U) d0 n0 d1 n1 d2 n2 d3 n3 d4 n4 d5 n5 d6 n6:=⟨_,rfl⟩
     rw [<- hzl];have hz18:zl.length=18:=by rw [hzl];rfl
     have HONz:Hd (zl.toArray.all (·.oneCell')=true):=by unfold Hd;rw [hzl];exact Zcs ..
     have HZL:=Zaa hzl;clear hzl;go_wp2_with fail;refine (Zem wo.heap.size vE (Zb7 U) _ HMS.o HMZ.o.small).mono ?_;rintro e wh ⟨v9,g9,L9,rfl,hb,hmr,hl9⟩;replace RB:=Zaa (RB.o.on hb);replace HB:Hd (Below wo.heap.size wo wh):=bt HB.o hb;have HMR:Hd (Zbd wg.heap.size wh v9 (Zb7 U)):=hmr.rms hl9 HMZ.o.z;replace HCQ:=Zaa (HCQ.o.below hb);have hsh:=hb.size;clear hb hmr hl9 HMS;have HTH:Hd (World.there wh (wo.heap.size+1) 0 zl.toArray.size):=by unfold Hd;rw [show zl.toArray.size=18 from hz18];exact RB.o.there rfl
     go_wp2_with (first
      | (with_reducible refine stR (.tmp 2) (.tmp 99) (wo.heap.size+1) 0 zl.toArray HTH.o (szN hz18) HONz.o ?_;refine Hd.o ?_))
     generalize hW:World.setCells _ _ _ _=W9;have FR9:Hd (Box W9 (wo.heap.size+1) zl.toArray):=by unfold Hd;rw [<- hW];exact RB.o.full (by rw [show zl.toArray.size=18 from hz18];rfl)
     have TT:Hd (Zad (wo.heap.size+1) ((wo.heap.size+1)+1) wh W9):=by unfold Hd;rw [<- hW];exact Zad.sets ⟨by omega,by omega⟩ _ _ _
     have HB9:Hd (Below wo.heap.size wo W9):=HB.o.trans ((TT.o.under (by have:=RB.o.lt;omega)).mono (by omega));clear hW;refine Zaa ?_;go_wp2;refine bodyPost_ret (v:=.tuple #[.agg zl.toArray,v9]) (ZcD (p:=2) (q:=3) (ty:=61) results15 _ _ (wo.heap.size+1) 0 zl _ rfl (FR9.o.range rfl) underlying61 rfl (by rw [hz18];exact ZaA)) rfl ⟨zl,v9,rfl,HB9.o,?_,?_⟩
     . rw [HV.o]
       rw [HZL.o];have hat:=(Zgr.touchUp HCQ.o TT.o (by omega)).mono (lo':=wo.heap.size) (by omega);exact⟨d0,n0,d1,n1,d2,n2,d3,n3,d4,n4,d5,n5,d6,n6,rfl,hat⟩
     . rw [HVL.o]
       exact (HMR.o.tup TT.o (by omega)).mono (by omega)
    | false=>
     rw [qld] at x11;have HE7:Hd (Zbw U=tryW V5):=by unfold Hd;rw [HTU.o,qld];rfl
     have HL7:Hd (Zb7 U=U.he):=by unfold Hd;rw [HTL.o,qld];exact List.append_nil _
     have HTW1:Hd (V5.hd<=4+3*V5.nu->tryW V5=V5):=fun h=>by unfold tryW;rw [if_pos];rw [qld];simpa using h
     have HTW2:Hd (4+3*V5.nu < V5.hd->tryW V5=Zj2 V5 (nbF V5.dk.pr V5.nu V5.of)):=fun h=>by unfold tryW;rw [if_neg];rw [qld];simp;omega
     clear qld HTU HTL;have x17:wD.cell? ⟨γ,17,none⟩=some (.int .i64 V5.hd):=HR.o.box.cell 17;have x0:wD.cell? ⟨γ,0,none⟩=some (.int .i64 V5.nu):=HR.o.box.cell 0;have hn1:=HT5.o.nu1;have hn5:=HT5.o.nu5;have m1:IntKind.wrap .i64 (3*V5.nu)=3*V5.nu:=by rw [IntKind.wrap_i64];omega
     obtain⟨tq,htq⟩:∃ tq,tq=4+3*V5.nu:=⟨_,rfl⟩
     have m2:IntKind.wrap .i64 (4+3*V5.nu)=tq:=by rw [IntKind.wrap_i64,htq];omega
     rw [<- htq] at HTW1 HTW2;clear htq
     go_upto_if 108 with fail
     go_cut [] (fun wc=>∃ b m S,Rz K w1.heap.size wc γ b m S (tryW V5)/\Zag K w wc)
     case first=>
      by_cases qh:tq < V5.hd
      case neg=>
       have HQ:Hd (V5.hd<=tq):=by unfold Hd;omega
       have d:decide (tq < V5.hd)=false:=decide_eq_false qh;go_wp2;go_meet;exact⟨_,_,_,by rw [HTW1.o HQ.o];exact HR.o,HK5.o⟩
      case pos=>
       have d:decide (tq < V5.hd)=true:=decide_eq_true qh;have HQ2:=Zaa (HTW2.o qh);have x6:wD.cell? ⟨γ,6,none⟩=some (.int .i64 V5.dk.pr):=HR.o.box.cell 6;have x1:wD.cell? ⟨γ,1,none⟩=some (.int .i64 V5.of):=HR.o.box.cell 1;clear HTW1 HTW2
       go_upto_region 26 with (go_at_call 60;refine (ZfC _ _ _ _).mono ?_;rintro e w' ⟨rfl,hw⟩;rw [hw];clear hw w')
       clear qh d x6 x1 x17 x0 x11 m1 m2;obtain⟨nb,hnb⟩:∃ nb,nb=nbF V5.dk.pr V5.nu V5.of:=⟨_,rfl⟩
       rw [<- hnb] at HQ2 |-;clear hnb;obtain⟨bx,mx,Sx,HRx⟩:∃ b' m' S',Hd (Rz K w1.heap.size wD γ b' m' S' (V5)):=⟨_,_,_,HR⟩
       clear HR;have HRA:Hd (World.rangeAt wD γ 0 (rrF (V5) bx mx)):=HRx.o.box.range rfl;have HSy:Hd ((prog.info? 61).map (·.size)=some (rrF (V5) bx mx).length):=by unfold Hd;exact ZaA
       go_wp2_with (with_reducible refine ldR (.tmp 5) γ 0 (rrF (V5) bx mx) HRA.o HSy.o ?_);clear HRA HSy;refine (ZhL (fun k=>K k\/k=γ) w1.heap.size _ V5 bx mx Sx HRx.o.czg).mono ?_;rintro e wqa ⟨b26,m26,S26,rfl,hk,hc⟩;have HCc:=Zaa hc;have HBX:Hd (Box wqa γ (rrF (V5) bx mx).toArray):=HRx.o.box.kept hk (Or.inr rfl);have HKa:Hd (Zag K w wqa):=HK5.o.trans (hk.less fun k h=>Or.inl h);have HKne:Hd (∀ k,K k->k≠γ):=fun k h=>(HKw.o k h).2
       clear hk hc HRx HK5;have HTH:Hd (World.there wqa γ 0 (rrF (Za7 V5) b26 m26).toArray.size):=HBX.o.there rfl;have HON:Hd ((rrF (Za7 V5) b26 m26).toArray.all (·.oneCell')=true):=Zb5 _ _ _;go_wp2_with (with_reducible refine stR (.tmp 5) (.tmp 118) γ 0 (rrF (Za7 V5) b26 m26).toArray HTH.o (szN (Zb4 _ _ _)) HON.o ?_;refine Hd.o ?_);generalize hW9:World.setCells _ _ _ _=wq;obtain⟨hr,ht⟩:=HCc.o.put HBX.o rfl HKne.o hW9.symm;have HR26:=Zaa hr;have hsa:=HKa.o.size;have HK26:Hd (Zag K w wq):=HKa.o.trans (Zag.box ht (fun k h=>⟨by have:=HKw.o k h;omega,(HKw.o k h).2⟩));clear hr ht hW9 HBX HKa HCc HTH HON HKne hsa;refine Zaa ?_;obtain⟨X0,hX0⟩:∃ X0,X0=Za7 V5:=⟨_,rfl⟩
       have HX0:Hd (tryW V5=if 0 < nb then (Zax (Zgx { X0 with hd:=0 } nb) (Zfy nb)).foldl Zbl (Zgx { X0 with hd:=0 } nb) else { X0 with hd:=0 }):=by unfold Hd;rw [HQ2.o,hX0];rfl
       have HOF:Hd (X0.of=V5.of):=by unfold Hd;rw [hX0];rfl
       rw [<- hX0] at HR26;clear hX0 HQ2
       by_cases qb:0 < nb
       case neg=>
        have HQ:Hd (¬ 0 < nb):=qb;have d:decide (0 < nb)=false:=decide_eq_false qb;have gf:=HR26.o.box.free;have xg27:wq.cell? ⟨γ,17,none⟩=_:=HR26.o.box.cell 17;have hs27:=HR26.o.scal (U':={ X0 with hd:=0 }) (j:=17) (v:=.int .i64 0) (by show 17 < 18;omega) rfl (fun _ h=>⟨h.seg,h.ap,h.o0,h.o1,h.o2,h.o3,h.o4,h.o5,h.o6⟩)
        go_upto_region 28 with fail
        clear gf xg27;obtain⟨wr1,hwn⟩:∃ q,q=wq.setCell ⟨γ,17,none⟩ (.int .i64 0):=⟨_,rfl⟩
        rw [<- hwn] at hs27 |-;have HR27:Hd (Rz K w1.heap.size wr1 γ b26 m26 S26 ({ X0 with hd:=0 })):=hs27.1;have HK27:Hd (Zag K w wr1):=HK26.o.trans (hs27.2);clear hs27 hwn HR26 HK26;go_wp2;go_meet;exact⟨_,_,_,by rw [HX0.o,if_neg (by have:=HQ.o;omega)];exact HR27.o,HK27.o⟩
       case pos=>
        have d:decide (0 < nb)=true:=decide_eq_true qb;have HA:Hd (tryW V5=(Zax (Zgx { X0 with hd:=0 } nb) (Zfy nb)).foldl Zbl (Zgx { X0 with hd:=0 } nb)):=by unfold Hd;rw [HX0.o,if_pos qb]
        clear HX0;have gf:=HR26.o.box.free;have xg27:wq.cell? ⟨γ,17,none⟩=_:=HR26.o.box.cell 17;have hs27:=HR26.o.scal (U':={ X0 with hd:=0 }) (j:=17) (v:=.int .i64 0) (by show 17 < 18;omega) rfl (fun _ h=>⟨h.seg,h.ap,h.o0,h.o1,h.o2,h.o3,h.o4,h.o5,h.o6⟩)
        go_upto_region 28 with fail
        clear gf xg27;obtain⟨wr1,hwn⟩:∃ q,q=wq.setCell ⟨γ,17,none⟩ (.int .i64 0):=⟨_,rfl⟩
        rw [<- hwn] at hs27 |-;have HR27:Hd (Rz K w1.heap.size wr1 γ b26 m26 S26 ({ X0 with hd:=0 })):=hs27.1;have HK27:Hd (Zag K w wr1):=HK26.o.trans (hs27.2);clear hs27 hwn HR26 HK26;have gf:=HR27.o.box.free;have xg29:wr1.cell? ⟨γ,6,none⟩=_:=HR27.o.box.cell 6;have hs29:=HR27.o.scal (U':={ X0 with hd:=0,dk:={ X0.dk with pr:=nb } }) (j:=6) (v:=.int .i64 nb) (by show 6 < 18;omega) rfl (fun _ h=>⟨h.seg,h.ap,h.o0,h.o1,h.o2,h.o3,h.o4,h.o5,h.o6⟩)
        go_upto_region 30 with fail
        clear gf xg29;obtain⟨wr2,hwn⟩:∃ q,q=wr1.setCell ⟨γ,6,none⟩ (.int .i64 nb):=⟨_,rfl⟩
        rw [<- hwn] at hs29 |-;have HR29:Hd (Rz K w1.heap.size wr2 γ b26 m26 S26 ({ X0 with hd:=0,dk:={ X0.dk with pr:=nb } })):=hs29.1;have HK29:Hd (Zag K w wr2):=HK27.o.trans (hs29.2);clear hs29 hwn HR27 HK27;have gf:=HR29.o.box.free;have xg30:wr2.cell? ⟨γ,13,none⟩=_:=HR29.o.box.cell 13;have hs30:=HR29.o.scal (U':={ X0 with hd:=0,dk:={ X0.dk with pr:=nb },ba:=nb }) (j:=13) (v:=.int .i64 nb) (by show 13 < 18;omega) rfl (fun _ h=>⟨h.seg,h.ap,h.o0,h.o1,h.o2,h.o3,h.o4,h.o5,h.o6⟩)
        go_upto_region 31 with fail
        clear gf xg30;obtain⟨wr3,hwn⟩:∃ q,q=wr2.setCell ⟨γ,13,none⟩ (.int .i64 nb):=⟨_,rfl⟩
        rw [<- hwn] at hs30 |-;have HR30:Hd (Rz K w1.heap.size wr3 γ b26 m26 S26 ({ X0 with hd:=0,dk:={ X0.dk with pr:=nb },ba:=nb })):=hs30.1;have HK30:Hd (Zag K w wr3):=HK29.o.trans (hs30.2);clear hs30 hwn HR29 HK29;have gf:=HR30.o.box.free;have xg31:wr3.cell? ⟨γ,12,none⟩=_:=HR30.o.box.cell 12;have hs31:=HR30.o.scal (U':=Zgx { X0 with hd:=0 } nb) (j:=12) (v:=.bool true) (by show 12 < 18;omega) rfl (fun _ h=>⟨h.seg,h.ap,h.o0,h.o1,h.o2,h.o3,h.o4,h.o5,h.o6⟩)
        go_upto_region 32 with fail
        clear gf xg31;obtain⟨wr4,hwn⟩:∃ q,q=wr3.setCell ⟨γ,12,none⟩ (.bool true):=⟨_,rfl⟩
        rw [<- hwn] at hs31 |-;have HR31:Hd (Rz K w1.heap.size wr4 γ b26 m26 S26 (Zgx { X0 with hd:=0 } nb)):=hs31.1;have HK31:Hd (Zag K w wr4):=HK30.o.trans (hs31.2);clear hs31 hwn HR30 HK30;obtain⟨A5,hA5⟩:∃ A5,A5=Zgx { X0 with hd:=0 } nb:=⟨_,rfl⟩
        have ho0:0<=A5.of:=by rw [hA5];show 0<=X0.of;rw [HOF.o];have:=HT5.o.of1;omega
        have ho5:A5.of<=5:=by rw [hA5];show X0.of<=5;rw [HOF.o];exact HT5.o.of5
        rw [<- hA5] at HR31 HA;clear hA5 d qb;have HRA:Hd (World.rangeAt wr4 γ 0 (rrF A5 b26 m26)):=HR31.o.box.range rfl;have HRA2:Hd (∀ o,World.rangeAt (wr4.alloc o) γ 0 (rrF A5 b26 m26)):=fun o=>(HR31.o.box.on (Zab _ o)).range rfl
        have HSy:Hd ((prog.info? 61).map (·.size)=some (rrF A5 b26 m26).length):=by unfold Hd;exact ZaA
        go_wp2_with (first|(with_reducible refine ldR (.tmp 5) γ 0 (rrF (A5) b26 m26) HRA.o HSy.o ?_)|(with_reducible refine wpList_load_mid (by with_reducible rfl) 61 (.tmp 5) (by with_reducible rfl) γ 0 (by with_unfolding_all rfl) (rrF (A5) b26 m26) _ (HRA2.o _) underlying61 (by with_unfolding_all rfl) HSy.o ?_));clear HRA HRA2 HSy;have HNV:Hd (Zay mxL 8 (wr4.alloc (.cells #[] 102)) wr4.heap.size (wr4.heap.size+1) (.slice (some ⟨wr4.heap.size,0,none⟩) 0 0) []):=Or.inr ⟨wr4.heap.size,0,rfl,Zbb mxL 8 wr4 #[] 102 0 rfl Zz_⟩;refine (ZcZ _ A5 b26 m26 (Zfy nb) wr4.heap.size (wr4.heap.size+1) _ [] rfl ho0 ho5 Zz_ (by simp) HNV.o).mono ?_;rintro e wz ⟨vz,rfl,ht,hrow⟩
        obtain⟨l9,u9,hq9,hrw9⟩:∃ l9 u9,((l9=wr4.heap.size/\u9=wr4.heap.size+1)\/(l9=(wr4.alloc (.cells #[] 102)).heap.size/\u9=wz.heap.size))/\Zay mxL 8 wz l9 u9 vz ([] ++ (Zax A5 (Zfy nb)).map mx0):=by
         rcases hrow with h | h
         . exact⟨_,_,Or.inl ⟨rfl,rfl⟩,h⟩
         . exact⟨_,_,Or.inr ⟨rfl,rfl⟩,h⟩
        have hR:=((HR31.o.shield (K':=fun k=>K k\/(wr4.heap.size<=k/\k < wr4.heap.size+1)) (Zab wr4 (.cells #[] 102)) (fun k h=>h.imp (fun h=>h) (fun h=>⟨h.1,by simp;omega⟩))).row ht hq9);have hsR:=HR31.o.box.lt;have hsw:=HK31.o.size;have hsz4:=ht.size;simp only [World.size_alloc] at hsz4;have HKz:Hd (Zag K w wz):=(HK31.o.trans (Zag.below (Zab wr4 (.cells #[] 102)) (fun k h=>by have:=HKw.o k h;omega))).trans (Zag.touch ht (fun k h=>⟨by have:=HKw.o k h;simp;omega,by have:=HKw.o k h;omega⟩));obtain⟨LO,hLO⟩:∃ LO,LO=Zax A5 (Zfy nb):=⟨_,rfl⟩
        have HLO5:Hd (LO.length<=5):=by unfold Hd;rw [hLO];exact ZcM ho5
        have HLO0:Hd (∀ x ∈ LO,x.sl=[]):=fun x hx=>by rw [hLO] at hx;exact (ZcL hx).1
        rw [<- hLO] at HA hrw9;rw [List.nil_append] at hrw9;obtain⟨av,cv,hv⟩:=hrw9.form;rw [List.length_map] at hv;rw [hv] at hrw9 |-;have HRz:=Zaa hR;have HRO:=Zaa hrw9;clear hR hrw9 hv hLO hq9 hrow ht HR31 HK31 HNV hsz4;go_wp2
        go_loopw [10] (fun iv wr=>∃ (i:Nat) (b':Nat->Option Addr) (m':Nat->Nat) (S':Nat->Nat->Prop),iv=.int .i64 (i:Int)/\i<=LO.length/\Rz (fun k=>K k\/(l9<=k/\k < u9)) w1.heap.size wr γ b' m' S' ((LO.take i).foldl Zbl A5)/\Zag K w wr/\Zag (fun k=>l9<=k/\k < u9) wz wr) (fun iv _=>LO.length - (intOf iv).toNat)
        case atStart=>exact⟨0,_,_,_,rfl,Nat.zero_le _,HRz.o,HKz.o,Zag.refl _ _⟩
        case round=>
         obtain⟨i,b5,m5,S5,rfl,hi,hr,hk,hkr⟩:=hrel;have HR:=Zaa hr;have HKP:=Zaa hk;have HNR:=Zaa (HRO.o.kept hkr (fun k a b=>⟨a,b⟩));have HKR:=Zaa hkr;have HLo:=HLO5.o;clear hr hk hkr HRz HKz HRO;obtain⟨N,hN⟩:∃ N,N=(LO.take i).foldl Zbl A5:=⟨_,rfl⟩
         have HNE:Hd (N=(LO.take i).foldl Zbl A5):=hN;rw [<- hN] at HR;clear hN
         by_cases hlt:i < LO.length
         . obtain⟨M,hM⟩:∃ M,M=LO[i]:=⟨_,rfl⟩
           have HM0:Hd (M.sl=[]):=by unfold Hd;rw [hM];exact HLO0.o _ (List.getElem_mem hlt)
           have HNX:Hd ((LO.take (i+1)).foldl Zbl A5=Zbl N M):=by
            unfold Hd;rw [List.take_succ_eq_append_getElem hlt,List.foldl_append,<- HNE.o,hM]
            rfl
           rcases HNR.o with ⟨-,hnil⟩ | ⟨g1,cap1,hvv,hfr1⟩
           . rw [List.map_eq_nil_iff] at hnil;rw [hnil] at hlt;simp at hlt
           injection hvv with hv1 hv2 hv3
           have j0:(0:Int)<=(i:Int):=Int.natCast_nonneg _;have j1:(i:Int) < (LO.length:Int):=Int.ofNat_lt.2 hlt
           have d1:decide ((i:Int) < (LO.length:Int))=true:=decide_eq_true j1;subst hv1;have hlt':i < (LO.map mx0).length:=by rw [List.length_map];exact hlt
           have hem:(LO.map mx0)[i]=mx0 M:=by rw [List.getElem_map,hM]
           have hg:∀ j v,j < 8->(mxL (mx0 M))[j]?=some v->wr.cell? ⟨g1,i*8+j,none⟩=some v:=fun j v hj h=>hfr1.get Zb3 hlt' hj (by rw [hem];exact h)
           have HMR:Hd (World.rangeAt wr g1 (i*8) (rmL M none 0)):=fun j v h=>hg j v (List.getElem?_eq_some_iff.1 h).1 h
           have HSm:Hd ((prog.info? 102).map (·.size)=some (rmL M none 0).length):=by unfold Hd;exact Zku
           clear hfr1 hv2 hg hem hM;have HRA:Hd (World.rangeAt wr γ 0 (rrF (N) b5 m5)):=HR.o.box.range rfl;have HSy:Hd ((prog.info? 61).map (·.size)=some (rrF (N) b5 m5).length):=by unfold Hd;exact ZaA
           clear hlt' hv3
           go_upto_region 36 with fail
           refine Code.wp_mono NoPanic.imp ?_;refine Zan (S:=fun W=>W.rangeAt γ 0 (rrF N b5 m5)/\W.rangeAt g1 (i*8) (rmL M none 0)) [5,6] (by kernel_rfl) ⟨HRA.o,HMR.o⟩ (fun hHeld=>?_);refine tB 0 _ [5,6] rfl hHeld ?_ (hy:=yieldsIf_load_mid (by rfl) 61 (.tmp 5) rfl γ 0 rfl (rrF N b5 m5) _ (fun _ h=>h.1) underlying61 rfl HSy.o)
           try simp only [Act.put,sLs]
           refine tB 1 (.slice (some ⟨g1,0,none⟩) LO.length cv) [3,4,5,6] rfl hHeld ?_
           try simp only [Act.put,sLs]
           refine tB 2 (.int .i64 (i:Int)) [3,4,5,6] rfl hHeld ?_
           try simp only [Act.put,sLs]
           refine tB 3 (.pointer (some ⟨g1,i*8,none⟩)) [4,5,6] rfl hHeld ?_
           try simp only [Act.put,sLs]
           refine tB 4 _ [5,6] rfl hHeld ?_ (hy:=yieldsIf_load_mid (by rfl) 102 (.tmp 142) rfl g1 (i*8) rfl (rmL M none 0) _ (fun _ h=>h.2) underlying102 rfl HSm.o)
           try simp only [Act.put,sLs]
           refine oB 5 rfl (fun KC hK=>?_)
           go_simp
           refine (Zh1 (fun k=>(K k\/(l9<=k/\k < u9))\/k=γ) w1.heap.size _ N b5 m5 S5 M none 0 0 0 (HR.o.on (Zb_.drew)).czg Zl_ (Or.inl ⟨by rw [HM0.o];rfl,HM0.o⟩) (fun k _ h=>absurd h (Nat.not_lt_zero _))).mono ?_;rintro e wa ⟨b7,m7,S7,rfl,hk,hc⟩;have HCc:=Zaa hc;have hk0:Zag (fun k=>(K k\/(l9<=k/\k < u9))\/k=γ) wr wa:=(Zag.below (Zb_.drew) (fun k h=>by rcases h with h | h;exact (HR.o.prot k h).1;rw [h];exact HR.o.box.lt)).trans hk;have HBX:Hd (Box wa γ (rrF N b5 m5).toArray):=HR.o.box.kept hk0 (Or.inr rfl);have HKa:Hd (Zag K w wa):=HKP.o.trans (hk0.less fun k h=>Or.inl (Or.inl h));have HKb:Hd (Zag (fun k=>l9<=k/\k < u9) wz wa):=HKR.o.trans (hk0.less fun k h=>Or.inl (Or.inr h));have HKne:Hd (∀ k,(K k\/(l9<=k/\k < u9))->k≠γ/\k < wr.heap.size):=fun k h=>⟨(HR.o.prot k h).2.1,(HR.o.prot k h).1⟩
           have hswa:=hk0.size;clear hk hc hk0 HR HKP HKR HNR hHeld HRA HMR;have HTH:Hd (World.there wa γ 0 (rrF (Zbl N M) b7 m7).toArray.size):=HBX.o.there rfl;have HON:Hd ((rrF (Zbl N M) b7 m7).toArray.all (·.oneCell')=true):=Zb5 _ _ _;refine hK.out _ _ (fun h=>absurd (by decide) h) (fun _=>?_);clear hK
           try simp only [Act.put,sLs]
           refine oB 6 rfl (fun KC hK=>?_);refine Zcf rfl 61 (.tmp 5) (.tmp 144) rfl γ 0 (rrF (Zbl N M) b7 m7).toArray rfl rfl HTH.o (szN (Zb4 _ _ _)) HON.o ?_;refine hK.out _ _ (fun h=>absurd (by decide) h) (fun _=>?_);clear hK
           try simp only [Act.put,sLs]
           refine Zak (by kernel_rfl) ?_ _;refine NoPanic.normal ?_;generalize hW9:World.setCells _ _ _ _=wb;obtain⟨hr,ht⟩:=HCc.o.put HBX.o rfl (fun k h=>(HKne.o k h).1) hW9.symm;have HRn:=Zaa hr;have HKc:Hd (Zag K w wb):=HKa.o.trans (Zag.box ht (fun k h=>⟨by have:=(HKne.o k (Or.inl h)).2;omega,(HKne.o k (Or.inl h)).1⟩));have HKd:Hd (Zag (fun k=>l9<=k/\k < u9) wz wb):=HKb.o.trans (Zag.box ht (fun k h=>⟨by have:=(HKne.o k (Or.inr h)).2;omega,(HKne.o k (Or.inr h)).1⟩));clear hr ht hW9 HBX HKa HKb HCc HTH HON HKne;go_wp2;go_roundw
           . exact⟨i+1,b7,m7,S7,by go_num,Nat.succ_le_of_lt hlt,by rw [HNX.o];exact HRn.o,HKc.o,HKd.o⟩
           . simp [intOf];omega
         . have hii:i=LO.length:=by omega
           have dn:decide ((i:Int) < (LO.length:Int))=false:=by simp;omega
           have HF:Hd (N=tryW V5):=by unfold Hd;rw [HA.o,HNE.o,hii,List.take_length]
           clear hii;go_wp2;go_meet;exact⟨_,_,_,by rw [<- HF.o];exact HR.o.shield Zb_ (fun k h=>Or.inl (Or.inl h)),HKP.o⟩
     case rest=>
     obtain⟨bE,mE,SE,hr,hk⟩:=hcut
     rename World=>wf
     have HR7:Hd (Rz K w1.heap.size wf γ bE mE SE (Zbw U)):=by unfold Hd;rw [HE7.o];exact hr
     have hsf:=hk.size
     have HMS:Hd (Zbd wo.heap.size wf v6 (Zb7 U)):=by
      obtain⟨cI,hi⟩:=HIN.o
      exact (Zgd (HRW.o.kept hk (fun k a b=>(HKI.o k).2 (Or.inl (Or.inr ⟨a,b⟩)))) (hi.kept hk (fun k h=>(HKI.o k).2 (Or.inr h))) (fun k h=>(HES.o k h).2.2) (by rw [HL7.o];exact HLM.o) HMZ.o).at (fun k h=>by
       rcases h with h | h
       . have:=(HES.o k h).1;omega
       . omega)
     replace RB:=Zaa (RB.o.kept hk kRES.o);replace HB:Hd (Below wo.heap.size wo wf):=HB.o.trans (hk.under (n:=wo.heap.size) (fun k h=>(HKI.o k).2 (Or.inl (Or.inl (by omega)))));clear hr hk HR HK5 x11 x17 x0 m1 m2 HTW1 HTW2 HRW HIN HES;have HRA:Hd (World.rangeAt wf γ 0 (rrF (Zbw U) bE mE)):=HR7.o.box.range rfl;have HSy:Hd ((prog.info? 61).map (·.size)=some (rrF (Zbw U) bE mE).length):=by unfold Hd;exact ZaA
     have hgf:γ < wf.heap.size:=HR7.o.box.lt
     have HAT:Hd (RrC 0 wf (rrF (Zbw U) bE mE) (Zbw U)):=(HR7.o.cz.at HBZ.o.rrz).mono Zz_;clear HR7;go_wp2_with (with_reducible refine ldR (.tmp 5) γ 0 (rrF (Zbw U) bE mE) HRA.o HSy.o ?_);clear HRA HSy;refine (Zd5 0 _ (Zbw U) _ HAT.o HBZ.o.small).mono ?_;rintro e wg ⟨d0,n0,d1,n1,d2,n2,d3,n3,d4,n4,d5,n5,d6,n6,c',rfl,hb,hcp⟩;replace RB:=Zaa (RB.o.on hb);replace HB:Hd (Below wo.heap.size wo wg):=bt HB.o hb;have HCQ:=Zaa (hcp.at HBZ.o.rrz);replace HMS:=Zaa (HMS.o.below hb);have hsg:=hb.size;clear hb hcp HAT;obtain⟨zl,hzl⟩:∃ zl,zl=rrL (Zbw U) d0 n0 d1 n1 d2 n2 d3 n3 d4 n4 d5 n5 d6 n6:=⟨_,rfl⟩
     rw [<- hzl];have hz18:zl.length=18:=by rw [hzl];rfl
     have HONz:Hd (zl.toArray.all (·.oneCell')=true):=by unfold Hd;rw [hzl];exact Zcs ..
     have HZL:=Zaa hzl;clear hzl;go_wp2_with fail;refine (Zem wo.heap.size v6 (Zb7 U) _ HMS.o HMZ.o.small).mono ?_;rintro e wh ⟨v9,g9,L9,rfl,hb,hmr,hl9⟩;replace RB:=Zaa (RB.o.on hb);replace HB:Hd (Below wo.heap.size wo wh):=bt HB.o hb;have HMR:Hd (Zbd wg.heap.size wh v9 (Zb7 U)):=hmr.rms hl9 HMZ.o.z;replace HCQ:=Zaa (HCQ.o.below hb);have hsh:=hb.size;clear hb hmr hl9 HMS;have HTH:Hd (World.there wh (wo.heap.size+1) 0 zl.toArray.size):=by unfold Hd;rw [show zl.toArray.size=18 from hz18];exact RB.o.there rfl
     go_wp2_with (first
      | (with_reducible refine stR (.tmp 2) (.tmp 146) (wo.heap.size+1) 0 zl.toArray HTH.o (szN hz18) HONz.o ?_;refine Hd.o ?_))
     generalize hW:World.setCells _ _ _ _=W9;have FR9:Hd (Box W9 (wo.heap.size+1) zl.toArray):=by unfold Hd;rw [<- hW];exact RB.o.full (by rw [show zl.toArray.size=18 from hz18];rfl)
     have TT:Hd (Zad (wo.heap.size+1) ((wo.heap.size+1)+1) wh W9):=by unfold Hd;rw [<- hW];exact Zad.sets ⟨by omega,by omega⟩ _ _ _
     have HB9:Hd (Below wo.heap.size wo W9):=HB.o.trans ((TT.o.under (by have:=RB.o.lt;omega)).mono (by omega));clear hW;refine Zaa ?_;go_wp2;refine bodyPost_ret (v:=.tuple #[.agg zl.toArray,v9]) (ZcD (p:=2) (q:=3) (ty:=61) results15 _ _ (wo.heap.size+1) 0 zl _ rfl (FR9.o.range rfl) underlying61 rfl (by rw [hz18];exact ZaA)) rfl ⟨zl,v9,rfl,HB9.o,?_,?_⟩
     . rw [HV.o]
       rw [HZL.o];have hat:=(Zgr.touchUp HCQ.o TT.o (by omega)).mono (lo':=wo.heap.size) (by omega);exact⟨d0,n0,d1,n1,d2,n2,d3,n3,d4,n4,d5,n5,d6,n6,rfl,hat⟩
     . rw [HVL.o]
       exact (HMR.o.tup TT.o (by omega)).mono (by omega)
end
open Go.ChangeShapes Go.WideShapes Go.ChangeAt Go.RowKit Go.Deep
open Go.ChangeMaps (open_string shut_string)
theorem ZfA (os:Os) (started:os.Started) (H:Type) (enc:TypeId×Value->H) :
 ReturnsInHanded {} Tryz.checked os 4 .any (Rows.fnExactRecTickSpec.pre6 enc prog f4 Rows.fnExactRecTickRow.domain false) (Rows.fnExactRecTickSpec.post enc prog f4 false true false false):=by
 refine returnsInHanded_of_change (C:=Tryz.checked) Tryz.own started (by kernel_rfl) func4
  (ChangeSpec.witness6 (enc:=enc) (C:=Tryz.checked) false ⟨#[],#[.agg zR],[]⟩ 8 (by kernel_rfl) (by kernel_rfl) (by kernel_rfl) (by kernel_rfl)) ?_
 intro W base args ds gs before hval0 hW hcnd _;have hval:∀ (j:Nat) t v,f4.params[j]?=some t->args[j]?=some v->Value.okWide prog W .any base t v:=hval0
 have hW':=hW;obtain⟨p,q,hA0,hV,rfl,hfz,hnd⟩:=hW;have hA:DataW.TrodAll enc prog W 0 (fun _=>true) true f4.params.toList args.toList ds p:=hA0;rw [params4] at hA hval;obtain⟨v0,d0,rfl,rfl,h0⟩:=trodAll_one hA;obtain⟨rfl,rfl⟩:=trodVars_none hV;have h0k:=h0;clear hA0 hval0;simp only [List.append_nil] at hW';have hlt0:∀ x ∈ p,x.block < W.heap.size:=fun x hx=>by simpa using hW'.lt x (by simp [hx])
 obtain⟨cs,U,rfl,hU⟩:=Zkn (hval 0 54 v0 rfl rfl) h0;refine (Zjj cs U (ZdC U) (ZdD U) W hU (fun hn=>⟨Zgh hn hU.sizes,(ZiN hU.sizes).small,fun cs w h=>ZfD cs U w h hn⟩) (fun hn cs w h=>Zfl cs U w h hn)).mono fun e W' ⟨he,hb⟩=>?_
 subst he;have hargs0:=Below.trod Tryz.laidOut (by kernel_rfl) (of_decide_eq_true (by kernel_rfl)) h0k hb hlt0;exact⟨_,rfl,⟨_,_,_,[],_,[],hW',trodAll_mk1 (shut_bool underlying4 true),trodAll_mk1 hargs0,rfl,hb.frame _,fun h=>by cases h⟩⟩
theorem Zge:Tryz.pinned.checked.prog.funcNamed Rows.fnExactRecTickRow.func=some 4:=by kernel_rfl
theorem ZbB {a b:Bool} (ha:a=true) (hb:b=true):(a&&b)=true:=by rw [ha,hb];rfl
theorem Zjz:(Rows.fnExactRecTickRow.wf (OpenSpec.ofChange Rows.fnExactRecTickSpec))=true:=by kernel_rfl
theorem ZjA:(laidOutB Tryz.pinned.checked.prog)=true:=by kernel_rfl
theorem ZjB:(mapsRowed Tryz.pinned.checked.prog)=true:=by kernel_rfl
theorem ZjC:(f4.params.all (Tryz.pinned.checked.prog.readableRec ·))=true:=by kernel_rfl
theorem ZjD:(namedTie Tryz.pinned.checked.prog Rows.fnExactRecTickRow.named Rows.fnExactRecTickSpec.vars)=true:=by kernel_rfl
theorem ZjE:((Rows.fnExactRecTickRow.stops == []))=true:=by kernel_rfl
theorem ZjF:((Tryz.pinned.checked.prog.stops == []))=true:=by kernel_rfl
theorem ZjG:((Rows.fnExactRecTickRow.knobs == []))=true:=by kernel_rfl
theorem ZjH:((Tryz.pinned.checked.prog.stopKnobs == []))=true:=by kernel_rfl
theorem ZjI:((Rows.fnExactRecTickRow.inPlace == Tryz.pinned.checked.prog.inPlace 4))=true:=by kernel_rfl
theorem Zio:((Rows.fnExactRecTickRow.unfollowed == Tryz.pinned.checked.prog.unfollowed 4))=true:=by kernel_rfl
theorem Zip:((Rows.fnExactRecTickRow.recurses == Tryz.pinned.checked.prog.recurses 4))=true:=by kernel_rfl
theorem Ziq:((Rows.fnExactRecTickRow.named == Tryz.pinned.checked.prog.varsNamed 4))=true:=by kernel_rfl
theorem Zir:((Rows.fnExactRecTickRow.maps == (f4.params.toList ++ Rows.fnExactRecTickSpec.plain.varTypes Tryz.pinned.checked.prog).any (Tryz.pinned.checked.prog.mapsRec ·)))=true:=by kernel_rfl
theorem Zis:((Rows.fnExactRecTickRow.ifaces == (f4.params.toList ++ Rows.fnExactRecTickSpec.plain.varTypes Tryz.pinned.checked.prog).any (Tryz.pinned.checked.prog.ifacesRec ·)))=true:=by kernel_rfl
theorem Zit:((Rows.fnExactRecTickRow.mapsOut == Tryz.pinned.checked.prog.mapsAmong f4.resultTypes.toList))=true:=by kernel_rfl
theorem Ziu:((Rows.fnExactRecTickRow.loops == (f4.params.toList ++ Rows.fnExactRecTickSpec.plain.varTypes Tryz.pinned.checked.prog).any (Tryz.pinned.checked.prog.loopsFrom ·)))=true:=by kernel_rfl
theorem Ziv:((Rows.fnExactRecTickRow.wideKeys == (f4.params.toList ++ Rows.fnExactRecTickSpec.plain.varTypes Tryz.pinned.checked.prog ++ f4.resultTypes.toList).any (Tryz.pinned.checked.prog.wideKeysFrom ·)))=true:=by kernel_rfl
theorem Ziw:(Rows.fnExactRecTickSpec.vars.all (Tryz.pinned.checked.prog.varReadable ·))=true:=by kernel_rfl
theorem Zix:(f4.resultTypes.all (fun t=>Tryz.pinned.checked.prog.readableRec t&&decide (t < Tryz.pinned.checked.prog.types.size)))=true:=by kernel_rfl
theorem Ziy:((Rows.fnExactRecTickRow.ifacesOut == f4.resultTypes.toList.any (Tryz.pinned.checked.prog.ifacesRec ·)))=true:=by kernel_rfl
theorem Ziz:((Rows.fnExactRecTickRow.loopsOut == f4.resultTypes.toList.any (Tryz.pinned.checked.prog.loopsFrom ·)))=true:=by kernel_rfl
theorem ZiA:((Rows.fnExactRecTickRow.plainKeys == Tryz.pinned.checked.prog.plainKeys))=true:=by kernel_rfl
theorem ZiB:(Rows.fnExactRecTickRow.shortTexts.isNone)=true:=by kernel_rfl
theorem ZiC:(Tryz.pinned.checked.prog.stopsHeard)=true:=by kernel_rfl
theorem ZiD:(Tryz.pinned.checked.prog.mayEnter)=true:=by kernel_rfl
theorem ZiE:((Rows.fnExactRecTickRow.lifted == Tryz.pinned.checked.prog.liftsFinal))=true:=by kernel_rfl
theorem ZiF:((Tryz.pinned.checked.prog.make == some Rows.fnExactRecTickRow.make))=true:=by kernel_rfl
theorem ZiG:((Rows.fnExactRecTickRow.kinds == (if Rows.fnExactRecTickRow.domain.isEmpty then [] else f4.params.toList.map fun t=>match Tryz.pinned.checked.prog.underlying t with | some (.int k)=>some k | _=>none)))=true:=by kernel_rfl
theorem ZiH:((Rows.fnExactRecTickRow.pinned == Rows.fnExactRecTickRow.pinnedBy))=true:=by kernel_rfl
theorem ZiI:((Rows.fnExactRecTickRow.veiled == (f4.params.toList ++ Rows.fnExactRecTickSpec.plain.varTypes Tryz.pinned.checked.prog ++ f4.resultTypes.toList).any (Tryz.pinned.checked.prog.veiledRec ·)))=true:=by kernel_rfl
theorem ZiJ:(Rows.fnExactRecTickRow.veiledFits Tryz.pinned.checked.prog f4.params.toList (f4.params.toList ++ Rows.fnExactRecTickSpec.plain.varTypes Tryz.pinned.checked.prog ++ f4.resultTypes.toList))=true:=by kernel_rfl
theorem Zfz:joinedFacts Tryz.pinned.checked.prog 4 f4 Rows.fnExactRecTickSpec Rows.fnExactRecTickRow=true:=ZbB (ZbB (ZbB (ZbB (ZbB (ZbB (ZbB (ZbB (ZbB (ZbB (ZbB (ZbB (ZbB (ZbB (ZbB (ZbB (ZbB (ZbB (ZbB (ZbB (ZbB (ZbB (ZbB (ZbB (ZbB (ZbB (ZbB (ZbB (ZbB (ZbB (ZbB Zjz ZjA) ZjB) ZjC) ZjD) ZjE) ZjF) ZjG) ZjH) ZjI) Zio) Zip) Ziq) Zir) Zis) Zit) Ziu) Ziv) Ziw) Zix) Ziy) Ziz) ZiA) ZiB) ZiC) ZiD) ZiE) ZiF) ZiG) ZiH) ZiI) ZiJ
theorem Zhm:f4.isInstance Tryz.pinned.checked.prog Rows.fnExactRecTickRow.origin Rows.fnExactRecTickRow.targs:=of_decide_eq_true (by kernel_rfl)
theorem Zhn:f4.isWrapper Tryz.pinned.checked.prog Rows.fnExactRecTickRow.wrapper Rows.fnExactRecTickRow.mainSum:=by unfold Func.isWrapper;first|(rw [if_pos (by decide +kernel)];kernel_rfl)|(rw [if_neg (by decide +kernel)];exact⟨rfl,rfl⟩)
theorem rtick_holds:Rows.FnExactRecTickSaid:=
 OpenClaim.holds_of_wide 4 f4 rfl rfl rfl rfl rfl rfl rfl ⟨rfl,rfl,rfl,rfl,rfl⟩ rfl rfl rfl rfl rfl Zge func4 Zfz Zhm Zhn
  (fun os started H enc _=>ZfA os started H enc)
end Go.Proofs.YtdeammfdkaomlaaGreat
