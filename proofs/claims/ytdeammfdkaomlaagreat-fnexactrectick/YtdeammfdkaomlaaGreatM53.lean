import Derived.Test.YtdeammfdkaomlaaGreatM51
set_option maxHeartbeats 16000000
set_option maxRecDepth 100000
open Go.Proofs.Tryz
namespace Go.Proofs.YtdeammfdkaomlaaGreat
open Go.RowKit Go.Deep
variable {lo γ ρ τ k:Nat} {L:List MX} {U V:Rr} {w4 wr:World}
theorem ZkT {KT:Nat->Prop}{w w':World}{E:Nat->Prop}{v:Value} (kt:KT τ) (kr:KT ρ) (hrt:ρ≠τ) (tb:Box w' τ (tkC γ ρ v)) (wk:Wk (fun k=>KT k\/E k) lo w' γ ρ U) (hn:NGS PM mxL 8 w' E v L) (hk:Zag (fun k=>KT k/\k≠τ) w w') (he:∀ k,E k->¬ KT k/\lo<=k):∃ E' l u,Tik KT lo w w' γ ρ τ E' l u v L U:=by
 have hlow:lo<=w'.heap.size:=by obtain⟨b,m,S,hR⟩:=wk.wz;exact hR.low
 rcases hn with ⟨rfl,rfl⟩ | ⟨g,c,hg,⟨g',cap,rfl,hf⟩,hi⟩
 . refine⟨E,w'.heap.size,w'.heap.size,tb,wk.less (fun k hk=>hk.elim (fun h=>h) (fun h=>by omega)) (Or.inl (Or.inl kr)),Zay.nil _ _ _ _ _,Nat.le_refl _,⟨fun _=>(0,0),fun i hi=>absurd hi (Nat.not_lt_zero _),fun i hi=>absurd hi (Nat.not_lt_zero _),fun i j hi=>absurd hi (Nat.not_lt_zero _),fun i hi=>absurd hi (Nat.not_lt_zero _)⟩,fun k hk=>⟨by omega,fun e=>(he k hk).1 (e ▸ kt)⟩,kr,hrt,fun k hk=>by omega,hlow,fun k hk=>(he k hk).2,hk⟩
 . obtain rfl:g'=g:=by have:=hf.bs;have:=hf.up;omega
   have hgs:g' < w'.heap.size:=hf.lt
   refine⟨fun k=>E k/\k≠g',g',g'+1,tb,wk.less (fun k hk=>?_) (Or.inl (Or.inl kr)),Or.inr ⟨g',cap,rfl,hf⟩,hgs,⟨c,fun i h=>⟨(hi.seg i h).1,fun k a b=>⟨(hi.seg i h).2.1 k a b,by have:=(hi.seg i h).2.2;omega⟩⟩,hi.one,hi.ap,hi.inn⟩,fun k hk=>⟨by have:=hk.2;omega,fun e=>(he k hk.1).1 (e ▸ kt)⟩,kr,hrt,fun k hk q=>(he g' hg).1 (by rw [show g'=k by omega];exact hk),(he g' hg).2,fun k hk=>(he k hk.1).2,hk⟩
   rcases hk with (h | h) | h
   . exact Or.inl h
   . exact Or.inr h.1
   . exact Or.inr (by rw [show k=g' by omega];exact hg)
theorem Zjk (h:Tv V):(leadT V).ld=V.ld:=by
 unfold leadT;obtain⟨_,kn,AC,e⟩:=ZbK (h.ak.up (d:=800) (by decide)) V.sf.sl.length (by have:=h.sf;omega);have hd:(ZbW V V.sf.sl.length).dk.sl.length<=120:=by rw [e];exact h.dk
 obtain⟨T,e2,-⟩:=Zcb hd (ZbW V V.sf.sl.length).wi.length Zl_;rw [e2,e]
theorem Zjl (h:Tv V):(leadT V).of=V.of/\(leadT V).nu=V.nu:=by
 unfold leadT;obtain⟨_,kn,AC,e⟩:=ZbK (h.ak.up (d:=800) (by decide)) V.sf.sl.length (by have:=h.sf;omega);have hd:(ZbW V V.sf.sl.length).dk.sl.length<=120:=by rw [e];exact h.dk
 obtain⟨T,e2,-⟩:=Zcb hd (ZbW V V.sf.sl.length).wi.length Zl_;rw [e2,e];exact⟨rfl,rfl⟩
theorem Zky (h:Tv (Zbp U)):tryW (if (Zbp U).ld=true then leadT (Zbp U) else Zbp U)=Zbw U:=by
 unfold Zbw
 split
 . rename_i hl
   unfold tryW;rw [Zjk h,hl]
   rfl
 . rfl
def stU (U:Rr):Nat->Rr
 | 0=>U
 | 1=>Zev U
 | 2=>{ Zev U with he:=[] }
 | 3=>Zg6 { Zev U with he:=[] }
 | 4=>Zgy (Zg6 { Zev U with he:=[] })
 | 5=>Zbp U
 | 6=>if (Zbp U).ld=true then leadT (Zbp U) else Zbp U
 | _=>Zbw U
def stL (U:Rr) (k:Nat):List Rm:=if k<=5 then U.he else Zb7 U
theorem ZjM (h:L.map (·.1)=stL U 5):(L ++ (if (stU U 5).ld=true then Zcj (leadT (stU U 5)) else []).map mx0).map (·.1)=stL U 6:=by
 rw [List.map_append,h]
 show U.he ++ _=Zb7 U
 unfold Zb7
 congr 1
 rw [List.map_map];exact List.map_id _
def ZdI (KT:Nat->Prop) (lo:Nat) (w4:World) (γ ρ τ:Nat) (U:Rr) (k:Nat) (wr:World):Prop:=
 (k < 2/\Wk KT lo wr γ ρ (stU U k)/\Box wr τ (tkC γ ρ (.slice none 0 0))/\Zag (fun k=>KT k/\k≠τ) w4 wr)\/
 (2<=k/\∃ E l u v L,Tik KT lo w4 wr γ ρ τ E l u v L (stU U k)/\L.map (·.1)=stL U k)
theorem ZdI.kp {KT:Nat->Prop} (h:ZdI KT lo w4 γ ρ τ U k wr):Zag (fun k=>KT k/\k≠τ) w4 wr:=by
 rcases h with ⟨_,_,_,h⟩ | ⟨_,E,l,u,v,L,h,_⟩
 . exact h
 . exact h.kp
theorem ZdI.late {KT:Nat->Prop} (h:ZdI KT lo w4 γ ρ τ U k wr) (hk:2<=k):∃ E l u v L,Tik KT lo w4 wr γ ρ τ E l u v L (stU U k)/\L.map (·.1)=stL U k:=by
 rcases h with ⟨h,_⟩ | ⟨_,h⟩
 . omega
 . exact h
theorem ZdI.early {KT:Nat->Prop} (h:ZdI KT lo w4 γ ρ τ U k wr) (hk:k < 2):Wk KT lo wr γ ρ (stU U k)/\Box wr τ (tkC γ ρ (.slice none 0 0))/\Zag (fun k=>KT k/\k≠τ) w4 wr:=by
 rcases h with ⟨_,h⟩ | ⟨h,_⟩
 . exact h
 . omega
theorem Zgc (K:Nat->Prop) (lo:Nat) (w:World) (γ:Nat) (U:Rr) (h:Wz K lo w γ U) (hv:ZaM U=true) (hz:RrZ U) :
 Calls prog 72 #[.pointer (some ⟨γ,0,none⟩)] w fun e w'=>∃ v' E l u L c,e=.returned v'/\Zag K w w'/\Wz (fun k=>(K k\/E k)\/(l<=k/\k < u)) lo w' γ (Zbw U)/\Zay mxL 8 w' l u v' L/\u<=w'.heap.size/\InE E w' L c/\L.map (·.1)=Zb7 U/\(∀ k,E k->¬ (l<=k/\k < u)/\lo<=k)/\lo<=l:=by
 have H:=Zaa h;obtain⟨hv0,hya,hd0,hd1,hnof⟩:=ZdY hv hz;have HV:Hd (Tv U):=hv0;have HV5:Hd (Tv (Zbp U)):=ZeY hv hz;have HV2:Hd (Tv (stU U 2)):=hv0.safe.held;have HV4:Hd (Tv (stU U 4)):=((hv0.safe.held).wish _).hd _;have hye:(stU U 4).ye.length<=5:=(Zdi hv).ye
 have h6o:(stU U 6).of=(Zbp U).of/\(stU U 6).nu=(Zbp U).nu:=by
  show (if (Zbp U).ld=true then leadT (Zbp U) else Zbp U).of=_/\(if (Zbp U).ld=true then leadT (Zbp U) else Zbp U).nu=_
  split
  . exact Zjl HV5.o
  . exact⟨rfl,rfl⟩
 have h60:0<=(stU U 6).of:=by rw [h6o.1];have:=HV5.o.of1;omega
 have h65:(stU U 6).of<=5:=by rw [h6o.1];exact HV5.o.of5
 have h6n:0<=(stU U 6).nu:=by rw [h6o.2];have:=HV5.o.nu1;omega
 have h6m:(stU U 6).nu<=5:=by rw [h6o.2];exact HV5.o.nu5
 clear h hv hz hv0 hnof h6o;go_enter func72,ntmps72;go_wp2_with fail;refine (Zhu γ _).mono ?_;rintro e w1 ⟨rfl,hb1,rb1⟩;have HB1:=Zaa hb1;have RB1:=Zaa rb1;have hs1:w.heap.size < w1.heap.size:=rb1.lt
 clear hb1 rb1
 go_upto_region 2 with fail
 obtain⟨ρ,hρ⟩:∃ ρ,ρ=w.heap.size:=⟨_,rfl⟩
 obtain⟨τ,hτ⟩:∃ τ,τ=w1.heap.size:=⟨_,rfl⟩
 obtain⟨w2,hw2,HB2,TB2⟩:∃ w2,w2=w1.alloc (.cells #[.pointer (some ⟨γ,0,none⟩),.func (.func 177) #[] #[.pointer (some ⟨w.heap.size,0,none⟩)],.slice none 0 0] 193)/\Hd (Zw_ w w2)/\Hd (Box w2 w1.heap.size (tkC γ w.heap.size (.slice none 0 0))):=⟨_,rfl,bt HB1.o (Zab _ _),Box.new _ _ _ _ rfl⟩
 rw [<- hw2];have RB2:Hd (Box w2 w.heap.size #[.pointer (some ⟨γ,0,none⟩)]):=by unfold Hd;rw [hw2];exact RB1.o.on (Zab _ _)
 clear hw2 RB1 HB1
 go_upto_region 3 with (go_at_call 153;refine (Zhl _ _).mono ?_;rintro e w4 ⟨rfl,hb,pb⟩;have HB4:=Zaa (bt HB2.o hb);have PB4:=Zaa pb;have TB4:=Zaa (TB2.o.on hb);have RB4:=Zaa (RB2.o.on hb);have hs2:=TB2.o.lt;have hs4:=pb.lt;clear hb pb)
 rw [<- hτ] at hs1 hs2 TB4 PB4 |-;rw [<- hρ] at hs1 TB4 RB4;obtain⟨π,hπ⟩:∃ π,π=w2.heap.size:=⟨_,rfl⟩
 rw [<- hπ] at hs2 hs4 PB4 |-;have hτρ:τ≠ρ:=by omega
 have hρτ:ρ≠τ:=by omega
 have hπτ:π≠τ:=by omega
 obtain⟨KT,hKT⟩:∃ KT:Nat->Prop,KT=fun k=>K k\/(w.heap.size<=k/\k < w4.heap.size):=⟨_,rfl⟩
 have kt:KT τ:=by rw [hKT];exact Or.inr ⟨by omega,by omega⟩
 have kr:KT ρ:=by rw [hKT];exact Or.inr ⟨by omega,by omega⟩
 have kp:KT π:=by rw [hKT];exact Or.inr ⟨by omega,by omega⟩
 have HKT:=Zaa hKT;have HW4:Hd (Wk KT lo w4 γ ρ U):=⟨H.o.shield HB4.o (fun k hk=>by rw [hKT] at hk;exact hk),kr,RB4.o⟩;have HS:Hd (ZdI KT lo w4 γ ρ τ U 0 w4):=Or.inl ⟨by decide,HW4.o,TB4.o,Zag.refl _ _⟩;have HRHO:=Zaa hρ;clear hρ hτ hπ hKT TB2 RB2 HW4
 go_loopw [13] (fun q wr=>∃ k:Nat,q=.int .i64 k/\k<=7/\ZdI KT lo w4 γ ρ τ U k wr) (fun q _=>7 - (intOf q).toNat)
 case atStart=>exact⟨0,rfl,by omega,HS.o⟩
 case round=>
  clear HS;obtain⟨k,rfl,hk,hS⟩:=hrel;have HS:=Zaa hS;have PB:=Zaa (PB4.o.kept hS.kp ⟨kp,hπτ⟩);clear hS
  by_cases hlt:k < 7
  . have hcs:k=0\/k=1\/k=2\/k=3\/k=4\/k=5\/k=6:=by omega
    rcases hcs with rfl | rfl | rfl | rfl | rfl | rfl | rfl
    . have xp:wr.cell? ⟨π,0,none⟩=some (.func (.func 178) #[.pointer (some ⟨τ,0,none⟩)] #[]):=PB.o.cell 0
      have HE:=Zaa (HS.o.early (by decide));go_wp2_with fail;clear xp;refine (ZiK KT lo wr γ ρ τ _ _ HE.o.1 HE.o.2.1 HV.o.z.rrz (Nat.le_trans HV.o.dk (by decide))).mono ?_;rintro e w8 ⟨rfl,hk2,hw2⟩;go_wp2;go_roundw
      . 
       exact⟨1,by go_num,by omega,Or.inl ⟨by omega,hw2,HE.o.2.1.kept hk2 kt,HE.o.2.2.trans (hk2.less fun k h=>h.1)⟩⟩
      . simp [intOf]
    . have xp:wr.cell? ⟨π,1,none⟩=some (.func (.func 179) #[.pointer (some ⟨τ,0,none⟩)] #[]):=PB.o.cell 1
      have HE:=Zaa (HS.o.early (by decide));go_wp2_with fail;clear xp;refine (ZhY KT lo wr γ ρ τ _ _ HE.o.1 kt hτρ HE.o.2.1 ⟨none,0,0,rfl⟩).mono ?_;rintro e w8 ⟨rfl,v2,E2,tb2,wk2,⟨L2,hn2,hL2⟩,hk2,he2⟩;go_wp2;go_roundw
      . 
       obtain⟨E',l',u',ht'⟩:=ZkT (w:=wr) kt kr hρτ tb2 wk2 hn2 hk2 he2;exact⟨2,by go_num,by omega,Or.inr ⟨by omega,E',l',u',v2,L2,{ ht' with kp:=HE.o.2.2.trans hk2 },hL2⟩⟩
      . simp [intOf]
    . have xp:wr.cell? ⟨π,2,none⟩=some (.func (.func 180) #[.pointer (some ⟨τ,0,none⟩)] #[]):=PB.o.cell 2
      obtain⟨E,l,u,v,L,ht,hl⟩:=HS.o.late (by decide);have HT:=Zaa ht;have HL:=Zaa hl;clear ht hl;go_wp2_with fail;clear xp;refine (ZhS _ lo wr γ ρ τ _ v HT.o.wk HT.o.tb (Or.inl (Or.inl kt)) HV2.o.z.rrz HV2.o.ak.k0 HV2.o.kn1).mono ?_;rintro e w8 ⟨rfl,hk2,hw2⟩;go_wp2;go_roundw
      . 
       exact⟨3,by go_num,by omega,Or.inr ⟨by omega,E,l,u,v,L,HT.o.step kt hk2 (by rw [HV2.o.drop] at hw2;exact hw2),HL.o⟩⟩
      . simp [intOf]
    . have xp:wr.cell? ⟨π,3,none⟩=some (.func (.func 181) #[.pointer (some ⟨τ,0,none⟩)] #[]):=PB.o.cell 3
      obtain⟨E,l,u,v,L,ht,hl⟩:=HS.o.late (by decide);have HT:=Zaa ht;have HL:=Zaa hl;clear ht hl;go_wp2_with fail;clear xp;refine (Zg3 _ lo wr γ ρ τ _ v HT.o.wk HT.o.tb hd0 hd1).mono ?_;rintro e w8 ⟨rfl,hk2,hw2⟩;go_wp2;go_roundw
      . 
       exact⟨4,by go_num,by omega,Or.inr ⟨by omega,E,l,u,v,L,HT.o.step kt hk2 hw2,HL.o⟩⟩
      . simp [intOf]
    . have xp:wr.cell? ⟨π,4,none⟩=some (.func (.func 182) #[.pointer (some ⟨τ,0,none⟩)] #[]):=PB.o.cell 4
      obtain⟨E,l,u,v,L,ht,hl⟩:=HS.o.late (by decide);have HT:=Zaa ht;have HL:=Zaa hl;clear ht hl;go_wp2_with fail;clear xp;refine (ZiL _ lo wr γ ρ τ _ v (stU U 4).dk.kn.toNat HT.o.wk HT.o.tb HV4.o.z.rrz (by have:=HV4.o.ak.k0;omega) (by have:=HV4.o.ak.k0;have:=HV4.o.ak.k1;omega) (by have:=HV4.o.dk;omega) (Nat.le_trans hye (by decide)) hya (by have:=HV4.o.be;omega)).mono ?_;rintro e w8 ⟨rfl,hk2,hw2⟩;go_wp2;go_roundw
      . 
       exact⟨5,by go_num,by omega,Or.inr ⟨by omega,E,l,u,v,L,HT.o.step kt hk2 hw2,HL.o⟩⟩
      . simp [intOf]
    . have xp:wr.cell? ⟨π,5,none⟩=some (.func (.func 183) #[.pointer (some ⟨τ,0,none⟩)] #[]):=PB.o.cell 5
      obtain⟨E,l,u,v,L,ht,hl⟩:=HS.o.late (by decide);have HT:=Zaa ht;have HL:=Zaa hl;clear ht hl;go_wp2_with fail;clear xp;refine (Zhh KT lo w4 wr γ ρ τ E l u v L _ HT.o kt HV5.o (by have h1:=congrArg List.length HL.o;rw [List.length_map] at h1;have h2:(stL U 5).length<=400:=HV.o.he;omega)).mono ?_;rintro e w8 ⟨rfl,l2,u2,v2,ht2⟩;go_wp2;go_roundw
      . 
       exact⟨6,by go_num,by omega,Or.inr ⟨by omega,E,l2,u2,v2,_,ht2,ZjM HL.o⟩⟩
      . simp [intOf]
    . have xp:wr.cell? ⟨π,6,none⟩=some (.func (.func 184) #[.pointer (some ⟨τ,0,none⟩)] #[]):=PB.o.cell 6
      obtain⟨E,l,u,v,L,ht,hl⟩:=HS.o.late (by decide);have HT:=Zaa ht;have HL:=Zaa hl;clear ht hl;go_wp2_with fail;clear xp;refine (ZjP _ lo wr γ ρ τ _ v HT.o.wk HT.o.tb (Or.inl (Or.inl kt)) h60 h65 h6n h6m (ZkL _ _ _)).mono ?_;rintro e w8 ⟨rfl,hk2,hw2⟩;go_wp2;go_roundw
      . 
       have hte:=Zky (HV5.o);exact⟨7,by go_num,by omega,Or.inr ⟨by omega,E,l,u,v,L,HT.o.step kt hk2 (by rw [show stU U 6=if (Zbp U).ld=true then leadT (Zbp U) else Zbp U from rfl,hte] at hw2;exact hw2),HL.o⟩⟩
      . simp [intOf]
  . obtain rfl:k=7:=by omega
    obtain⟨E,l,u,v,L,ht,hl⟩:=HS.o.late (by decide);have HT:=Zaa ht;have HL:=Zaa hl;obtain⟨c,hc⟩:=ht.inn;have HC:=Zaa hc;have x2:wr.cell? ⟨τ,2,none⟩=some v:=ht.tb.cell 2;clear ht hl hc;go_wp2;go_ret;refine⟨v,E,l,u,L,c,rfl,?_,HT.o.wk.wz.less fun k hk=>?_,HT.o.row,HT.o.uw,HC.o,HL.o,fun k hk=>⟨(HT.o.eu k hk).1,HT.o.el k hk⟩,HT.o.lb⟩
    . have hks:∀ k,K k->KT k/\k≠τ:=fun k hk=>⟨by rw [HKT.o];exact Or.inl hk,by have:=H.o.kw k hk;have:=HRHO.o;omega⟩
      exact (Zag.below HB4.o (fun k hk=>H.o.kw k hk)).trans (HT.o.kp.less hks)
    . exact hk.imp (fun h=>h.imp (fun h=>by rw [HKT.o];exact Or.inl h) (fun h=>h)) (fun h=>h)
end Go.Proofs.YtdeammfdkaomlaaGreat
