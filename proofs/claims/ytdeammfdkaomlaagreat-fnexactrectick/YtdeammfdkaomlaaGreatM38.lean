import Derived.Test.YtdeammfdkaomlaaGreatM34
set_option maxHeartbeats 16000000
set_option maxRecDepth 100000
open Go.Proofs.Tryz
namespace Go.Proofs.YtdeammfdkaomlaaGreat
open Go.RowKit Go.Deep
theorem Zi8 (K:Nat->Prop) (lo:Nat) (w:World) (U:Rr) (b:Nat->Option Addr) (m:Nat->Nat) (S:Nat->Nat->Prop) (ix n:Int) (h:Cz K lo w b m S U) (hx1:1<=ix) (hx2:ix<=1000) (h0:0<=U.dk.kn) (h1:U.dk.kn<=1000) (ha:∀ i (h:i < U.ac.length),1<=U.ac[i].ix/\U.ac[i].ix<=1000) (hl:U.ac.length<=100000) (hf:∀ i (h:i < U.ac.length),U.ac[i].fr.length<=100000) (hsl:U.dk.sl.length<=1048576) :
 Calls prog 131 #[.agg (rrF U b m).toArray,.int .i64 ix,.int .i64 n] w fun e w'=>∃ b' m' S',e=.returned (.agg (rrF (ZcR U ix n) b' m').toArray)/\Zag K w w'/\Cz K lo w' b' m' S' (ZcR U ix n):=by
 have HC:=Zaa h;have HKw:Hd (∀ k,K k->k < w.heap.size):=fun k hk=>(h.prot k hk).1
 obtain⟨cs,hcs⟩:∃ cs,cs=rrF U b m:=⟨_,rfl⟩
 rw [<- hcs];have HCS:=Zaa hcs;clear hcs h;go_enter func131,ntmps131
 go_upto_region 1 with fail
 obtain⟨wz,hwz,FB,RB,HB⟩:∃ wz,wz=(w.alloc (.cells cs.toArray 61)).alloc (.cells zR 61)/\Hd (Box wz w.heap.size (rrF U b m).toArray)/\Hd (Box wz (w.heap.size+1) zR)/\Hd (Zw_ w wz):=⟨_,rfl,by unfold Hd;rw [<- HCS.o];exact ((Box.new w _ _ _ rfl).on (Zab _ _)),Box.new _ _ _ _ (by simp),(bt (Zab _ _) (Zab _ _))⟩
 rw [<- hwz];clear hwz;have hwn:w.heap.size+2<=wz.heap.size:=by have:=RB.o.lt;omega
 have HR:Hd (Rz (fun k=>K k\/(w.heap.size+1<=k/\k < w.heap.size+2)) lo wz w.heap.size b m S U):=HC.o.rz HB.o FB.o Zl_ (fun k hk=>hk.imp (fun h=>h) (fun h=>⟨by omega,by omega,by omega⟩));have HKP:Hd (Zag K w wz):=Zag.below HB.o HKw.o;clear FB HB;have HAI:=Zaa ha;have HFL:=Zaa hf;clear ha hf;obtain⟨L6,hng,hmap⟩:=HR.o.cp.o6;have hl6:L6.length=U.ac.length:=by rw [<- hmap,List.length_map]
 have HNG:=Zaa hng;have HMP:=Zaa hmap
 have hget:∀ k (hk:k < U.ac.length) (hk':k < L6.length),L6[k].1=U.ac[k]:=fun k hk hk'=>by
  have:=congrArg (fun l=>l[k]?) hmap;simp only [List.getElem?_map,List.getElem?_eq_getElem hk',List.getElem?_eq_getElem hk,Option.map_some,Option.some.injEq] at this;exact this
 have HGT:=Zaa hget
 have hcx:∀ k (hk:k < U.ac.length),∃ g,b 6=some ⟨g,0,none⟩/\wz.cell? ⟨g,k*2,none⟩=some (.int .i64 U.ac[k].ix):=fun k hk=>by
  rcases hng with ⟨_,e⟩ | ⟨g,c,hg,⟨g',cp,e1,e2⟩,hI⟩
  . rw [e] at hl6;simp at hl6;omega
  . injection e1 with e1 e3 e4
    refine⟨g',e1,?_⟩;have:=e2.get Zar (i:=k) (by omega) (t:=0) (by omega) (v:=.int .i64 (L6[k]'(by omega)).1.ix) rfl;rw [hget k hk (by omega)] at this;exact this
 have HCX:=Zaa hcx
 have HVU:Hd (∀ a ∈ U.ac,1<=a.ix/\a.ix<=1000/\a.fr.length<=100000):=fun a ha=>by
  obtain⟨i,hi,rfl⟩:=List.getElem_of_mem ha;exact⟨(HAI.o i hi).1,(HAI.o i hi).2,HFL.o i hi⟩
 clear hng hmap hget hcx;have x16:wz.cell? ⟨w.heap.size,16,none⟩=some (.slice (b 6) U.ac.length (m 6)):=HR.o.box.cell 16
 go_upto_region 2 with fail
 go_loop [7] (fun iv=>∃ k:Nat,iv=.int .i64 k/\k<=U.ac.length/\∀ j (hj:j < U.ac.length),j < k->U.ac[j].ix < ix) (fun iv=>U.ac.length - (intOf iv).toNat)
 case atStart=>exact⟨0,rfl,by omega,fun j _ h=>by omega⟩
 case round=>
  obtain⟨k,rfl,hk,hall⟩:=hrel;have HAL:=Zaa hall;clear hall
  by_cases hlt:k < U.ac.length
  . obtain⟨g6,hb6,hc0⟩:=HCX.o k hlt
    obtain⟨y,hy⟩:∃ y,y=U.ac[k].ix:=⟨_,rfl⟩
    rw [<- hy] at hc0;have HY:=Zaa hy;have HB6:=Zaa hb6;have i0:(0:Int)<=(k:Int):=by omega
    have i1:(k:Int) < (U.ac.length:Int):=by omega
    rw [hb6] at x16;clear hy hb6
    cases q:decide (y < ix) with
    | true=>
     have HQ:=Zaa (of_decide_eq_true q);go_wp2
     go_round
     case rel=>exact⟨k+1,by go_num,by omega,fun j hj hjk=>by
                by_cases e:j=k
                . subst e;rw [<- HY.o];exact HQ.o
                . exact HAL.o j hj (by omega)⟩
     . simp [intOf];omega
    | false=>
     have HP:Hd (Zch U.ac ix=k):=Zf9 (by omega) HAL.o (fun h=>by rw [<- HY.o];exact of_decide_eq_false q)
     cases q2:(y == ix) with
     | true=>
      have HI:Hd (Zcg U.ac ix=U.ac):=by unfold Hd Zcg;rw [HP.o,List.getElem?_eq_getElem hlt,Option.map_some,<- HY.o,eq_of_beq q2,if_pos rfl]
      have HE:Hd (ZcR U ix n=Zcv { U with ac:=Zd1 U.ac k n }):=by unfold Hd ZcR;rw [HI.o,HP.o]
      have d5:((k:Int) == (U.ac.length:Int))=false:=by simp;omega
      have d6:(y != ix)=false:=by simp [bne,q2]
      go_upto_region 6 with fail
      clear x16 hc0 q q2 d5 d6 i0 i1;have hkV:k < U.ac.length:=hlt
      have HVA:Hd (∀ a ∈ U.ac,1<=a.ix/\a.ix<=1000/\a.fr.length<=100000):=HVU;clear HI HP HY HB6 HAL HVU HCX HGT HMP HNG hlt hk;have hγW:w.heap.size < wz.heap.size:=HR.o.box.lt
      obtain⟨gk,ak,ck,hb6,hck,hfk,hgk,hgγ,hgK,hris,hput⟩:=HR.o.ack6 (k:=k) hkV;obtain⟨F,hF⟩:∃ F,F=(U).ac[k].fr:=⟨_,rfl⟩
      rw [<- hF] at hck hris hput;obtain⟨c6,hc6⟩:∃ c6,c6=m 6:=⟨_,rfl⟩
      obtain⟨vl,hvl⟩:∃ vl,vl=(U).ac.length:=⟨_,rfl⟩
      have x16:wz.cell? ⟨w.heap.size,16,none⟩=some (.slice (some ⟨gk,0,none⟩) vl c6):=by rw [<- hb6,hc6,hvl];exact HR.o.box.cell 16
      have hFl:F.length<=100000:=by rw [hF];exact (HVA.o _ (List.getElem_mem hkV)).2.2
      have i0:(0:Int)<=(k:Int):=by omega
      have i1:(k:Int) < (vl:Int):=by omega
      have HPUT:=Zaa hput;have HRIS:=Zaa hris;have HF:=Zaa hF;have HGK:=Zaa hgK;have HVL:=Zaa hvl;clear hput hris hF hgK hb6 hc6 hvl;refine Code.wp_mono NoPanic.imp ?_;refine Zan (S:=fun W_=>W_.cell? ⟨w.heap.size,16,none⟩=some (.slice (some ⟨gk,0,none⟩) vl c6)/\W_.cell? ⟨gk,k*2+1,none⟩=some (.slice ak F.length ck)) [13] (by kernel_rfl) ⟨x16,hck⟩ (fun hHeld=>?_);refine tB 0 (.pointer (some ⟨w.heap.size,16,none⟩)) [1,11,12,13] rfl hHeld ?_
      try simp only [Act.put,sLs]
      refine tB 1 (.slice (some ⟨gk,0,none⟩) vl c6) [11,12,13] rfl hHeld ?_
      try simp only [Act.put,sLs]
      refine tB 2 (.int .i64 (k:Int)) [11,12,13] rfl hHeld ?_
      try simp only [Act.put,sLs]
      refine tB 3 (.pointer (some ⟨w.heap.size,16,none⟩)) [4,6,7,8,10,11,12,13] rfl hHeld ?_
      try simp only [Act.put,sLs]
      refine tB 4 (.slice (some ⟨gk,0,none⟩) vl c6) [6,7,8,10,11,12,13] rfl hHeld ?_
      try simp only [Act.put,sLs]
      refine tB 5 (.int .i64 (k:Int)) [6,7,8,10,11,12,13] rfl hHeld ?_
      try simp only [Act.put,sLs]
      refine tB 6 (.pointer (some ⟨gk,k*2,none⟩)) [7,8,10,11,12,13] rfl hHeld ?_
      try simp only [Act.put,sLs]
      refine tB 7 (.pointer (some ⟨gk,k*2+1,none⟩)) [8,10,11,12,13] rfl hHeld ?_
      try simp only [Act.put,sLs]
      refine tB 8 (.slice ak F.length ck) [10,11,12,13] rfl hHeld ?_
      try simp only [Act.put,sLs]
      refine tB 9 (.int .i64 n) [10,11,12,13] rfl hHeld ?_
      try simp only [Act.put,sLs]
      refine oB 10 rfl (fun KC hK=>?_)
      go_simp
      refine (ZdT lo _ F n _ (HRIS.o.below (Zb_.drew)) (by omega)).mono ?_;rintro e w1 ⟨v1,rfl,hb1,hrow⟩;have hb0:Below wz.heap.size wz w1:=(Zb_.drew).trans hb1
      obtain⟨a7,l7,c7,rfl⟩:∃ a l c,v1=.slice a l c:=by
       rcases hrow with ⟨e,_⟩ | ⟨_,_,e,_⟩
       . exact⟨_,_,_,e⟩
       . exact⟨_,_,_,e⟩
      obtain⟨Sx,hr,hkk⟩:=HPUT.o w1 (.slice a7 l7 c7) (ZbD F n) hb0 hrow;have HRn:=Zaa hr;have HKK:=Zaa hkk;have s16:w1.cell? ⟨w.heap.size,16,none⟩=some (.slice (some ⟨gk,0,none⟩) vl c6):=by rw [hb0.cell hγW];exact x16
      have s1:w1.cell? ⟨gk,k*2+1,none⟩=some (.slice ak F.length ck):=by rw [hb0.cell hgk];exact hck
      have s2:w1.frozen? ⟨gk,k*2+1,none⟩=false:=by rw [hb0.frozen hgk];exact hfk
      clear hb1 hrow hb0 hr hkk hHeld;refine hK.out _ _ (fun _=>⟨s16,s1⟩) (fun hHeld=>?_);replace hHeld:=hHeld (by decide);clear hK x16 hck hfk s16
      try simp only [Act.put,sLs]
      refine tB 11 (.pointer (some ⟨gk,k*2,none⟩)) [12,13] rfl hHeld ?_
      try simp only [Act.put,sLs]
      refine tB 12 (.pointer (some ⟨gk,k*2+1,none⟩)) [13] rfl hHeld ?_
      try simp only [Act.put,sLs]
      refine oB 13 rfl (fun KC hK=>?_)
      go_simp
      refine hK.out _ _ (fun h=>absurd (by decide) h) (fun _=>?_);clear hK hHeld
      try simp only [Act.put,sLs]
      refine Zak (by kernel_rfl) ?_ _;refine NoPanic.normal ?_;obtain⟨wx,hwx⟩:∃ wx,wx=w1.setCell ⟨gk,k*2+1,none⟩ (.slice a7 l7 c7):=⟨_,rfl⟩
      have hr:=HRn.o;have hkk:=HKK.o;rw [<- hwx] at hr hkk |-;rw [HF.o,<- ZfN hkV] at hr;obtain⟨V9,hV9⟩:∃ V9,V9=({ U with ac:=Zd1 (U).ac k n }:Rr):=⟨_,rfl⟩
      have HE9:Hd (ZcR U ix n=Zcv V9):=by unfold Hd;rw [HE.o,hV9]
      have hd9:V9.dk=U.dk:=by rw [hV9]
      have hl9:V9.ac.length<=1000000:=by rw [hV9];show (Zd1 _ k n).length<=_;rw [Zc7];omega
      have HA9:Hd (∀ a ∈ V9.ac,1<=a.ix/\a.ix<=1000/\a.fr.length<=1048576):=by
       unfold Hd;rw [hV9];exact Zc6 HVA.o (fun a h=>⟨h.1,h.2.1,by omega⟩) (fun a h=>⟨h.1,h.2.1,Nat.le_trans (ZbU _ _) (by omega)⟩)
      rw [<- hV9] at hr;clear HR;have HR:=Zaa hr;replace RB:=Zaa (RB.o.kept hkk (Or.inr ⟨by omega,by omega⟩));replace HKP:Hd (Zag K w wx):=HKP.o.trans (hkk.less fun k h=>Or.inl h);have hsx:w.heap.size+2<=wx.heap.size:=by have:=RB.o.lt;omega
      clear hr hkk hwx HRn HKK HPUT HRIS HF HVA HE hV9 HGK s1 s2 i0 i1 HVL;have HRA:Hd (World.rangeAt wx w.heap.size 0 (rrF V9 b m)):=HR.o.box.range rfl;have HSy:Hd ((prog.info? 61).map (·.size)=some (rrF V9 b m).length):=by unfold Hd;exact ZaA
      go_wp2_with (first
       | (with_reducible refine ldR (.tmp 3) w.heap.size 0 (rrF V9 b m) HRA.o HSy.o ?_))
      clear HRA HSy;refine (ZeU (fun k=>(fun k=>K k\/(w.heap.size+1<=k/\k < w.heap.size+2)) k\/k=w.heap.size) lo _ V9 b m Sx HR.o.czg (by rw [hd9];exact h0) (by rw [hd9];exact h1) (fun i h=>⟨(HA9.o _ (List.getElem_mem h)).1,(HA9.o _ (List.getElem_mem h)).2.1⟩) hl9 (fun i h=>(HA9.o _ (List.getElem_mem h)).2.2) (by rw [hd9];exact hsl)).mono ?_;rintro e wa ⟨b7,m7,S7,rfl,hk7,hc7⟩;replace RB:=Zaa (RB.o.kept hk7 (Or.inl (Or.inr ⟨by omega,by omega⟩)));replace HKP:Hd (Zag K w wa):=HKP.o.trans (hk7.less fun k h=>Or.inl (Or.inl h));have HCc:=Zaa hc7;have hsa:w.heap.size+2<=wa.heap.size:=Nat.le_trans hsx hk7.size;clear hk7 hc7 HR HA9;have HTH:Hd (World.there wa (w.heap.size+1) 0 (rrF (Zcv V9) b7 m7).toArray.size):=RB.o.there rfl;have HON:Hd ((rrF (Zcv V9) b7 m7).toArray.all (·.oneCell')=true):=Zb5 _ _ _
      have HSz:Hd ((prog.info? 61).map (·.size)=some (rrF (Zcv V9) b7 m7).length):=by unfold Hd;exact ZaA
      go_wp2_with (with_reducible refine stR (.tmp 6) (.tmp 70) (w.heap.size+1) 0 (rrF (Zcv V9) b7 m7).toArray HTH.o (szN (Zb4 _ _ _)) HON.o ?_;refine Hd.o ?_);generalize hW9:World.setCells _ _ _ _=W9;have FR9:Hd (Box W9 (w.heap.size+1) (rrF (Zcv V9) b7 m7).toArray):=by unfold Hd;rw [<- hW9];exact RB.o.full rfl
      have TT:Hd (Zad (w.heap.size+1) ((w.heap.size+1)+1) wa W9):=by unfold Hd;rw [<- hW9];exact Zad.sets ⟨by omega,by omega⟩ _ _ _
      clear hW9;have HCn:=Zaa (HCc.o.other (β:=(w.heap.size+1)) (Or.inl (Or.inr ⟨by omega,by omega⟩)) TT.o);have HKn:Hd (Zag K w W9):=HKP.o.trans (Zag.touch TT.o (fun k hk=>⟨by have:=HKw.o k hk;omega,Or.inl (by have:=HKw.o k hk;omega)⟩));refine Zaa ?_;go_wp2;exact bodyPost_ret (v:=.agg (rrF (Zcv V9) b7 m7).toArray) (ZdL (p:=6) (ty:=61) results131 _ _ (w.heap.size+1) 0 (rrF (Zcv V9) b7 m7) _ rfl (FR9.o.range rfl) underlying61 rfl HSz.o) rfl ⟨b7,m7,S7,by rw [HE9.o],HKn.o,by rw [HE9.o];exact HCn.o.less (fun k hk=>Or.inl (Or.inl hk))⟩
     | false=>
      have HI:Hd (Zcg U.ac ix=U.ac.take k ++ [⟨ix,[]⟩] ++ U.ac.drop k):=by unfold Hd Zcg;rw [HP.o,List.getElem?_eq_getElem hlt,Option.map_some,<- HY.o,if_neg (fun e=>by injection e with e;rw [e] at q2;simp at q2)]
      have HE:Hd (ZcR U ix n=Zcv { U with ac:=Zd1 (U.ac.take k ++ [⟨ix,[]⟩] ++ U.ac.drop k) k n }):=by unfold Hd ZcR;rw [HI.o,HP.o]
      have d5:((k:Int) == (U.ac.length:Int))=false:=by simp;omega
      have d6:(y != ix)=true:=by simp [bne,q2]
      go_upto_region 5 with fail
      clear x16 hc0 q q2 d5 d6 i0 i1 HY HB6 hlt;have hγW:w.heap.size < wz.heap.size:=HR.o.box.lt
      obtain⟨L,hsrc,hins⟩:=HR.o.ins6;have HINS:=Zaa hins;have HKU:Hd (k<=U.ac.length):=hk;obtain⟨a6,ha6⟩:∃ a6,a6=b 6:=⟨_,rfl⟩
      obtain⟨c6,hc6⟩:∃ c6,c6=m 6:=⟨_,rfl⟩
      obtain⟨vl,hvl⟩:∃ vl,vl=U.ac.length:=⟨_,rfl⟩
      rw [<- ha6,<- hc6,<- hvl] at hsrc;have x16:wz.cell? ⟨w.heap.size,16,none⟩=some (.slice a6 vl c6):=by rw [ha6,hc6,hvl];exact HR.o.box.cell 16
      have hkl:k<=U.ac.length:=hk;have hkv:k<=vl:=by omega
      have hkc:k<=c6:=Nat.le_trans hkv hsrc.le;have hvm:vl<=100000:=by omega
      have HSRC:=Zaa hsrc;clear hsrc hins ha6 hc6 hvl hk HCX HGT HMP HNG HI HP HAL hl6 L6;obtain⟨V,hV⟩:∃ V,V=({ U with ac:=U.ac.take k ++ [(⟨ix,[]⟩:Ra)] ++ U.ac.drop k }:Rr):=⟨_,rfl⟩
      have HVV:=Zaa hV;clear hV
      go_cut [] (fun wi=>∃ (b':Nat->Option Addr) (m':Nat->Nat) (S':Nat->Nat->Prop),Rz (fun k=>K k\/(w.heap.size+1<=k/\k < w.heap.size+2)) lo wi w.heap.size b' m' S' V/\Box wi (w.heap.size+1) zR/\Zag K w wi)
      case first=>
       refine Code.wp_mono NoPanic.imp ?_;refine Zan (S:=fun W_=>W_.cell? ⟨w.heap.size,16,none⟩=some (.slice a6 vl c6)) [16] (by kernel_rfl) x16 (fun hHeld=>?_);refine tB 1 (.pointer (some ⟨w.heap.size,16,none⟩)) [2,4,5,9,14,15,16] rfl hHeld ?_
       try simp only [Act.put,sLs]
       refine tB 2 (.slice a6 vl c6) [4,5,9,14,15,16] rfl hHeld ?_
       try simp only [Act.put,sLs]
       refine tB 3 (.int .i64 (k:Int)) [4,5,9,14,15,16] rfl hHeld ?_
       try simp only [Act.put,sLs]
       refine tB 4 (.slice a6 k c6) [5,9,14,15,16] rfl hHeld ?_
       try simp only [Act.put,sLs]
       refine tB 6 (.int .i64 ix) [7,8,9,14,15,16] rfl hHeld ?_
       try simp only [Act.put,sLs]
       refine tB 7 (.agg #[.int .i64 ix,.slice none 0 0]) [8,9,14,15,16] rfl hHeld ?_
       try simp only [Act.put,sLs]
       refine tB 10 (.pointer (some ⟨w.heap.size,16,none⟩)) [11,13,14,15,16] rfl hHeld ?_
       try simp only [Act.put,sLs]
       refine tB 11 (.slice a6 vl c6) [13,14,15,16] rfl hHeld ?_
       try simp only [Act.put,sLs]
       refine tB 12 (.int .i64 (k:Int)) [13,14,15,16] rfl hHeld ?_
       try simp only [Act.put,sLs]
       refine tB 13 (.slice (Zg5 a6 c6 k) (vl - k) (c6 - k)) [14,15,16] rfl hHeld ?_ (hy:=ZdQ (by rfl) (.tmp 51) (.tmp 52) rfl _ vl c6 k rfl rfl (by omega))
       try simp only [Act.put,sLs]
       have HBW:Hd (Below wz.heap.size wz wz):=Below.refl _ _;refine ZbG (i:=0) (i':=8) (by kernel_rfl) rfl rfl (fun KC hK=>?_) (fun KC hK=>?_)
       . skip
         go_simp
         obtain⟨y1,hy⟩:∃ y,y=(wz.alloc (.cells #[] 170)).drew:=⟨_,rfl⟩
         have hb:Below wz.heap.size wz y1:=by rw [hy];exact (Zab _ _).drew
         have hf:FR axL 2 y1 wz.heap.size (wz.heap.size+1) wz.heap.size 0 []:=by rw [hy];exact (Zbb axL 2 wz #[] 170 0 rfl Zz_).below (Zb_.drew)
         have hzy1:wz.heap.size < y1.heap.size:=hf.lt
         rw [<- hy];clear hy;replace HBW:Hd (Below wz.heap.size wz y1):=bt HBW.o hb;have HN:Hd (NRS axL 2 y1 (fun k=>k=wz.heap.size) (.slice (some ⟨wz.heap.size,0,none⟩) 0 0) []):=Or.inr ⟨_,rfl,_,0,rfl,hf⟩;have HSS:Hd (∀ k,(fun k=>k=wz.heap.size) k->wz.heap.size<=k/\k < y1.heap.size):=fun k hk=>by dsimp only at hk;subst hk;exact⟨by omega,hzy1⟩
         clear hf hb;refine hK.out _ _ (fun _=>by rw [HBW.o.cell hγW];exact x16) (fun _=>?_);clear hK
         try simp only [Act.put,sLs]
         refine ZbG (i:=5) (i':=8) (by kernel_rfl) rfl rfl (fun KC hK=>?_) (fun KC hK=>?_)
         . skip
           obtain⟨v5,y2,hrun,ht,hrow⟩:=ZaK Zar (by decide) underlying59 ZaT rfl (L:=[]) (M:=L.take k) 59 HN.o a6 k c6 (by have:=HSRC.o.len;simp;omega) (fun e=>by have:=HSRC.o.nil e;omega) ((HSRC.o.on HBW.o).take k) (ZaV _) (by have:=HSRC.o.len;simp;omega) (by decide);refine Zae rfl (.tmp 40) (.tmp 44) 59 rfl rfl rfl hrun ?_;have hzy2:=ht.size;have HBX:=Zaa (bwT HBW.o ht fun k h=>(HSS.o k h).1);replace HSS:=Zaa (bwR HBW.o ht HSS.o);replace HBW:=HBX;replace HN:=Zaa hrow;clear HBX hrow ht hrun;refine hK.out _ _ (fun _=>by rw [HBW.o.cell hγW];exact x16) (fun _=>?_);clear hK
           try simp only [Act.put,sLs]
           refine oB 8 rfl (fun KC hK=>?_)
           go_simp
           obtain⟨y3,hy⟩:∃ y,y=y2.alloc (.cells #[.int .i64 ix,.slice none 0 0] 170):=⟨_,rfl⟩
           have hb:Below y2.heap.size y2 y3:=by rw [hy];exact Zab _ _
           obtain⟨p6,hp6⟩:∃ p,p=y2.heap.size:=⟨_,rfl⟩
           have B6:Hd (Box y3 p6 #[.int .i64 ix,.slice none 0 0]):=by unfold Hd;rw [hp6,hy];exact Box.new _ _ _ _ rfl
           have hzy3:y2.heap.size < y3.heap.size:=by have:=B6.o.lt;omega
           rw [<- hy];rw [<- hp6];have h6n:p6 < y3.heap.size:=B6.o.lt
           replace HN:=Zaa (HN.o.kept (Zag.below hb (fun _ h=>h)) (fun k hk=>(HSS.o k hk).2));have HSS2:Hd (∀ k,(Gr (fun k=>k=wz.heap.size) y1 y2) k->wz.heap.size<=k/\k < y3.heap.size/\k≠p6):=fun k hk=>by have:=HSS.o k hk;omega
           clear HSS;have HSS:=HSS2;clear HSS2;clear hy hp6;replace HBW:Hd (Below wz.heap.size wz y3):=bt HBW.o hb;clear hb;refine hK.out _ _ (fun _=>by rw [HBW.o.cell hγW];exact x16) (fun _=>?_);clear hK
           try simp only [Act.put,sLs]
           refine oB 9 rfl (fun KC hK=>?_);have B6old:p6 < y3.heap.size:=B6.o.lt
           obtain⟨v9,y4,hrun,ht,hrow⟩:=ZaK Zar (by decide) underlying59 ZaT rfl (L:=([] ++ L.take k)) (M:=[Zdk ix]) 59 HN.o (some ⟨p6,0,none⟩) 1 1 rfl (fun e=>by cases e) (fun ad e j u hu=>by injection e with e;subst e;rw [Addr.add_lit,Nat.zero_add,B6.o.cell j];simpa [Zai,axL,raL] using hu) (ZaV _) (by have:=HSRC.o.len;simp;omega) (by decide);refine Zae rfl (.tmp 45) (.tmp 48) 59 rfl rfl rfl hrun ?_;have hzy4:=ht.size;replace B6:=Zaa (b6T B6.o ht HSS.o);have HBX:=Zaa (bwT HBW.o ht fun k h=>(HSS.o k h).1);replace HSS:=Zaa (bwS HBW.o ht HSS.o B6old);replace HBW:=HBX;replace HN:=Zaa hrow;clear HBX hrow ht hrun B6old;refine hK.out _ _ (fun _=>by rw [HBW.o.cell hγW];exact x16) (fun _=>?_);clear hK
           try simp only [Act.put,sLs]
           refine oB 14 rfl (fun KC hK=>?_);have B6old:p6 < y4.heap.size:=B6.o.lt
           obtain⟨v14,y5,hrun,ht,hrow⟩:=ZaK Zar (by decide) underlying59 ZaT rfl (L:=([] ++ L.take k ++ [Zdk ix])) (M:=L.drop k) 59 HN.o (Zg5 a6 c6 k) (vl - k) (c6 - k) (by have:=HSRC.o.len;simp;omega) (fun e=>HSRC.o.cutN e) ((HSRC.o.on HBW.o).from (by have:=HSRC.o.len;omega)) (ZaV _) (by have:=HSRC.o.len;simp;omega) (by decide);refine Zae rfl (.tmp 49) (.tmp 53) 59 rfl rfl rfl hrun ?_;have hzy5:=ht.size;replace B6:=Zaa (b6T B6.o ht HSS.o);have HBX:=Zaa (bwT HBW.o ht fun k h=>(HSS.o k h).1);replace HSS:=Zaa (bwS HBW.o ht HSS.o B6old);replace HBW:=HBX;replace HN:=Zaa hrow;clear HBX hrow ht hrun B6old;refine hK.out _ _ (fun _=>by rw [HBW.o.cell hγW];exact x16) (fun _=>?_);clear hK
           try simp only [Act.put,sLs]
           refine oB 15 rfl (fun KC hK=>?_)
           go_simp
           refine hK.out _ _ (fun _=>by rw [HBW.o.cell hγW];exact x16) (fun _=>?_);clear hK
           try simp only [Act.put,sLs]
           obtain⟨a8,c8,rfl,b8,m8,S8,hr8,hk8⟩:=HINS.o k hkl ix y5 (Gr (Gr (Gr (fun k=>k=wz.heap.size) y1 y2) y3 y4) y4 y5) v14 HBW.o (fun t ht=>⟨(HSS.o t ht).1,(HSS.o t ht).2.1⟩) (by have:=HN.o;rwa [List.nil_append] at this);have HR8:=Zaa hr8;have HK8:=Zaa hk8;have s16:y5.cell? ⟨w.heap.size,16,none⟩=some (.slice a6 vl c6):=by rw [HBW.o.cell hγW];exact x16
           have gf:∀ j,y5.frozen? ⟨w.heap.size,j,none⟩=false:=fun j=>by rw [HBW.o.frozen hγW];exact HR.o.box.free j
           clear hr8 hk8;obtain⟨l8,hl8⟩:∃ l8,l8=(U.ac.take k ++ [(⟨ix,[]⟩:Ra)] ++ U.ac.drop k).length:=⟨_,rfl⟩
           rw [<- hl8] at HR8 HK8 |-;clear hl8;refine oB 16 rfl (fun KC hK=>?_)
           go_simp
           refine hK.out _ _ (fun h=>absurd (by decide) h) (fun _=>?_);clear hK s16 gf x16 hHeld
           try simp only [Act.put,sLs]
           refine Zak (by kernel_rfl) ?_ _;refine NoPanic.normal ?_;obtain⟨wi,hwi⟩:∃ wi,wi=y5.setCell ⟨w.heap.size,16,none⟩ (.slice a8 l8 c8):=⟨_,rfl⟩
           rw [<- hwi] at HR8 HK8 |-;clear hwi;rw [<- HVV.o] at HR8;replace RB:=Zaa (RB.o.kept HK8.o (Or.inr ⟨by omega,by omega⟩));replace HKP:Hd (Zag K w wi):=HKP.o.trans (HK8.o.less fun k h=>Or.inl h);go_wp2;go_meet;exact⟨b8,m8,S8,HR8.o,RB.o,HKP.o⟩
         . skip
           go_simp
           obtain⟨y2,hy⟩:∃ y,y=y1.alloc (.cells #[.int .i64 ix,.slice none 0 0] 170):=⟨_,rfl⟩
           have hb:Below y1.heap.size y1 y2:=by rw [hy];exact Zab _ _
           obtain⟨p6,hp6⟩:∃ p,p=y1.heap.size:=⟨_,rfl⟩
           have B6:Hd (Box y2 p6 #[.int .i64 ix,.slice none 0 0]):=by unfold Hd;rw [hp6,hy];exact Box.new _ _ _ _ rfl
           have hzy2:y1.heap.size < y2.heap.size:=by have:=B6.o.lt;omega
           rw [<- hy];rw [<- hp6];have h6n:p6 < y2.heap.size:=B6.o.lt
           replace HN:=Zaa (HN.o.kept (Zag.below hb (fun _ h=>h)) (fun k hk=>(HSS.o k hk).2));have HSS2:Hd (∀ k,(fun k=>k=wz.heap.size) k->wz.heap.size<=k/\k < y2.heap.size/\k≠p6):=fun k hk=>by have:=HSS.o k hk;omega
           clear HSS;have HSS:=HSS2;clear HSS2;clear hy hp6;replace HBW:Hd (Below wz.heap.size wz y2):=bt HBW.o hb;clear hb;refine hK.out _ _ (fun _=>by rw [HBW.o.cell hγW];exact x16) (fun _=>?_);clear hK
           try simp only [Act.put,sLs]
           refine oB 5 rfl (fun KC hK=>?_);have B6old:p6 < y2.heap.size:=B6.o.lt
           obtain⟨v5,y3,hrun,ht,hrow⟩:=ZaK Zar (by decide) underlying59 ZaT rfl (L:=[]) (M:=L.take k) 59 HN.o a6 k c6 (by have:=HSRC.o.len;simp;omega) (fun e=>by have:=HSRC.o.nil e;omega) ((HSRC.o.on HBW.o).take k) (ZaV _) (by have:=HSRC.o.len;simp;omega) (by decide);refine Zae rfl (.tmp 40) (.tmp 44) 59 rfl rfl rfl hrun ?_;have hzy3:=ht.size;replace B6:=Zaa (b6T B6.o ht HSS.o);have HBX:=Zaa (bwT HBW.o ht fun k h=>(HSS.o k h).1);replace HSS:=Zaa (bwS HBW.o ht HSS.o B6old);replace HBW:=HBX;replace HN:=Zaa hrow;clear HBX hrow ht hrun B6old;refine hK.out _ _ (fun _=>by rw [HBW.o.cell hγW];exact x16) (fun _=>?_);clear hK
           try simp only [Act.put,sLs]
           refine oB 9 rfl (fun KC hK=>?_);have B6old:p6 < y3.heap.size:=B6.o.lt
           obtain⟨v9,y4,hrun,ht,hrow⟩:=ZaK Zar (by decide) underlying59 ZaT rfl (L:=([] ++ L.take k)) (M:=[Zdk ix]) 59 HN.o (some ⟨p6,0,none⟩) 1 1 rfl (fun e=>by cases e) (fun ad e j u hu=>by injection e with e;subst e;rw [Addr.add_lit,Nat.zero_add,B6.o.cell j];simpa [Zai,axL,raL] using hu) (ZaV _) (by have:=HSRC.o.len;simp;omega) (by decide);refine Zae rfl (.tmp 45) (.tmp 48) 59 rfl rfl rfl hrun ?_;have hzy4:=ht.size;replace B6:=Zaa (b6T B6.o ht HSS.o);have HBX:=Zaa (bwT HBW.o ht fun k h=>(HSS.o k h).1);replace HSS:=Zaa (bwS HBW.o ht HSS.o B6old);replace HBW:=HBX;replace HN:=Zaa hrow;clear HBX hrow ht hrun B6old;refine hK.out _ _ (fun _=>by rw [HBW.o.cell hγW];exact x16) (fun _=>?_);clear hK
           try simp only [Act.put,sLs]
           refine oB 14 rfl (fun KC hK=>?_);have B6old:p6 < y4.heap.size:=B6.o.lt
           obtain⟨v14,y5,hrun,ht,hrow⟩:=ZaK Zar (by decide) underlying59 ZaT rfl (L:=([] ++ L.take k ++ [Zdk ix])) (M:=L.drop k) 59 HN.o (Zg5 a6 c6 k) (vl - k) (c6 - k) (by have:=HSRC.o.len;simp;omega) (fun e=>HSRC.o.cutN e) ((HSRC.o.on HBW.o).from (by have:=HSRC.o.len;omega)) (ZaV _) (by have:=HSRC.o.len;simp;omega) (by decide);refine Zae rfl (.tmp 49) (.tmp 53) 59 rfl rfl rfl hrun ?_;have hzy5:=ht.size;replace B6:=Zaa (b6T B6.o ht HSS.o);have HBX:=Zaa (bwT HBW.o ht fun k h=>(HSS.o k h).1);replace HSS:=Zaa (bwS HBW.o ht HSS.o B6old);replace HBW:=HBX;replace HN:=Zaa hrow;clear HBX hrow ht hrun B6old;refine hK.out _ _ (fun _=>by rw [HBW.o.cell hγW];exact x16) (fun _=>?_);clear hK
           try simp only [Act.put,sLs]
           refine oB 15 rfl (fun KC hK=>?_)
           go_simp
           refine hK.out _ _ (fun _=>by rw [HBW.o.cell hγW];exact x16) (fun _=>?_);clear hK
           try simp only [Act.put,sLs]
           obtain⟨a8,c8,rfl,b8,m8,S8,hr8,hk8⟩:=HINS.o k hkl ix y5 (Gr (Gr (Gr (fun k=>k=wz.heap.size) y2 y3) y3 y4) y4 y5) v14 HBW.o (fun t ht=>⟨(HSS.o t ht).1,(HSS.o t ht).2.1⟩) (by have:=HN.o;rwa [List.nil_append] at this);have HR8:=Zaa hr8;have HK8:=Zaa hk8;have s16:y5.cell? ⟨w.heap.size,16,none⟩=some (.slice a6 vl c6):=by rw [HBW.o.cell hγW];exact x16
           have gf:∀ j,y5.frozen? ⟨w.heap.size,j,none⟩=false:=fun j=>by rw [HBW.o.frozen hγW];exact HR.o.box.free j
           clear hr8 hk8;obtain⟨l8,hl8⟩:∃ l8,l8=(U.ac.take k ++ [(⟨ix,[]⟩:Ra)] ++ U.ac.drop k).length:=⟨_,rfl⟩
           rw [<- hl8] at HR8 HK8 |-;clear hl8;refine oB 16 rfl (fun KC hK=>?_)
           go_simp
           refine hK.out _ _ (fun h=>absurd (by decide) h) (fun _=>?_);clear hK s16 gf x16 hHeld
           try simp only [Act.put,sLs]
           refine Zak (by kernel_rfl) ?_ _;refine NoPanic.normal ?_;obtain⟨wi,hwi⟩:∃ wi,wi=y5.setCell ⟨w.heap.size,16,none⟩ (.slice a8 l8 c8):=⟨_,rfl⟩
           rw [<- hwi] at HR8 HK8 |-;clear hwi;rw [<- HVV.o] at HR8;replace RB:=Zaa (RB.o.kept HK8.o (Or.inr ⟨by omega,by omega⟩));replace HKP:Hd (Zag K w wi):=HKP.o.trans (HK8.o.less fun k h=>Or.inl h);go_wp2;go_meet;exact⟨b8,m8,S8,HR8.o,RB.o,HKP.o⟩
       . skip
         go_simp
         obtain⟨y1,hy⟩:∃ y,y=(wz.alloc (.cells #[.int .i64 ix,.slice none 0 0] 170)).drew:=⟨_,rfl⟩
         have hb:Below wz.heap.size wz y1:=by rw [hy];exact (Zab _ _).drew
         obtain⟨p6,hp6⟩:∃ p,p=wz.heap.size:=⟨_,rfl⟩
         have B6:Hd (Box y1 p6 #[.int .i64 ix,.slice none 0 0]):=by unfold Hd;rw [hp6,hy];exact (Box.new wz _ _ _ rfl).drew
         have hzy1:wz.heap.size < y1.heap.size:=by have:=B6.o.lt;omega
         rw [<- hy];rw [<- hp6];have h6n:p6 < y1.heap.size:=B6.o.lt
         clear hy hp6;replace HBW:Hd (Below wz.heap.size wz y1):=bt HBW.o hb;clear hb;refine hK.out _ _ (fun _=>by rw [HBW.o.cell hγW];exact x16) (fun _=>?_);clear hK
         try simp only [Act.put,sLs]
         refine oB 0 rfl (fun KC hK=>?_)
         go_simp
         obtain⟨y2,hy⟩:∃ y,y=y1.alloc (.cells #[] 170):=⟨_,rfl⟩
         have hb:Below y1.heap.size y1 y2:=by rw [hy];exact Zab _ _
         have hf:FR axL 2 y2 y1.heap.size (y1.heap.size+1) y1.heap.size 0 []:=by rw [hy];exact Zbb axL 2 _ #[] 170 0 rfl Zz_
         have hzy2:y1.heap.size < y2.heap.size:=hf.lt
         rw [<- hy];clear hy;replace B6:=Zaa (B6.o.on hb);replace HBW:Hd (Below wz.heap.size wz y2):=bt HBW.o hb;have HN:Hd (NRS axL 2 y2 (fun k=>k=y1.heap.size) (.slice (some ⟨y1.heap.size,0,none⟩) 0 0) []):=Or.inr ⟨_,rfl,_,0,rfl,hf⟩;have HSS:Hd (∀ k,(fun k=>k=y1.heap.size) k->wz.heap.size<=k/\k < y2.heap.size/\k≠p6):=fun k hk=>by dsimp only at hk;subst hk;exact⟨by omega,hzy2,by omega⟩
         clear hf hb;refine hK.out _ _ (fun _=>by rw [HBW.o.cell hγW];exact x16) (fun _=>?_);clear hK
         try simp only [Act.put,sLs]
         refine oB 5 rfl (fun KC hK=>?_);have B6old:p6 < y2.heap.size:=B6.o.lt
         obtain⟨v5,y3,hrun,ht,hrow⟩:=ZaK Zar (by decide) underlying59 ZaT rfl (L:=[]) (M:=L.take k) 59 HN.o a6 k c6 (by have:=HSRC.o.len;simp;omega) (fun e=>by have:=HSRC.o.nil e;omega) ((HSRC.o.on HBW.o).take k) (ZaV _) (by have:=HSRC.o.len;simp;omega) (by decide);refine Zae rfl (.tmp 40) (.tmp 44) 59 rfl rfl rfl hrun ?_;have hzy3:=ht.size;replace B6:=Zaa (b6T B6.o ht HSS.o);have HBX:=Zaa (bwT HBW.o ht fun k h=>(HSS.o k h).1);replace HSS:=Zaa (bwS HBW.o ht HSS.o B6old);replace HBW:=HBX;replace HN:=Zaa hrow;clear HBX hrow ht hrun B6old;refine hK.out _ _ (fun _=>by rw [HBW.o.cell hγW];exact x16) (fun _=>?_);clear hK
         try simp only [Act.put,sLs]
         refine oB 9 rfl (fun KC hK=>?_);have B6old:p6 < y3.heap.size:=B6.o.lt
         obtain⟨v9,y4,hrun,ht,hrow⟩:=ZaK Zar (by decide) underlying59 ZaT rfl (L:=([] ++ L.take k)) (M:=[Zdk ix]) 59 HN.o (some ⟨p6,0,none⟩) 1 1 rfl (fun e=>by cases e) (fun ad e j u hu=>by injection e with e;subst e;rw [Addr.add_lit,Nat.zero_add,B6.o.cell j];simpa [Zai,axL,raL] using hu) (ZaV _) (by have:=HSRC.o.len;simp;omega) (by decide);refine Zae rfl (.tmp 45) (.tmp 48) 59 rfl rfl rfl hrun ?_;have hzy4:=ht.size;replace B6:=Zaa (b6T B6.o ht HSS.o);have HBX:=Zaa (bwT HBW.o ht fun k h=>(HSS.o k h).1);replace HSS:=Zaa (bwS HBW.o ht HSS.o B6old);replace HBW:=HBX;replace HN:=Zaa hrow;clear HBX hrow ht hrun B6old;refine hK.out _ _ (fun _=>by rw [HBW.o.cell hγW];exact x16) (fun _=>?_);clear hK
         try simp only [Act.put,sLs]
         refine oB 14 rfl (fun KC hK=>?_);have B6old:p6 < y4.heap.size:=B6.o.lt
         obtain⟨v14,y5,hrun,ht,hrow⟩:=ZaK Zar (by decide) underlying59 ZaT rfl (L:=([] ++ L.take k ++ [Zdk ix])) (M:=L.drop k) 59 HN.o (Zg5 a6 c6 k) (vl - k) (c6 - k) (by have:=HSRC.o.len;simp;omega) (fun e=>HSRC.o.cutN e) ((HSRC.o.on HBW.o).from (by have:=HSRC.o.len;omega)) (ZaV _) (by have:=HSRC.o.len;simp;omega) (by decide);refine Zae rfl (.tmp 49) (.tmp 53) 59 rfl rfl rfl hrun ?_;have hzy5:=ht.size;replace B6:=Zaa (b6T B6.o ht HSS.o);have HBX:=Zaa (bwT HBW.o ht fun k h=>(HSS.o k h).1);replace HSS:=Zaa (bwS HBW.o ht HSS.o B6old);replace HBW:=HBX;replace HN:=Zaa hrow;clear HBX hrow ht hrun B6old;refine hK.out _ _ (fun _=>by rw [HBW.o.cell hγW];exact x16) (fun _=>?_);clear hK
         try simp only [Act.put,sLs]
         refine oB 15 rfl (fun KC hK=>?_)
         go_simp
         refine hK.out _ _ (fun _=>by rw [HBW.o.cell hγW];exact x16) (fun _=>?_);clear hK
         try simp only [Act.put,sLs]
         obtain⟨a8,c8,rfl,b8,m8,S8,hr8,hk8⟩:=HINS.o k hkl ix y5 (Gr (Gr (Gr (fun k=>k=y1.heap.size) y2 y3) y3 y4) y4 y5) v14 HBW.o (fun t ht=>⟨(HSS.o t ht).1,(HSS.o t ht).2.1⟩) (by have:=HN.o;rwa [List.nil_append] at this);have HR8:=Zaa hr8;have HK8:=Zaa hk8;have s16:y5.cell? ⟨w.heap.size,16,none⟩=some (.slice a6 vl c6):=by rw [HBW.o.cell hγW];exact x16
         have gf:∀ j,y5.frozen? ⟨w.heap.size,j,none⟩=false:=fun j=>by rw [HBW.o.frozen hγW];exact HR.o.box.free j
         clear hr8 hk8;obtain⟨l8,hl8⟩:∃ l8,l8=(U.ac.take k ++ [(⟨ix,[]⟩:Ra)] ++ U.ac.drop k).length:=⟨_,rfl⟩
         rw [<- hl8] at HR8 HK8 |-;clear hl8;refine oB 16 rfl (fun KC hK=>?_)
         go_simp
         refine hK.out _ _ (fun h=>absurd (by decide) h) (fun _=>?_);clear hK s16 gf x16 hHeld
         try simp only [Act.put,sLs]
         refine Zak (by kernel_rfl) ?_ _;refine NoPanic.normal ?_;obtain⟨wi,hwi⟩:∃ wi,wi=y5.setCell ⟨w.heap.size,16,none⟩ (.slice a8 l8 c8):=⟨_,rfl⟩
         rw [<- hwi] at HR8 HK8 |-;clear hwi;rw [<- HVV.o] at HR8;replace RB:=Zaa (RB.o.kept HK8.o (Or.inr ⟨by omega,by omega⟩));replace HKP:Hd (Zag K w wi):=HKP.o.trans (HK8.o.less fun k h=>Or.inl h);go_wp2;go_meet;exact⟨b8,m8,S8,HR8.o,RB.o,HKP.o⟩
      case rest=>
      obtain⟨b8,m8,S8,hr8,hrb8,hkp8⟩:=hcut;clear HR RB HKP x16;have HR:=Zaa hr8;have RB:=Zaa hrb8;have HKP:=Zaa hkp8;clear hr8 hrb8 hkp8;have hVd:V.dk=U.dk:=by rw [HVV.o]
      have hVl:V.ac.length=U.ac.length+1:=by rw [HVV.o];have:=HKU.o;simp;omega
      have HE2:Hd (ZcR U ix n=Zcv { V with ac:=Zd1 V.ac k n }):=by unfold Hd;rw [HE.o,HVV.o]
      have HVA:Hd (∀ a ∈ V.ac,1<=a.ix/\a.ix<=1000/\a.fr.length<=100000):=by
       unfold Hd;rw [HVV.o];exact Zf0 HVU.o ⟨hx1,hx2,Nat.zero_le _⟩
      have hkV:k < V.ac.length:=by have:=HKU.o;omega
      clear HE HVU HSRC HINS HVV;have HE:=HE2;clear HE2
      go_upto_region 6 with fail
      have hγW:w.heap.size < wc.heap.size:=HR.o.box.lt
      obtain⟨gk,ak,ck,hb6,hck,hfk,hgk,hgγ,hgK,hris,hput⟩:=HR.o.ack6 (k:=k) hkV;obtain⟨F,hF⟩:∃ F,F=(V).ac[k].fr:=⟨_,rfl⟩
      rw [<- hF] at hck hris hput;obtain⟨c6,hc6⟩:∃ c6,c6=m8 6:=⟨_,rfl⟩
      obtain⟨vl,hvl⟩:∃ vl,vl=(V).ac.length:=⟨_,rfl⟩
      have x16:wc.cell? ⟨w.heap.size,16,none⟩=some (.slice (some ⟨gk,0,none⟩) vl c6):=by rw [<- hb6,hc6,hvl];exact HR.o.box.cell 16
      have hFl:F.length<=100000:=by rw [hF];exact (HVA.o _ (List.getElem_mem hkV)).2.2
      have i0:(0:Int)<=(k:Int):=by omega
      have i1:(k:Int) < (vl:Int):=by omega
      have HPUT:=Zaa hput;have HRIS:=Zaa hris;have HF:=Zaa hF;have HGK:=Zaa hgK;have HVL:=Zaa hvl;clear hput hris hF hgK hb6 hc6 hvl;refine Code.wp_mono NoPanic.imp ?_;refine Zan (S:=fun W_=>W_.cell? ⟨w.heap.size,16,none⟩=some (.slice (some ⟨gk,0,none⟩) vl c6)/\W_.cell? ⟨gk,k*2+1,none⟩=some (.slice ak F.length ck)) [13] (by kernel_rfl) ⟨x16,hck⟩ (fun hHeld=>?_);refine tB 0 (.pointer (some ⟨w.heap.size,16,none⟩)) [1,11,12,13] rfl hHeld ?_
      try simp only [Act.put,sLs]
      refine tB 1 (.slice (some ⟨gk,0,none⟩) vl c6) [11,12,13] rfl hHeld ?_
      try simp only [Act.put,sLs]
      refine tB 2 (.int .i64 (k:Int)) [11,12,13] rfl hHeld ?_
      try simp only [Act.put,sLs]
      refine tB 3 (.pointer (some ⟨w.heap.size,16,none⟩)) [4,6,7,8,10,11,12,13] rfl hHeld ?_
      try simp only [Act.put,sLs]
      refine tB 4 (.slice (some ⟨gk,0,none⟩) vl c6) [6,7,8,10,11,12,13] rfl hHeld ?_
      try simp only [Act.put,sLs]
      refine tB 5 (.int .i64 (k:Int)) [6,7,8,10,11,12,13] rfl hHeld ?_
      try simp only [Act.put,sLs]
      refine tB 6 (.pointer (some ⟨gk,k*2,none⟩)) [7,8,10,11,12,13] rfl hHeld ?_
      try simp only [Act.put,sLs]
      refine tB 7 (.pointer (some ⟨gk,k*2+1,none⟩)) [8,10,11,12,13] rfl hHeld ?_
      try simp only [Act.put,sLs]
      refine tB 8 (.slice ak F.length ck) [10,11,12,13] rfl hHeld ?_
      try simp only [Act.put,sLs]
      refine tB 9 (.int .i64 n) [10,11,12,13] rfl hHeld ?_
      try simp only [Act.put,sLs]
      refine oB 10 rfl (fun KC hK=>?_)
      go_simp
      refine (ZdT lo _ F n _ (HRIS.o.below (Zb_.drew)) (by omega)).mono ?_;rintro e w1 ⟨v1,rfl,hb1,hrow⟩;have hb0:Below wc.heap.size wc w1:=(Zb_.drew).trans hb1
      obtain⟨a7,l7,c7,rfl⟩:∃ a l c,v1=.slice a l c:=by
       rcases hrow with ⟨e,_⟩ | ⟨_,_,e,_⟩
       . exact⟨_,_,_,e⟩
       . exact⟨_,_,_,e⟩
      obtain⟨Sx,hr,hkk⟩:=HPUT.o w1 (.slice a7 l7 c7) (ZbD F n) hb0 hrow;have HRn:=Zaa hr;have HKK:=Zaa hkk;have s16:w1.cell? ⟨w.heap.size,16,none⟩=some (.slice (some ⟨gk,0,none⟩) vl c6):=by rw [hb0.cell hγW];exact x16
      have s1:w1.cell? ⟨gk,k*2+1,none⟩=some (.slice ak F.length ck):=by rw [hb0.cell hgk];exact hck
      have s2:w1.frozen? ⟨gk,k*2+1,none⟩=false:=by rw [hb0.frozen hgk];exact hfk
      clear hb1 hrow hb0 hr hkk hHeld;refine hK.out _ _ (fun _=>⟨s16,s1⟩) (fun hHeld=>?_);replace hHeld:=hHeld (by decide);clear hK x16 hck hfk s16
      try simp only [Act.put,sLs]
      refine tB 11 (.pointer (some ⟨gk,k*2,none⟩)) [12,13] rfl hHeld ?_
      try simp only [Act.put,sLs]
      refine tB 12 (.pointer (some ⟨gk,k*2+1,none⟩)) [13] rfl hHeld ?_
      try simp only [Act.put,sLs]
      refine oB 13 rfl (fun KC hK=>?_)
      go_simp
      refine hK.out _ _ (fun h=>absurd (by decide) h) (fun _=>?_);clear hK hHeld
      try simp only [Act.put,sLs]
      refine Zak (by kernel_rfl) ?_ _;refine NoPanic.normal ?_;obtain⟨wx,hwx⟩:∃ wx,wx=w1.setCell ⟨gk,k*2+1,none⟩ (.slice a7 l7 c7):=⟨_,rfl⟩
      have hr:=HRn.o;have hkk:=HKK.o;rw [<- hwx] at hr hkk |-;rw [HF.o,<- ZfN hkV] at hr;obtain⟨V9,hV9⟩:∃ V9,V9=({ V with ac:=Zd1 (V).ac k n }:Rr):=⟨_,rfl⟩
      have HE9:Hd (ZcR U ix n=Zcv V9):=by unfold Hd;rw [HE.o,hV9]
      have hd9:V9.dk=U.dk:=by rw [hV9];exact hVd
      have hl9:V9.ac.length<=1000000:=by rw [hV9];show (Zd1 _ k n).length<=_;rw [Zc7];omega
      have HA9:Hd (∀ a ∈ V9.ac,1<=a.ix/\a.ix<=1000/\a.fr.length<=1048576):=by
       unfold Hd;rw [hV9];exact Zc6 HVA.o (fun a h=>⟨h.1,h.2.1,by omega⟩) (fun a h=>⟨h.1,h.2.1,Nat.le_trans (ZbU _ _) (by omega)⟩)
      rw [<- hV9] at hr;clear HR;have HR:=Zaa hr;replace RB:=Zaa (RB.o.kept hkk (Or.inr ⟨by omega,by omega⟩));replace HKP:Hd (Zag K w wx):=HKP.o.trans (hkk.less fun k h=>Or.inl h);have hsx:w.heap.size+2<=wx.heap.size:=by have:=RB.o.lt;omega
      clear hr hkk hwx HRn HKK HPUT HRIS HF HVA HE hV9 HGK s1 s2 i0 i1 HVL;have HRA:Hd (World.rangeAt wx w.heap.size 0 (rrF V9 b8 m8)):=HR.o.box.range rfl;have HSy:Hd ((prog.info? 61).map (·.size)=some (rrF V9 b8 m8).length):=by unfold Hd;exact ZaA
      go_wp2_with (first
       | (with_reducible refine ldR (.tmp 3) w.heap.size 0 (rrF V9 b8 m8) HRA.o HSy.o ?_))
      clear HRA HSy;refine (ZeU (fun k=>(fun k=>K k\/(w.heap.size+1<=k/\k < w.heap.size+2)) k\/k=w.heap.size) lo _ V9 b8 m8 Sx HR.o.czg (by rw [hd9];exact h0) (by rw [hd9];exact h1) (fun i h=>⟨(HA9.o _ (List.getElem_mem h)).1,(HA9.o _ (List.getElem_mem h)).2.1⟩) hl9 (fun i h=>(HA9.o _ (List.getElem_mem h)).2.2) (by rw [hd9];exact hsl)).mono ?_;rintro e wa ⟨b7,m7,S7,rfl,hk7,hc7⟩;replace RB:=Zaa (RB.o.kept hk7 (Or.inl (Or.inr ⟨by omega,by omega⟩)));replace HKP:Hd (Zag K w wa):=HKP.o.trans (hk7.less fun k h=>Or.inl (Or.inl h));have HCc:=Zaa hc7;have hsa:w.heap.size+2<=wa.heap.size:=Nat.le_trans hsx hk7.size;clear hk7 hc7 HR HA9;have HTH:Hd (World.there wa (w.heap.size+1) 0 (rrF (Zcv V9) b7 m7).toArray.size):=RB.o.there rfl;have HON:Hd ((rrF (Zcv V9) b7 m7).toArray.all (·.oneCell')=true):=Zb5 _ _ _
      have HSz:Hd ((prog.info? 61).map (·.size)=some (rrF (Zcv V9) b7 m7).length):=by unfold Hd;exact ZaA
      go_wp2_with (with_reducible refine stR (.tmp 6) (.tmp 70) (w.heap.size+1) 0 (rrF (Zcv V9) b7 m7).toArray HTH.o (szN (Zb4 _ _ _)) HON.o ?_;refine Hd.o ?_);generalize hW9:World.setCells _ _ _ _=W9;have FR9:Hd (Box W9 (w.heap.size+1) (rrF (Zcv V9) b7 m7).toArray):=by unfold Hd;rw [<- hW9];exact RB.o.full rfl
      have TT:Hd (Zad (w.heap.size+1) ((w.heap.size+1)+1) wa W9):=by unfold Hd;rw [<- hW9];exact Zad.sets ⟨by omega,by omega⟩ _ _ _
      clear hW9;have HCn:=Zaa (HCc.o.other (β:=(w.heap.size+1)) (Or.inl (Or.inr ⟨by omega,by omega⟩)) TT.o);have HKn:Hd (Zag K w W9):=HKP.o.trans (Zag.touch TT.o (fun k hk=>⟨by have:=HKw.o k hk;omega,Or.inl (by have:=HKw.o k hk;omega)⟩));refine Zaa ?_;go_wp2;exact bodyPost_ret (v:=.agg (rrF (Zcv V9) b7 m7).toArray) (ZdL (p:=6) (ty:=61) results131 _ _ (w.heap.size+1) 0 (rrF (Zcv V9) b7 m7) _ rfl (FR9.o.range rfl) underlying61 rfl HSz.o) rfl ⟨b7,m7,S7,by rw [HE9.o],HKn.o,by rw [HE9.o];exact HCn.o.less (fun k hk=>Or.inl (Or.inl hk))⟩
  . have HP:Hd (Zch U.ac ix=k):=Zf9 (by omega) HAL.o (fun h=>absurd h hlt)
    have HKL:Hd (k=U.ac.length):=by unfold Hd;omega
    have HI:Hd (Zcg U.ac ix=U.ac.take k ++ [⟨ix,[]⟩] ++ U.ac.drop k):=by unfold Hd Zcg;rw [HP.o,HKL.o,if_neg (by simp)]
    have HE:Hd (ZcR U ix n=Zcv { U with ac:=Zd1 (U.ac.take k ++ [⟨ix,[]⟩] ++ U.ac.drop k) k n }):=by unfold Hd ZcR;rw [HI.o,HP.o]
    have d3:decide ((k:Int) < (U.ac.length:Int))=false:=by simp;omega
    have d4:((k:Int) == (U.ac.length:Int))=true:=by have:=HKL.o;simp;omega
    go_upto_region 5 with fail
    clear x16 d3 d4 HKL hlt;have hγW:w.heap.size < wz.heap.size:=HR.o.box.lt
    obtain⟨L,hsrc,hins⟩:=HR.o.ins6;have HINS:=Zaa hins;have HKU:Hd (k<=U.ac.length):=hk;obtain⟨a6,ha6⟩:∃ a6,a6=b 6:=⟨_,rfl⟩
    obtain⟨c6,hc6⟩:∃ c6,c6=m 6:=⟨_,rfl⟩
    obtain⟨vl,hvl⟩:∃ vl,vl=U.ac.length:=⟨_,rfl⟩
    rw [<- ha6,<- hc6,<- hvl] at hsrc;have x16:wz.cell? ⟨w.heap.size,16,none⟩=some (.slice a6 vl c6):=by rw [ha6,hc6,hvl];exact HR.o.box.cell 16
    have hkl:k<=U.ac.length:=hk;have hkv:k<=vl:=by omega
    have hkc:k<=c6:=Nat.le_trans hkv hsrc.le;have hvm:vl<=100000:=by omega
    have HSRC:=Zaa hsrc;clear hsrc hins ha6 hc6 hvl hk HCX HGT HMP HNG HI HP HAL hl6 L6;obtain⟨V,hV⟩:∃ V,V=({ U with ac:=U.ac.take k ++ [(⟨ix,[]⟩:Ra)] ++ U.ac.drop k }:Rr):=⟨_,rfl⟩
    have HVV:=Zaa hV;clear hV
    go_cut [] (fun wi=>∃ (b':Nat->Option Addr) (m':Nat->Nat) (S':Nat->Nat->Prop),Rz (fun k=>K k\/(w.heap.size+1<=k/\k < w.heap.size+2)) lo wi w.heap.size b' m' S' V/\Box wi (w.heap.size+1) zR/\Zag K w wi)
    case first=>
     refine Code.wp_mono NoPanic.imp ?_;refine Zan (S:=fun W_=>W_.cell? ⟨w.heap.size,16,none⟩=some (.slice a6 vl c6)) [16] (by kernel_rfl) x16 (fun hHeld=>?_);refine tB 1 (.pointer (some ⟨w.heap.size,16,none⟩)) [2,4,5,9,14,15,16] rfl hHeld ?_
     try simp only [Act.put,sLs]
     refine tB 2 (.slice a6 vl c6) [4,5,9,14,15,16] rfl hHeld ?_
     try simp only [Act.put,sLs]
     refine tB 3 (.int .i64 (k:Int)) [4,5,9,14,15,16] rfl hHeld ?_
     try simp only [Act.put,sLs]
     refine tB 4 (.slice a6 k c6) [5,9,14,15,16] rfl hHeld ?_
     try simp only [Act.put,sLs]
     refine tB 6 (.int .i64 ix) [7,8,9,14,15,16] rfl hHeld ?_
     try simp only [Act.put,sLs]
     refine tB 7 (.agg #[.int .i64 ix,.slice none 0 0]) [8,9,14,15,16] rfl hHeld ?_
     try simp only [Act.put,sLs]
     refine tB 10 (.pointer (some ⟨w.heap.size,16,none⟩)) [11,13,14,15,16] rfl hHeld ?_
     try simp only [Act.put,sLs]
     refine tB 11 (.slice a6 vl c6) [13,14,15,16] rfl hHeld ?_
     try simp only [Act.put,sLs]
     refine tB 12 (.int .i64 (k:Int)) [13,14,15,16] rfl hHeld ?_
     try simp only [Act.put,sLs]
     refine tB 13 (.slice (Zg5 a6 c6 k) (vl - k) (c6 - k)) [14,15,16] rfl hHeld ?_ (hy:=ZdQ (by rfl) (.tmp 51) (.tmp 52) rfl _ vl c6 k rfl rfl (by omega))
     try simp only [Act.put,sLs]
     have HBW:Hd (Below wz.heap.size wz wz):=Below.refl _ _;refine ZbG (i:=0) (i':=8) (by kernel_rfl) rfl rfl (fun KC hK=>?_) (fun KC hK=>?_)
     . skip
       go_simp
       obtain⟨y1,hy⟩:∃ y,y=(wz.alloc (.cells #[] 170)).drew:=⟨_,rfl⟩
       have hb:Below wz.heap.size wz y1:=by rw [hy];exact (Zab _ _).drew
       have hf:FR axL 2 y1 wz.heap.size (wz.heap.size+1) wz.heap.size 0 []:=by rw [hy];exact (Zbb axL 2 wz #[] 170 0 rfl Zz_).below (Zb_.drew)
       have hzy1:wz.heap.size < y1.heap.size:=hf.lt
       rw [<- hy];clear hy;replace HBW:Hd (Below wz.heap.size wz y1):=bt HBW.o hb;have HN:Hd (NRS axL 2 y1 (fun k=>k=wz.heap.size) (.slice (some ⟨wz.heap.size,0,none⟩) 0 0) []):=Or.inr ⟨_,rfl,_,0,rfl,hf⟩;have HSS:Hd (∀ k,(fun k=>k=wz.heap.size) k->wz.heap.size<=k/\k < y1.heap.size):=fun k hk=>by dsimp only at hk;subst hk;exact⟨by omega,hzy1⟩
       clear hf hb;refine hK.out _ _ (fun _=>by rw [HBW.o.cell hγW];exact x16) (fun _=>?_);clear hK
       try simp only [Act.put,sLs]
       refine ZbG (i:=5) (i':=8) (by kernel_rfl) rfl rfl (fun KC hK=>?_) (fun KC hK=>?_)
       . skip
         obtain⟨v5,y2,hrun,ht,hrow⟩:=ZaK Zar (by decide) underlying59 ZaT rfl (L:=[]) (M:=L.take k) 59 HN.o a6 k c6 (by have:=HSRC.o.len;simp;omega) (fun e=>by have:=HSRC.o.nil e;omega) ((HSRC.o.on HBW.o).take k) (ZaV _) (by have:=HSRC.o.len;simp;omega) (by decide);refine Zae rfl (.tmp 40) (.tmp 44) 59 rfl rfl rfl hrun ?_;have hzy2:=ht.size;have HBX:=Zaa (bwT HBW.o ht fun k h=>(HSS.o k h).1);replace HSS:=Zaa (bwR HBW.o ht HSS.o);replace HBW:=HBX;replace HN:=Zaa hrow;clear HBX hrow ht hrun;refine hK.out _ _ (fun _=>by rw [HBW.o.cell hγW];exact x16) (fun _=>?_);clear hK
         try simp only [Act.put,sLs]
         refine oB 8 rfl (fun KC hK=>?_)
         go_simp
         obtain⟨y3,hy⟩:∃ y,y=y2.alloc (.cells #[.int .i64 ix,.slice none 0 0] 170):=⟨_,rfl⟩
         have hb:Below y2.heap.size y2 y3:=by rw [hy];exact Zab _ _
         obtain⟨p6,hp6⟩:∃ p,p=y2.heap.size:=⟨_,rfl⟩
         have B6:Hd (Box y3 p6 #[.int .i64 ix,.slice none 0 0]):=by unfold Hd;rw [hp6,hy];exact Box.new _ _ _ _ rfl
         have hzy3:y2.heap.size < y3.heap.size:=by have:=B6.o.lt;omega
         rw [<- hy];rw [<- hp6];have h6n:p6 < y3.heap.size:=B6.o.lt
         replace HN:=Zaa (HN.o.kept (Zag.below hb (fun _ h=>h)) (fun k hk=>(HSS.o k hk).2));have HSS2:Hd (∀ k,(Gr (fun k=>k=wz.heap.size) y1 y2) k->wz.heap.size<=k/\k < y3.heap.size/\k≠p6):=fun k hk=>by have:=HSS.o k hk;omega
         clear HSS;have HSS:=HSS2;clear HSS2;clear hy hp6;replace HBW:Hd (Below wz.heap.size wz y3):=bt HBW.o hb;clear hb;refine hK.out _ _ (fun _=>by rw [HBW.o.cell hγW];exact x16) (fun _=>?_);clear hK
         try simp only [Act.put,sLs]
         refine oB 9 rfl (fun KC hK=>?_);have B6old:p6 < y3.heap.size:=B6.o.lt
         obtain⟨v9,y4,hrun,ht,hrow⟩:=ZaK Zar (by decide) underlying59 ZaT rfl (L:=([] ++ L.take k)) (M:=[Zdk ix]) 59 HN.o (some ⟨p6,0,none⟩) 1 1 rfl (fun e=>by cases e) (fun ad e j u hu=>by injection e with e;subst e;rw [Addr.add_lit,Nat.zero_add,B6.o.cell j];simpa [Zai,axL,raL] using hu) (ZaV _) (by have:=HSRC.o.len;simp;omega) (by decide);refine Zae rfl (.tmp 45) (.tmp 48) 59 rfl rfl rfl hrun ?_;have hzy4:=ht.size;replace B6:=Zaa (b6T B6.o ht HSS.o);have HBX:=Zaa (bwT HBW.o ht fun k h=>(HSS.o k h).1);replace HSS:=Zaa (bwS HBW.o ht HSS.o B6old);replace HBW:=HBX;replace HN:=Zaa hrow;clear HBX hrow ht hrun B6old;refine hK.out _ _ (fun _=>by rw [HBW.o.cell hγW];exact x16) (fun _=>?_);clear hK
         try simp only [Act.put,sLs]
         refine oB 14 rfl (fun KC hK=>?_);have B6old:p6 < y4.heap.size:=B6.o.lt
         obtain⟨v14,y5,hrun,ht,hrow⟩:=ZaK Zar (by decide) underlying59 ZaT rfl (L:=([] ++ L.take k ++ [Zdk ix])) (M:=L.drop k) 59 HN.o (Zg5 a6 c6 k) (vl - k) (c6 - k) (by have:=HSRC.o.len;simp;omega) (fun e=>HSRC.o.cutN e) ((HSRC.o.on HBW.o).from (by have:=HSRC.o.len;omega)) (ZaV _) (by have:=HSRC.o.len;simp;omega) (by decide);refine Zae rfl (.tmp 49) (.tmp 53) 59 rfl rfl rfl hrun ?_;have hzy5:=ht.size;replace B6:=Zaa (b6T B6.o ht HSS.o);have HBX:=Zaa (bwT HBW.o ht fun k h=>(HSS.o k h).1);replace HSS:=Zaa (bwS HBW.o ht HSS.o B6old);replace HBW:=HBX;replace HN:=Zaa hrow;clear HBX hrow ht hrun B6old;refine hK.out _ _ (fun _=>by rw [HBW.o.cell hγW];exact x16) (fun _=>?_);clear hK
         try simp only [Act.put,sLs]
         refine oB 15 rfl (fun KC hK=>?_)
         go_simp
         refine hK.out _ _ (fun _=>by rw [HBW.o.cell hγW];exact x16) (fun _=>?_);clear hK
         try simp only [Act.put,sLs]
         obtain⟨a8,c8,rfl,b8,m8,S8,hr8,hk8⟩:=HINS.o k hkl ix y5 (Gr (Gr (Gr (fun k=>k=wz.heap.size) y1 y2) y3 y4) y4 y5) v14 HBW.o (fun t ht=>⟨(HSS.o t ht).1,(HSS.o t ht).2.1⟩) (by have:=HN.o;rwa [List.nil_append] at this);have HR8:=Zaa hr8;have HK8:=Zaa hk8;have s16:y5.cell? ⟨w.heap.size,16,none⟩=some (.slice a6 vl c6):=by rw [HBW.o.cell hγW];exact x16
         have gf:∀ j,y5.frozen? ⟨w.heap.size,j,none⟩=false:=fun j=>by rw [HBW.o.frozen hγW];exact HR.o.box.free j
         clear hr8 hk8;obtain⟨l8,hl8⟩:∃ l8,l8=(U.ac.take k ++ [(⟨ix,[]⟩:Ra)] ++ U.ac.drop k).length:=⟨_,rfl⟩
         rw [<- hl8] at HR8 HK8 |-;clear hl8;refine oB 16 rfl (fun KC hK=>?_)
         go_simp
         refine hK.out _ _ (fun h=>absurd (by decide) h) (fun _=>?_);clear hK s16 gf x16 hHeld
         try simp only [Act.put,sLs]
         refine Zak (by kernel_rfl) ?_ _;refine NoPanic.normal ?_;obtain⟨wi,hwi⟩:∃ wi,wi=y5.setCell ⟨w.heap.size,16,none⟩ (.slice a8 l8 c8):=⟨_,rfl⟩
         rw [<- hwi] at HR8 HK8 |-;clear hwi;rw [<- HVV.o] at HR8;replace RB:=Zaa (RB.o.kept HK8.o (Or.inr ⟨by omega,by omega⟩));replace HKP:Hd (Zag K w wi):=HKP.o.trans (HK8.o.less fun k h=>Or.inl h);go_wp2;go_meet;exact⟨b8,m8,S8,HR8.o,RB.o,HKP.o⟩
       . skip
         go_simp
         obtain⟨y2,hy⟩:∃ y,y=y1.alloc (.cells #[.int .i64 ix,.slice none 0 0] 170):=⟨_,rfl⟩
         have hb:Below y1.heap.size y1 y2:=by rw [hy];exact Zab _ _
         obtain⟨p6,hp6⟩:∃ p,p=y1.heap.size:=⟨_,rfl⟩
         have B6:Hd (Box y2 p6 #[.int .i64 ix,.slice none 0 0]):=by unfold Hd;rw [hp6,hy];exact Box.new _ _ _ _ rfl
         have hzy2:y1.heap.size < y2.heap.size:=by have:=B6.o.lt;omega
         rw [<- hy];rw [<- hp6];have h6n:p6 < y2.heap.size:=B6.o.lt
         replace HN:=Zaa (HN.o.kept (Zag.below hb (fun _ h=>h)) (fun k hk=>(HSS.o k hk).2));have HSS2:Hd (∀ k,(fun k=>k=wz.heap.size) k->wz.heap.size<=k/\k < y2.heap.size/\k≠p6):=fun k hk=>by have:=HSS.o k hk;omega
         clear HSS;have HSS:=HSS2;clear HSS2;clear hy hp6;replace HBW:Hd (Below wz.heap.size wz y2):=bt HBW.o hb;clear hb;refine hK.out _ _ (fun _=>by rw [HBW.o.cell hγW];exact x16) (fun _=>?_);clear hK
         try simp only [Act.put,sLs]
         refine oB 5 rfl (fun KC hK=>?_);have B6old:p6 < y2.heap.size:=B6.o.lt
         obtain⟨v5,y3,hrun,ht,hrow⟩:=ZaK Zar (by decide) underlying59 ZaT rfl (L:=[]) (M:=L.take k) 59 HN.o a6 k c6 (by have:=HSRC.o.len;simp;omega) (fun e=>by have:=HSRC.o.nil e;omega) ((HSRC.o.on HBW.o).take k) (ZaV _) (by have:=HSRC.o.len;simp;omega) (by decide);refine Zae rfl (.tmp 40) (.tmp 44) 59 rfl rfl rfl hrun ?_;have hzy3:=ht.size;replace B6:=Zaa (b6T B6.o ht HSS.o);have HBX:=Zaa (bwT HBW.o ht fun k h=>(HSS.o k h).1);replace HSS:=Zaa (bwS HBW.o ht HSS.o B6old);replace HBW:=HBX;replace HN:=Zaa hrow;clear HBX hrow ht hrun B6old;refine hK.out _ _ (fun _=>by rw [HBW.o.cell hγW];exact x16) (fun _=>?_);clear hK
         try simp only [Act.put,sLs]
         refine oB 9 rfl (fun KC hK=>?_);have B6old:p6 < y3.heap.size:=B6.o.lt
         obtain⟨v9,y4,hrun,ht,hrow⟩:=ZaK Zar (by decide) underlying59 ZaT rfl (L:=([] ++ L.take k)) (M:=[Zdk ix]) 59 HN.o (some ⟨p6,0,none⟩) 1 1 rfl (fun e=>by cases e) (fun ad e j u hu=>by injection e with e;subst e;rw [Addr.add_lit,Nat.zero_add,B6.o.cell j];simpa [Zai,axL,raL] using hu) (ZaV _) (by have:=HSRC.o.len;simp;omega) (by decide);refine Zae rfl (.tmp 45) (.tmp 48) 59 rfl rfl rfl hrun ?_;have hzy4:=ht.size;replace B6:=Zaa (b6T B6.o ht HSS.o);have HBX:=Zaa (bwT HBW.o ht fun k h=>(HSS.o k h).1);replace HSS:=Zaa (bwS HBW.o ht HSS.o B6old);replace HBW:=HBX;replace HN:=Zaa hrow;clear HBX hrow ht hrun B6old;refine hK.out _ _ (fun _=>by rw [HBW.o.cell hγW];exact x16) (fun _=>?_);clear hK
         try simp only [Act.put,sLs]
         refine oB 14 rfl (fun KC hK=>?_);have B6old:p6 < y4.heap.size:=B6.o.lt
         obtain⟨v14,y5,hrun,ht,hrow⟩:=ZaK Zar (by decide) underlying59 ZaT rfl (L:=([] ++ L.take k ++ [Zdk ix])) (M:=L.drop k) 59 HN.o (Zg5 a6 c6 k) (vl - k) (c6 - k) (by have:=HSRC.o.len;simp;omega) (fun e=>HSRC.o.cutN e) ((HSRC.o.on HBW.o).from (by have:=HSRC.o.len;omega)) (ZaV _) (by have:=HSRC.o.len;simp;omega) (by decide);refine Zae rfl (.tmp 49) (.tmp 53) 59 rfl rfl rfl hrun ?_;have hzy5:=ht.size;replace B6:=Zaa (b6T B6.o ht HSS.o);have HBX:=Zaa (bwT HBW.o ht fun k h=>(HSS.o k h).1);replace HSS:=Zaa (bwS HBW.o ht HSS.o B6old);replace HBW:=HBX;replace HN:=Zaa hrow;clear HBX hrow ht hrun B6old;refine hK.out _ _ (fun _=>by rw [HBW.o.cell hγW];exact x16) (fun _=>?_);clear hK
         try simp only [Act.put,sLs]
         refine oB 15 rfl (fun KC hK=>?_)
         go_simp
         refine hK.out _ _ (fun _=>by rw [HBW.o.cell hγW];exact x16) (fun _=>?_);clear hK
         try simp only [Act.put,sLs]
         obtain⟨a8,c8,rfl,b8,m8,S8,hr8,hk8⟩:=HINS.o k hkl ix y5 (Gr (Gr (Gr (fun k=>k=wz.heap.size) y2 y3) y3 y4) y4 y5) v14 HBW.o (fun t ht=>⟨(HSS.o t ht).1,(HSS.o t ht).2.1⟩) (by have:=HN.o;rwa [List.nil_append] at this);have HR8:=Zaa hr8;have HK8:=Zaa hk8;have s16:y5.cell? ⟨w.heap.size,16,none⟩=some (.slice a6 vl c6):=by rw [HBW.o.cell hγW];exact x16
         have gf:∀ j,y5.frozen? ⟨w.heap.size,j,none⟩=false:=fun j=>by rw [HBW.o.frozen hγW];exact HR.o.box.free j
         clear hr8 hk8;obtain⟨l8,hl8⟩:∃ l8,l8=(U.ac.take k ++ [(⟨ix,[]⟩:Ra)] ++ U.ac.drop k).length:=⟨_,rfl⟩
         rw [<- hl8] at HR8 HK8 |-;clear hl8;refine oB 16 rfl (fun KC hK=>?_)
         go_simp
         refine hK.out _ _ (fun h=>absurd (by decide) h) (fun _=>?_);clear hK s16 gf x16 hHeld
         try simp only [Act.put,sLs]
         refine Zak (by kernel_rfl) ?_ _;refine NoPanic.normal ?_;obtain⟨wi,hwi⟩:∃ wi,wi=y5.setCell ⟨w.heap.size,16,none⟩ (.slice a8 l8 c8):=⟨_,rfl⟩
         rw [<- hwi] at HR8 HK8 |-;clear hwi;rw [<- HVV.o] at HR8;replace RB:=Zaa (RB.o.kept HK8.o (Or.inr ⟨by omega,by omega⟩));replace HKP:Hd (Zag K w wi):=HKP.o.trans (HK8.o.less fun k h=>Or.inl h);go_wp2;go_meet;exact⟨b8,m8,S8,HR8.o,RB.o,HKP.o⟩
     . skip
       go_simp
       obtain⟨y1,hy⟩:∃ y,y=(wz.alloc (.cells #[.int .i64 ix,.slice none 0 0] 170)).drew:=⟨_,rfl⟩
       have hb:Below wz.heap.size wz y1:=by rw [hy];exact (Zab _ _).drew
       obtain⟨p6,hp6⟩:∃ p,p=wz.heap.size:=⟨_,rfl⟩
       have B6:Hd (Box y1 p6 #[.int .i64 ix,.slice none 0 0]):=by unfold Hd;rw [hp6,hy];exact (Box.new wz _ _ _ rfl).drew
       have hzy1:wz.heap.size < y1.heap.size:=by have:=B6.o.lt;omega
       rw [<- hy];rw [<- hp6];have h6n:p6 < y1.heap.size:=B6.o.lt
       clear hy hp6;replace HBW:Hd (Below wz.heap.size wz y1):=bt HBW.o hb;clear hb;refine hK.out _ _ (fun _=>by rw [HBW.o.cell hγW];exact x16) (fun _=>?_);clear hK
       try simp only [Act.put,sLs]
       refine oB 0 rfl (fun KC hK=>?_)
       go_simp
       obtain⟨y2,hy⟩:∃ y,y=y1.alloc (.cells #[] 170):=⟨_,rfl⟩
       have hb:Below y1.heap.size y1 y2:=by rw [hy];exact Zab _ _
       have hf:FR axL 2 y2 y1.heap.size (y1.heap.size+1) y1.heap.size 0 []:=by rw [hy];exact Zbb axL 2 _ #[] 170 0 rfl Zz_
       have hzy2:y1.heap.size < y2.heap.size:=hf.lt
       rw [<- hy];clear hy;replace B6:=Zaa (B6.o.on hb);replace HBW:Hd (Below wz.heap.size wz y2):=bt HBW.o hb;have HN:Hd (NRS axL 2 y2 (fun k=>k=y1.heap.size) (.slice (some ⟨y1.heap.size,0,none⟩) 0 0) []):=Or.inr ⟨_,rfl,_,0,rfl,hf⟩;have HSS:Hd (∀ k,(fun k=>k=y1.heap.size) k->wz.heap.size<=k/\k < y2.heap.size/\k≠p6):=fun k hk=>by dsimp only at hk;subst hk;exact⟨by omega,hzy2,by omega⟩
       clear hf hb;refine hK.out _ _ (fun _=>by rw [HBW.o.cell hγW];exact x16) (fun _=>?_);clear hK
       try simp only [Act.put,sLs]
       refine oB 5 rfl (fun KC hK=>?_);have B6old:p6 < y2.heap.size:=B6.o.lt
       obtain⟨v5,y3,hrun,ht,hrow⟩:=ZaK Zar (by decide) underlying59 ZaT rfl (L:=[]) (M:=L.take k) 59 HN.o a6 k c6 (by have:=HSRC.o.len;simp;omega) (fun e=>by have:=HSRC.o.nil e;omega) ((HSRC.o.on HBW.o).take k) (ZaV _) (by have:=HSRC.o.len;simp;omega) (by decide);refine Zae rfl (.tmp 40) (.tmp 44) 59 rfl rfl rfl hrun ?_;have hzy3:=ht.size;replace B6:=Zaa (b6T B6.o ht HSS.o);have HBX:=Zaa (bwT HBW.o ht fun k h=>(HSS.o k h).1);replace HSS:=Zaa (bwS HBW.o ht HSS.o B6old);replace HBW:=HBX;replace HN:=Zaa hrow;clear HBX hrow ht hrun B6old;refine hK.out _ _ (fun _=>by rw [HBW.o.cell hγW];exact x16) (fun _=>?_);clear hK
       try simp only [Act.put,sLs]
       refine oB 9 rfl (fun KC hK=>?_);have B6old:p6 < y3.heap.size:=B6.o.lt
       obtain⟨v9,y4,hrun,ht,hrow⟩:=ZaK Zar (by decide) underlying59 ZaT rfl (L:=([] ++ L.take k)) (M:=[Zdk ix]) 59 HN.o (some ⟨p6,0,none⟩) 1 1 rfl (fun e=>by cases e) (fun ad e j u hu=>by injection e with e;subst e;rw [Addr.add_lit,Nat.zero_add,B6.o.cell j];simpa [Zai,axL,raL] using hu) (ZaV _) (by have:=HSRC.o.len;simp;omega) (by decide);refine Zae rfl (.tmp 45) (.tmp 48) 59 rfl rfl rfl hrun ?_;have hzy4:=ht.size;replace B6:=Zaa (b6T B6.o ht HSS.o);have HBX:=Zaa (bwT HBW.o ht fun k h=>(HSS.o k h).1);replace HSS:=Zaa (bwS HBW.o ht HSS.o B6old);replace HBW:=HBX;replace HN:=Zaa hrow;clear HBX hrow ht hrun B6old;refine hK.out _ _ (fun _=>by rw [HBW.o.cell hγW];exact x16) (fun _=>?_);clear hK
       try simp only [Act.put,sLs]
       refine oB 14 rfl (fun KC hK=>?_);have B6old:p6 < y4.heap.size:=B6.o.lt
       obtain⟨v14,y5,hrun,ht,hrow⟩:=ZaK Zar (by decide) underlying59 ZaT rfl (L:=([] ++ L.take k ++ [Zdk ix])) (M:=L.drop k) 59 HN.o (Zg5 a6 c6 k) (vl - k) (c6 - k) (by have:=HSRC.o.len;simp;omega) (fun e=>HSRC.o.cutN e) ((HSRC.o.on HBW.o).from (by have:=HSRC.o.len;omega)) (ZaV _) (by have:=HSRC.o.len;simp;omega) (by decide);refine Zae rfl (.tmp 49) (.tmp 53) 59 rfl rfl rfl hrun ?_;have hzy5:=ht.size;replace B6:=Zaa (b6T B6.o ht HSS.o);have HBX:=Zaa (bwT HBW.o ht fun k h=>(HSS.o k h).1);replace HSS:=Zaa (bwS HBW.o ht HSS.o B6old);replace HBW:=HBX;replace HN:=Zaa hrow;clear HBX hrow ht hrun B6old;refine hK.out _ _ (fun _=>by rw [HBW.o.cell hγW];exact x16) (fun _=>?_);clear hK
       try simp only [Act.put,sLs]
       refine oB 15 rfl (fun KC hK=>?_)
       go_simp
       refine hK.out _ _ (fun _=>by rw [HBW.o.cell hγW];exact x16) (fun _=>?_);clear hK
       try simp only [Act.put,sLs]
       obtain⟨a8,c8,rfl,b8,m8,S8,hr8,hk8⟩:=HINS.o k hkl ix y5 (Gr (Gr (Gr (fun k=>k=y1.heap.size) y2 y3) y3 y4) y4 y5) v14 HBW.o (fun t ht=>⟨(HSS.o t ht).1,(HSS.o t ht).2.1⟩) (by have:=HN.o;rwa [List.nil_append] at this);have HR8:=Zaa hr8;have HK8:=Zaa hk8;have s16:y5.cell? ⟨w.heap.size,16,none⟩=some (.slice a6 vl c6):=by rw [HBW.o.cell hγW];exact x16
       have gf:∀ j,y5.frozen? ⟨w.heap.size,j,none⟩=false:=fun j=>by rw [HBW.o.frozen hγW];exact HR.o.box.free j
       clear hr8 hk8;obtain⟨l8,hl8⟩:∃ l8,l8=(U.ac.take k ++ [(⟨ix,[]⟩:Ra)] ++ U.ac.drop k).length:=⟨_,rfl⟩
       rw [<- hl8] at HR8 HK8 |-;clear hl8;refine oB 16 rfl (fun KC hK=>?_)
       go_simp
       refine hK.out _ _ (fun h=>absurd (by decide) h) (fun _=>?_);clear hK s16 gf x16 hHeld
       try simp only [Act.put,sLs]
       refine Zak (by kernel_rfl) ?_ _;refine NoPanic.normal ?_;obtain⟨wi,hwi⟩:∃ wi,wi=y5.setCell ⟨w.heap.size,16,none⟩ (.slice a8 l8 c8):=⟨_,rfl⟩
       rw [<- hwi] at HR8 HK8 |-;clear hwi;rw [<- HVV.o] at HR8;replace RB:=Zaa (RB.o.kept HK8.o (Or.inr ⟨by omega,by omega⟩));replace HKP:Hd (Zag K w wi):=HKP.o.trans (HK8.o.less fun k h=>Or.inl h);go_wp2;go_meet;exact⟨b8,m8,S8,HR8.o,RB.o,HKP.o⟩
    case rest=>
    obtain⟨b8,m8,S8,hr8,hrb8,hkp8⟩:=hcut;clear HR RB HKP x16;have HR:=Zaa hr8;have RB:=Zaa hrb8;have HKP:=Zaa hkp8;clear hr8 hrb8 hkp8;have hVd:V.dk=U.dk:=by rw [HVV.o]
    have hVl:V.ac.length=U.ac.length+1:=by rw [HVV.o];have:=HKU.o;simp;omega
    have HE2:Hd (ZcR U ix n=Zcv { V with ac:=Zd1 V.ac k n }):=by unfold Hd;rw [HE.o,HVV.o]
    have HVA:Hd (∀ a ∈ V.ac,1<=a.ix/\a.ix<=1000/\a.fr.length<=100000):=by
     unfold Hd;rw [HVV.o];exact Zf0 HVU.o ⟨hx1,hx2,Nat.zero_le _⟩
    have hkV:k < V.ac.length:=by have:=HKU.o;omega
    clear HE HVU HSRC HINS HVV;have HE:=HE2;clear HE2
    go_upto_region 6 with fail
    have hγW:w.heap.size < wc.heap.size:=HR.o.box.lt
    obtain⟨gk,ak,ck,hb6,hck,hfk,hgk,hgγ,hgK,hris,hput⟩:=HR.o.ack6 (k:=k) hkV;obtain⟨F,hF⟩:∃ F,F=(V).ac[k].fr:=⟨_,rfl⟩
    rw [<- hF] at hck hris hput;obtain⟨c6,hc6⟩:∃ c6,c6=m8 6:=⟨_,rfl⟩
    obtain⟨vl,hvl⟩:∃ vl,vl=(V).ac.length:=⟨_,rfl⟩
    have x16:wc.cell? ⟨w.heap.size,16,none⟩=some (.slice (some ⟨gk,0,none⟩) vl c6):=by rw [<- hb6,hc6,hvl];exact HR.o.box.cell 16
    have hFl:F.length<=100000:=by rw [hF];exact (HVA.o _ (List.getElem_mem hkV)).2.2
    have i0:(0:Int)<=(k:Int):=by omega
    have i1:(k:Int) < (vl:Int):=by omega
    have HPUT:=Zaa hput;have HRIS:=Zaa hris;have HF:=Zaa hF;have HGK:=Zaa hgK;have HVL:=Zaa hvl;clear hput hris hF hgK hb6 hc6 hvl;refine Code.wp_mono NoPanic.imp ?_;refine Zan (S:=fun W_=>W_.cell? ⟨w.heap.size,16,none⟩=some (.slice (some ⟨gk,0,none⟩) vl c6)/\W_.cell? ⟨gk,k*2+1,none⟩=some (.slice ak F.length ck)) [13] (by kernel_rfl) ⟨x16,hck⟩ (fun hHeld=>?_);refine tB 0 (.pointer (some ⟨w.heap.size,16,none⟩)) [1,11,12,13] rfl hHeld ?_
    try simp only [Act.put,sLs]
    refine tB 1 (.slice (some ⟨gk,0,none⟩) vl c6) [11,12,13] rfl hHeld ?_
    try simp only [Act.put,sLs]
    refine tB 2 (.int .i64 (k:Int)) [11,12,13] rfl hHeld ?_
    try simp only [Act.put,sLs]
    refine tB 3 (.pointer (some ⟨w.heap.size,16,none⟩)) [4,6,7,8,10,11,12,13] rfl hHeld ?_
    try simp only [Act.put,sLs]
    refine tB 4 (.slice (some ⟨gk,0,none⟩) vl c6) [6,7,8,10,11,12,13] rfl hHeld ?_
    try simp only [Act.put,sLs]
    refine tB 5 (.int .i64 (k:Int)) [6,7,8,10,11,12,13] rfl hHeld ?_
    try simp only [Act.put,sLs]
    refine tB 6 (.pointer (some ⟨gk,k*2,none⟩)) [7,8,10,11,12,13] rfl hHeld ?_
    try simp only [Act.put,sLs]
    refine tB 7 (.pointer (some ⟨gk,k*2+1,none⟩)) [8,10,11,12,13] rfl hHeld ?_
    try simp only [Act.put,sLs]
    refine tB 8 (.slice ak F.length ck) [10,11,12,13] rfl hHeld ?_
    try simp only [Act.put,sLs]
    refine tB 9 (.int .i64 n) [10,11,12,13] rfl hHeld ?_
    try simp only [Act.put,sLs]
    refine oB 10 rfl (fun KC hK=>?_)
    go_simp
    refine (ZdT lo _ F n _ (HRIS.o.below (Zb_.drew)) (by omega)).mono ?_;rintro e w1 ⟨v1,rfl,hb1,hrow⟩;have hb0:Below wc.heap.size wc w1:=(Zb_.drew).trans hb1
    obtain⟨a7,l7,c7,rfl⟩:∃ a l c,v1=.slice a l c:=by
     rcases hrow with ⟨e,_⟩ | ⟨_,_,e,_⟩
     . exact⟨_,_,_,e⟩
     . exact⟨_,_,_,e⟩
    obtain⟨Sx,hr,hkk⟩:=HPUT.o w1 (.slice a7 l7 c7) (ZbD F n) hb0 hrow;have HRn:=Zaa hr;have HKK:=Zaa hkk;have s16:w1.cell? ⟨w.heap.size,16,none⟩=some (.slice (some ⟨gk,0,none⟩) vl c6):=by rw [hb0.cell hγW];exact x16
    have s1:w1.cell? ⟨gk,k*2+1,none⟩=some (.slice ak F.length ck):=by rw [hb0.cell hgk];exact hck
    have s2:w1.frozen? ⟨gk,k*2+1,none⟩=false:=by rw [hb0.frozen hgk];exact hfk
    clear hb1 hrow hb0 hr hkk hHeld;refine hK.out _ _ (fun _=>⟨s16,s1⟩) (fun hHeld=>?_);replace hHeld:=hHeld (by decide);clear hK x16 hck hfk s16
    try simp only [Act.put,sLs]
    refine tB 11 (.pointer (some ⟨gk,k*2,none⟩)) [12,13] rfl hHeld ?_
    try simp only [Act.put,sLs]
    refine tB 12 (.pointer (some ⟨gk,k*2+1,none⟩)) [13] rfl hHeld ?_
    try simp only [Act.put,sLs]
    refine oB 13 rfl (fun KC hK=>?_)
    go_simp
    refine hK.out _ _ (fun h=>absurd (by decide) h) (fun _=>?_);clear hK hHeld
    try simp only [Act.put,sLs]
    refine Zak (by kernel_rfl) ?_ _;refine NoPanic.normal ?_;obtain⟨wx,hwx⟩:∃ wx,wx=w1.setCell ⟨gk,k*2+1,none⟩ (.slice a7 l7 c7):=⟨_,rfl⟩
    have hr:=HRn.o;have hkk:=HKK.o;rw [<- hwx] at hr hkk |-;rw [HF.o,<- ZfN hkV] at hr;obtain⟨V9,hV9⟩:∃ V9,V9=({ V with ac:=Zd1 (V).ac k n }:Rr):=⟨_,rfl⟩
    have HE9:Hd (ZcR U ix n=Zcv V9):=by unfold Hd;rw [HE.o,hV9]
    have hd9:V9.dk=U.dk:=by rw [hV9];exact hVd
    have hl9:V9.ac.length<=1000000:=by rw [hV9];show (Zd1 _ k n).length<=_;rw [Zc7];omega
    have HA9:Hd (∀ a ∈ V9.ac,1<=a.ix/\a.ix<=1000/\a.fr.length<=1048576):=by
     unfold Hd;rw [hV9];exact Zc6 HVA.o (fun a h=>⟨h.1,h.2.1,by omega⟩) (fun a h=>⟨h.1,h.2.1,Nat.le_trans (ZbU _ _) (by omega)⟩)
    rw [<- hV9] at hr;clear HR;have HR:=Zaa hr;replace RB:=Zaa (RB.o.kept hkk (Or.inr ⟨by omega,by omega⟩));replace HKP:Hd (Zag K w wx):=HKP.o.trans (hkk.less fun k h=>Or.inl h);have hsx:w.heap.size+2<=wx.heap.size:=by have:=RB.o.lt;omega
    clear hr hkk hwx HRn HKK HPUT HRIS HF HVA HE hV9 HGK s1 s2 i0 i1 HVL;have HRA:Hd (World.rangeAt wx w.heap.size 0 (rrF V9 b8 m8)):=HR.o.box.range rfl;have HSy:Hd ((prog.info? 61).map (·.size)=some (rrF V9 b8 m8).length):=by unfold Hd;exact ZaA
    go_wp2_with (first
     | (with_reducible refine ldR (.tmp 3) w.heap.size 0 (rrF V9 b8 m8) HRA.o HSy.o ?_))
    clear HRA HSy;refine (ZeU (fun k=>(fun k=>K k\/(w.heap.size+1<=k/\k < w.heap.size+2)) k\/k=w.heap.size) lo _ V9 b8 m8 Sx HR.o.czg (by rw [hd9];exact h0) (by rw [hd9];exact h1) (fun i h=>⟨(HA9.o _ (List.getElem_mem h)).1,(HA9.o _ (List.getElem_mem h)).2.1⟩) hl9 (fun i h=>(HA9.o _ (List.getElem_mem h)).2.2) (by rw [hd9];exact hsl)).mono ?_;rintro e wa ⟨b7,m7,S7,rfl,hk7,hc7⟩;replace RB:=Zaa (RB.o.kept hk7 (Or.inl (Or.inr ⟨by omega,by omega⟩)));replace HKP:Hd (Zag K w wa):=HKP.o.trans (hk7.less fun k h=>Or.inl (Or.inl h));have HCc:=Zaa hc7;have hsa:w.heap.size+2<=wa.heap.size:=Nat.le_trans hsx hk7.size;clear hk7 hc7 HR HA9;have HTH:Hd (World.there wa (w.heap.size+1) 0 (rrF (Zcv V9) b7 m7).toArray.size):=RB.o.there rfl;have HON:Hd ((rrF (Zcv V9) b7 m7).toArray.all (·.oneCell')=true):=Zb5 _ _ _
    have HSz:Hd ((prog.info? 61).map (·.size)=some (rrF (Zcv V9) b7 m7).length):=by unfold Hd;exact ZaA
    go_wp2_with (with_reducible refine stR (.tmp 6) (.tmp 70) (w.heap.size+1) 0 (rrF (Zcv V9) b7 m7).toArray HTH.o (szN (Zb4 _ _ _)) HON.o ?_;refine Hd.o ?_);generalize hW9:World.setCells _ _ _ _=W9;have FR9:Hd (Box W9 (w.heap.size+1) (rrF (Zcv V9) b7 m7).toArray):=by unfold Hd;rw [<- hW9];exact RB.o.full rfl
    have TT:Hd (Zad (w.heap.size+1) ((w.heap.size+1)+1) wa W9):=by unfold Hd;rw [<- hW9];exact Zad.sets ⟨by omega,by omega⟩ _ _ _
    clear hW9;have HCn:=Zaa (HCc.o.other (β:=(w.heap.size+1)) (Or.inl (Or.inr ⟨by omega,by omega⟩)) TT.o);have HKn:Hd (Zag K w W9):=HKP.o.trans (Zag.touch TT.o (fun k hk=>⟨by have:=HKw.o k hk;omega,Or.inl (by have:=HKw.o k hk;omega)⟩));refine Zaa ?_;go_wp2;exact bodyPost_ret (v:=.agg (rrF (Zcv V9) b7 m7).toArray) (ZdL (p:=6) (ty:=61) results131 _ _ (w.heap.size+1) 0 (rrF (Zcv V9) b7 m7) _ rfl (FR9.o.range rfl) underlying61 rfl HSz.o) rfl ⟨b7,m7,S7,by rw [HE9.o],HKn.o,by rw [HE9.o];exact HCn.o.less (fun k hk=>Or.inl (Or.inl hk))⟩
end Go.Proofs.YtdeammfdkaomlaaGreat
