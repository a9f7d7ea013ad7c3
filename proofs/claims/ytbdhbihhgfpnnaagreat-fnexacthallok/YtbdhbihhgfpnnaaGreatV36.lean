import Derived.Test.YtbdhbihhgfpnnaaGreatV35
set_option maxHeartbeats 16000000
set_option maxRecDepth 100000
open Go.Proofs.Tryz
namespace Go.Proofs.YtbdhbihhgfpnnaaGreat
open Go.RowKit Go.Deep Go.Maps
theorem ZlL (lo m cb:Nat) (sv cv bv v:Value) (B:Sb) (Xl:List Sv) (w:World) (h:Zc5 lo w sv cv bv B) (hv:Zbx lo w v Xl) (hck:Box w cb #[.func (.func 246) #[] #[],.func (.func 247) #[] #[],.func (.func 248) #[] #[],.func (.func 249) #[] #[],.func (.func 250) #[] #[]]) :
 Calls prog 215 #[.agg #[.int .i64 B.now,sv,cv,bv,.map (some m)],v,.slice (some ⟨cb,0,none⟩) 5 5] w fun e w'=>e=.returned (.bool (Xl.all (svB B.now)))/\Zw_ w w':=by
 have HK:=Zab h;have HV:=Zab hv;have HCK:=Zab hck;obtain⟨a0,k0,rfl⟩:=h.svs.form;obtain⟨a1,k1,rfl⟩:=h.cps.form;obtain⟨a2,k2,rfl⟩:=h.bes.form;obtain⟨a,cap,rfl⟩:=hv.form;have hmx:=hv.max;unfold maxLen at hmx;clear h hv hck;go_enter func215,ntmps215;go_wp2;generalize hWa:w.alloc _=Wa;have HB0:Hd (Zw_ w Wa):=by rw [<- hWa];exact Zac w _
 have HX0:Hd (Box Wa w.heap.size #[.int .i64 B.now,.slice a0 B.ss.length k0,.slice a1 B.cs.length k1,.slice a2 B.bs.length k2,.map (some m)]):=by rw [<- hWa];exact Box.new _ _ _ _ rfl
 have HK0:Hd (Box Wa cb #[.func (.func 246) #[] #[],.func (.func 247) #[] #[],.func (.func 248) #[] #[],.func (.func 249) #[] #[],.func (.func 250) #[] #[]]):=by rw [<- hWa];exact HCK.o.on (Zac _ _)
 clear hWa HCK
 go_loopw [13] (fun i wr=>∃ k:Nat,i=.int .i64 k/\k<=Xl.length/\Zw_ w wr/\Box wr w.heap.size #[.int .i64 B.now,.slice a0 B.ss.length k0,.slice a1 B.cs.length k1,.slice a2 B.bs.length k2,.map (some m)]/\Box wr cb #[.func (.func 246) #[] #[],.func (.func 247) #[] #[],.func (.func 248) #[] #[],.func (.func 249) #[] #[],.func (.func 250) #[] #[]]/\(∀ j (h:j < Xl.length),j < k->(svB B.now) Xl[j]=true)) (fun i _=>Xl.length - (intOf i).toNat)
 case atStart=>exact⟨0,rfl,Nat.zero_le _,HB0.o,HX0.o,HK0.o,fun j _ h=>by omega⟩
 case round=>
  obtain⟨k,rfl,hk,hb,hx,hc,hall⟩:=hrel;have HB:=Zab hb;have HX:=Zab hx;have HC:=Zab hc;have HA:=Zab hall;clear hb hx hc hall HB0 HX0 HK0
  by_cases hlt:k < Xl.length
  . obtain⟨b,off,rfl,hbw,-,hc⟩:=HV.o.full' (by omega)
    obtain⟨hs,hc⟩:=hc k hlt;have HZ:=Zab hs;obtain⟨c0,c1,c2,c3,c4,c5,c6,c7,c8,c9,c10,c11,c12⟩:=hc.below HB.o hbw;clear hc hs;obtain⟨W1,hW1⟩:∃ W,W=wr:=⟨_,rfl⟩
    subst hW1;go_wp2;generalize hW:World.alloc _ _=W;have HBW:Hd (Zw_ w W):=by rw [<- hW];exact zbt HB.o (Zac _ _)
    have HXW:Hd (Box W w.heap.size #[.int .i64 B.now,.slice a0 B.ss.length k0,.slice a1 B.cs.length k1,.slice a2 B.bs.length k2,.map (some m)]):=by rw [<- hW];exact HX.o.on (Zac _ _)
    have HCW:Hd (Box W cb #[.func (.func 246) #[] #[],.func (.func 247) #[] #[],.func (.func 248) #[] #[],.func (.func 249) #[] #[],.func (.func 250) #[] #[]]):=by rw [<- hW];exact HC.o.on (Zac _ _)
    have HTW:Hd (Box W W1.heap.size #[.string Xl[k].nm,.int .i64 Xl[k].ve,.bool Xl[k].gn,.int .i64 Xl[k].im,.int .i64 Xl[k].wa,.int .i64 Xl[k].dn,.int .i64 Xl[k].ov,.int .i64 Xl[k].nx,.int .i64 Xl[k].pr,.int .i64 Xl[k].ls,.int .i64 Xl[k].ms,.int .i64 Xl[k].ld,.int .i64 Xl[k].cl]):=by rw [<- hW];exact Box.new _ _ _ _ rfl
    clear hW HB HX HC c0 c1 c2 c3 c4 c5 c6 c7 c8 c9 c10 c11 c12
    go_loopw [19] (fun i wr=>∃ j:Nat,i=.int .i64 j/\j<=5/\Zw_ w wr/\Box wr w.heap.size #[.int .i64 B.now,.slice a0 B.ss.length k0,.slice a1 B.cs.length k1,.slice a2 B.bs.length k2,.map (some m)]/\Box wr W1.heap.size #[.string Xl[k].nm,.int .i64 Xl[k].ve,.bool Xl[k].gn,.int .i64 Xl[k].im,.int .i64 Xl[k].wa,.int .i64 Xl[k].dn,.int .i64 Xl[k].ov,.int .i64 Xl[k].nx,.int .i64 Xl[k].pr,.int .i64 Xl[k].ls,.int .i64 Xl[k].ms,.int .i64 Xl[k].ld,.int .i64 Xl[k].cl]/\Box wr cb #[.func (.func 246) #[] #[],.func (.func 247) #[] #[],.func (.func 248) #[] #[],.func (.func 249) #[] #[],.func (.func 250) #[] #[]]/\(∀ l,l < j->ZmV B.now Xl[k] l=true)) (fun i _=>5 - (intOf i).toNat)
    case atStart=>exact⟨0,rfl,by omega,HBW.o,HXW.o,HTW.o,HCW.o,fun l h=>by omega⟩
    case round=>
     obtain⟨j,rfl,hj,hb,hx,ht,hc,hall⟩:=hrel;have HBj:=Zab hb;have HXj:=Zab hx;have HTj:=Zab ht;have HKj:=Zab hc;have HAj:=Zab hall;clear hb hx ht hc hall HBW HXW HCW HTW
     by_cases hjl:j < 5
     . have x:=HXj.o.cell
       have t:=HTj.o.cell;have hj':j=0\/j=1\/j=2\/j=3\/j=4:=by omega
       rcases hj' with rfl | rfl | rfl | rfl | rfl
       . have kc:=HKj.o.cell 0
         simp at kc
         cases hq:ZmV B.now Xl[k] 0 with
         | false=>
          have HF:Hd (Xl.all (svB B.now)=false):=Zbc hlt (Zna (Zef B.now Xl[k]) (by omega) hq);go_wp2_with (go_at_call 246;refine (ZgY lo m _ _ _ B Xl[k] _ (HK.o.below HBj.o) HZ.o).mono ?_;rintro e w3 ⟨he,hb3⟩;replace he:=he.trans (congrArg (fun b=>Ending.returned (.bool b)) hq);subst he;have HB3:=Zab (zbt HBj.o hb3);clear hb3);go_ret;exact⟨Zaa HF.o.symm,HB3.o⟩
         | true=>
          have HQ:=Zab hq;go_wp2_with (go_at_call 246;refine (ZgY lo m _ _ _ B Xl[k] _ (HK.o.below HBj.o) HZ.o).mono ?_;rintro e w3 ⟨he,hb3⟩;replace he:=he.trans (congrArg (fun b=>Ending.returned (.bool b)) HQ.o);subst he;have HB3:=Zab (zbt HBj.o hb3);have HX3:=Zab (HXj.o.on hb3);have HT3:=Zab (HTj.o.on hb3);have HK3:=Zab (HKj.o.on hb3);clear hb3);go_roundw
          case rel=>exact⟨1,by go_num,by omega,HB3.o,HX3.o,HT3.o,HK3.o,fun l hl=>by
                     by_cases e:l=0
                     . rw [e];exact HQ.o
                     . exact HAj.o l (by omega)⟩
          . simp [intOf]
       . have kc:=HKj.o.cell 1
         simp at kc
         cases hq:ZmV B.now Xl[k] 1 with
         | false=>
          have HF:Hd (Xl.all (svB B.now)=false):=Zbc hlt (Zna (Zef B.now Xl[k]) (by omega) hq);go_wp2_with (go_at_call 247;refine (ZeD lo m _ _ _ B Xl[k] _ (HK.o.below HBj.o)).mono ?_;rintro e w3 ⟨he,hb3⟩;replace he:=he.trans (congrArg (fun b=>Ending.returned (.bool b)) hq);subst he;have HB3:=Zab (zbt HBj.o hb3);clear hb3);go_ret;exact⟨Zaa HF.o.symm,HB3.o⟩
         | true=>
          have HQ:=Zab hq;go_wp2_with (go_at_call 247;refine (ZeD lo m _ _ _ B Xl[k] _ (HK.o.below HBj.o)).mono ?_;rintro e w3 ⟨he,hb3⟩;replace he:=he.trans (congrArg (fun b=>Ending.returned (.bool b)) HQ.o);subst he;have HB3:=Zab (zbt HBj.o hb3);have HX3:=Zab (HXj.o.on hb3);have HT3:=Zab (HTj.o.on hb3);have HK3:=Zab (HKj.o.on hb3);clear hb3);go_roundw
          case rel=>exact⟨2,by go_num,by omega,HB3.o,HX3.o,HT3.o,HK3.o,fun l hl=>by
                     by_cases e:l=1
                     . rw [e];exact HQ.o
                     . exact HAj.o l (by omega)⟩
          . simp [intOf]
       . have kc:=HKj.o.cell 2
         simp at kc
         cases hq:ZmV B.now Xl[k] 2 with
         | false=>
          have HF:Hd (Xl.all (svB B.now)=false):=Zbc hlt (Zna (Zef B.now Xl[k]) (by omega) hq);go_wp2_with (go_at_call 248;refine (ZfN lo m _ _ _ B Xl[k] _ (HK.o.below HBj.o)).mono ?_;rintro e w3 ⟨he,hb3⟩;replace he:=he.trans (congrArg (fun b=>Ending.returned (.bool b)) hq);subst he;have HB3:=Zab (zbt HBj.o hb3);clear hb3);go_ret;exact⟨Zaa HF.o.symm,HB3.o⟩
         | true=>
          have HQ:=Zab hq;go_wp2_with (go_at_call 248;refine (ZfN lo m _ _ _ B Xl[k] _ (HK.o.below HBj.o)).mono ?_;rintro e w3 ⟨he,hb3⟩;replace he:=he.trans (congrArg (fun b=>Ending.returned (.bool b)) HQ.o);subst he;have HB3:=Zab (zbt HBj.o hb3);have HX3:=Zab (HXj.o.on hb3);have HT3:=Zab (HTj.o.on hb3);have HK3:=Zab (HKj.o.on hb3);clear hb3);go_roundw
          case rel=>exact⟨3,by go_num,by omega,HB3.o,HX3.o,HT3.o,HK3.o,fun l hl=>by
                     by_cases e:l=2
                     . rw [e];exact HQ.o
                     . exact HAj.o l (by omega)⟩
          . simp [intOf]
       . have kc:=HKj.o.cell 3
         simp at kc
         cases hq:ZmV B.now Xl[k] 3 with
         | false=>
          have HF:Hd (Xl.all (svB B.now)=false):=Zbc hlt (Zna (Zef B.now Xl[k]) (by omega) hq);go_wp2_with (go_at_call 249;refine (ZfM lo m _ _ _ B Xl[k] _ (HK.o.below HBj.o)).mono ?_;rintro e w3 ⟨he,hb3⟩;replace he:=he.trans (congrArg (fun b=>Ending.returned (.bool b)) hq);subst he;have HB3:=Zab (zbt HBj.o hb3);clear hb3);go_ret;exact⟨Zaa HF.o.symm,HB3.o⟩
         | true=>
          have HQ:=Zab hq;go_wp2_with (go_at_call 249;refine (ZfM lo m _ _ _ B Xl[k] _ (HK.o.below HBj.o)).mono ?_;rintro e w3 ⟨he,hb3⟩;replace he:=he.trans (congrArg (fun b=>Ending.returned (.bool b)) HQ.o);subst he;have HB3:=Zab (zbt HBj.o hb3);have HX3:=Zab (HXj.o.on hb3);have HT3:=Zab (HTj.o.on hb3);have HK3:=Zab (HKj.o.on hb3);clear hb3);go_roundw
          case rel=>exact⟨4,by go_num,by omega,HB3.o,HX3.o,HT3.o,HK3.o,fun l hl=>by
                     by_cases e:l=3
                     . rw [e];exact HQ.o
                     . exact HAj.o l (by omega)⟩
          . simp [intOf]
       . have kc:=HKj.o.cell 4
         simp at kc
         cases hq:ZmV B.now Xl[k] 4 with
         | false=>
          have HF:Hd (Xl.all (svB B.now)=false):=Zbc hlt (Zna (Zef B.now Xl[k]) (by omega) hq);go_wp2_with (go_at_call 250;refine (ZgZ lo m _ _ _ B Xl[k] _ (HK.o.below HBj.o)).mono ?_;rintro e w3 ⟨he,hb3⟩;replace he:=he.trans (congrArg (fun b=>Ending.returned (.bool b)) hq);subst he;have HB3:=Zab (zbt HBj.o hb3);clear hb3);go_ret;exact⟨Zaa HF.o.symm,HB3.o⟩
         | true=>
          have HQ:=Zab hq;go_wp2_with (go_at_call 250;refine (ZgZ lo m _ _ _ B Xl[k] _ (HK.o.below HBj.o)).mono ?_;rintro e w3 ⟨he,hb3⟩;replace he:=he.trans (congrArg (fun b=>Ending.returned (.bool b)) HQ.o);subst he;have HB3:=Zab (zbt HBj.o hb3);have HX3:=Zab (HXj.o.on hb3);have HT3:=Zab (HTj.o.on hb3);have HK3:=Zab (HKj.o.on hb3);clear hb3);go_roundw
          case rel=>exact⟨5,by go_num,by omega,HB3.o,HX3.o,HT3.o,HK3.o,fun l hl=>by
                     by_cases e:l=4
                     . rw [e];exact HQ.o
                     . exact HAj.o l (by omega)⟩
          . simp [intOf]
     . have hjn:j=5:=by omega
       subst hjn;have HT:Hd ((svB B.now) Xl[k]=true):=Zs3 (Zef B.now Xl[k]) HAj.o;go_wp2;go_roundw
       . exact⟨k+1,by go_num,by omega,HBj.o,HXj.o,HKj.o,Zbr HA.o hlt HT.o⟩
       . simp [intOf];omega
  . have HT:Hd (Xl.all (svB B.now)=true):=Zb2 fun i hi=>HA.o i hi (by omega)
    go_wp2;go_ret;exact⟨Zaa HT.o.symm,HB.o⟩
end Go.Proofs.YtbdhbihhgfpnnaaGreat
