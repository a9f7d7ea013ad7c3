import Derived.Test.YtbdhbihhgfpnnaaGreatV34
set_option maxHeartbeats 16000000
set_option maxRecDepth 100000
open Go.Proofs.Tryz
namespace Go.Proofs.YtbdhbihhgfpnnaaGreat
open Go.RowKit Go.Deep Go.Maps
section
variable {b:Bool}
def ZmV (now:Int) (x:Sv):Nat->Bool
 | 0=>nmB x.nm&&inB 1 now x.ve
 | 1=>inB 1 1000000 x.im&&inB 1 1000000 x.nx
 | 2=>inB 0 10 x.wa&&(inB 0 10 x.dn&&(inB 0 10 x.ov&&(decide (0 < x.dn) || decide (0 < x.ov))))
 | 3=>inB 0 1000000 x.pr&&(inB 0 1000000 x.ld&&(inB 0 10 x.ms&&(inB 0 x.ms x.ls&&inB 0 3 x.cl)))
 | _=>decide (0 < x.pr) || ((x.ls == 0)&&((x.ms == 0)&&((x.ld == 0)&&(x.cl == 0))))
theorem ZnL {lo hi n:Int}:inB lo hi n=true↔lo<=n/\n<=hi:=by unfold inB;simp
theorem Zef (now:Int) (x:Sv):svB now x=(ZmV now x 0&&(ZmV now x 1&&(ZmV now x 2&&(ZmV now x 3&&ZmV now x 4)))):=by
 have h1:(x.dn+x.ov == 0)=decide (x.dn+x.ov=0):=by by_cases h:x.dn+x.ov=0 <;> simp [h]
 simp only [svB,ZmV,Zsi,h1]
 cases nmB x.nm with
 | false=>rfl
 | true=>
  rw [Bool.eq_iff_iff]
  by_cases hp:x.pr=0
  . simp only [hp,Bool.true_and,Bool.and_eq_true,Bool.or_eq_true,ZnL,decide_eq_true_iff,Bool.not_eq_true',decide_eq_false_iff_not,beq_self_eq_true,if_true,beq_iff_eq]
    constructor <;> intro h <;> omega
  . have hp':(x.pr == 0)=false:=by simpa using hp
    simp only [hp',Bool.true_and,Bool.and_eq_true,Bool.or_eq_true,ZnL,decide_eq_true_iff,Bool.not_eq_true',decide_eq_false_iff_not,Bool.false_eq_true,if_false,beq_iff_eq]
    constructor <;> intro h <;> omega
def ZpS (B:Sb) (x:Cp):Nat->Bool
 | 0=>ZkK B x
 | 1=>inB 1 B.now x.ve&&(inB 1 1000000 x.im&&inB 1 4 x.st)
 | _=>if x.st == 1 then x.be.toList.isEmpty else ZfY B.bs x.be
theorem Zf4 (B:Sb) (x:Cp):cpB B x=(ZpS B x 0&&(ZpS B x 1&&ZpS B x 2)):=by
 simp only [cpB,ZpS,ZkK,cpT]
 cases svF B.ss x.se with
 | none=>rfl
 | some y=>simp only [Bool.and_assoc]
def Zst (x:Be):Nat->Bool
 | _=>nmB x.nm
theorem Zs3 {f:Nat->Bool} (h:b=(f 0&&(f 1&&(f 2&&(f 3&&f 4))))):(∀ j,j < 5->f j=true)->b=true:=fun hf=>by
 rw [h,hf 0 (by omega),hf 1 (by omega),hf 2 (by omega),hf 3 (by omega),hf 4 (by omega)];rfl
theorem Zna {f:Nat->Bool} (h:b=(f 0&&(f 1&&(f 2&&(f 3&&f 4))))) {j:Nat} (hj:j < 5) (hf:f j=false):b=false:=by
 have hj':j=0\/j=1\/j=2\/j=3\/j=4:=by omega
 rcases hj' with rfl | rfl | rfl | rfl | rfl <;> simp [h,hf]
theorem Zs1 {f:Nat->Bool} (h:b=(f 0&&(f 1&&f 2))):(∀ j,j < 3->f j=true)->b=true:=fun hf=>by
 rw [h,hf 0 (by omega),hf 1 (by omega),hf 2 (by omega)];rfl
theorem Zqb {f:Nat->Bool} (h:b=(f 0&&(f 1&&f 2))) {j:Nat} (hj:j < 3) (hf:f j=false):b=false:=by
 have hj':j=0\/j=1\/j=2:=by omega
 rcases hj' with rfl | rfl | rfl <;> simp [h,hf]
theorem Zs0 {f:Nat->Bool} (h:b=f 0):(∀ j,j < 1->f j=true)->b=true:=fun hf=>by rw [h,hf 0 (by omega)]
theorem ZsF {f:Nat->Bool} (h:b=f 0) {j:Nat} (hj:j < 1) (hf:f j=false):b=false:=by
 have hj':j=0:=by omega
 subst hj';rw [h,hf]
end
theorem ZlK (lo m cb:Nat) (sv cv bv v:Value) (B:Sb) (Xl:List Cp) (w:World) (h:Zc5 lo w sv cv bv B) (hv:Zb1 lo w v Xl) (hck:Box w cb #[.func (.func 252) #[] #[],.func (.func 253) #[] #[],.func (.func 254) #[] #[]]) (hx:Zlv w m B) (hu:ZcK rSv B.ss=true) (hss:B.ss.all (svB B.now)=true) :
 Calls prog 223 #[.agg #[.int .i64 B.now,sv,cv,bv,.map (some m)],v,.slice (some ⟨cb,0,none⟩) 3 3] w fun e w'=>e=.returned (.bool (Xl.all (cpB B)))/\Zw_ w w':=by
 have HK:=Zab h;have HV:=Zab hv;have HCK:=Zab hck;have HIX:=Zab hx;have HU:=Zab hu;have HSS:=Zab hss;clear hx hu hss;obtain⟨a0,k0,rfl⟩:=h.svs.form;obtain⟨a1,k1,rfl⟩:=h.cps.form;obtain⟨a2,k2,rfl⟩:=h.bes.form;obtain⟨a,cap,rfl⟩:=hv.form;have hmx:=hv.max;unfold maxLen at hmx;clear h hv hck;go_enter func223,ntmps223;go_wp2;generalize hWa:w.alloc _=Wa;have HB0:Hd (Zw_ w Wa):=by rw [<- hWa];exact Zac w _
 have HX0:Hd (Box Wa w.heap.size #[.int .i64 B.now,.slice a0 B.ss.length k0,.slice a1 B.cs.length k1,.slice a2 B.bs.length k2,.map (some m)]):=by rw [<- hWa];exact Box.new _ _ _ _ rfl
 have HK0:Hd (Box Wa cb #[.func (.func 252) #[] #[],.func (.func 253) #[] #[],.func (.func 254) #[] #[]]):=by rw [<- hWa];exact HCK.o.on (Zac _ _)
 clear hWa HCK
 go_loopw [13] (fun i wr=>∃ k:Nat,i=.int .i64 k/\k<=Xl.length/\Zw_ w wr/\Box wr w.heap.size #[.int .i64 B.now,.slice a0 B.ss.length k0,.slice a1 B.cs.length k1,.slice a2 B.bs.length k2,.map (some m)]/\Box wr cb #[.func (.func 252) #[] #[],.func (.func 253) #[] #[],.func (.func 254) #[] #[]]/\(∀ j (h:j < Xl.length),j < k->(cpB B) Xl[j]=true)) (fun i _=>Xl.length - (intOf i).toNat)
 case atStart=>exact⟨0,rfl,Nat.zero_le _,HB0.o,HX0.o,HK0.o,fun j _ h=>by omega⟩
 case round=>
  obtain⟨k,rfl,hk,hb,hx,hc,hall⟩:=hrel;have HB:=Zab hb;have HX:=Zab hx;have HC:=Zab hc;have HA:=Zab hall;clear hb hx hc hall HB0 HX0 HK0
  by_cases hlt:k < Xl.length
  . obtain⟨b,off,rfl,hbw,-,hc⟩:=HV.o.full' (by omega)
    obtain⟨hs,hc⟩:=hc k hlt;have HZ:=Zab hs;obtain⟨c0,c1,c2,c3,c4,c5,c6⟩:=hc.below HB.o hbw;clear hc hs;obtain⟨W1,hW1⟩:∃ W,W=wr:=⟨_,rfl⟩
    subst hW1;go_wp2;generalize hW:World.alloc _ _=W;have HBW:Hd (Zw_ w W):=by rw [<- hW];exact zbt HB.o (Zac _ _)
    have HXW:Hd (Box W w.heap.size #[.int .i64 B.now,.slice a0 B.ss.length k0,.slice a1 B.cs.length k1,.slice a2 B.bs.length k2,.map (some m)]):=by rw [<- hW];exact HX.o.on (Zac _ _)
    have HCW:Hd (Box W cb #[.func (.func 252) #[] #[],.func (.func 253) #[] #[],.func (.func 254) #[] #[]]):=by rw [<- hW];exact HC.o.on (Zac _ _)
    have HTW:Hd (Box W W1.heap.size #[.string Xl[k].se,.int .i64 Xl[k].nu,.int .i64 Xl[k].ve,.int .i64 Xl[k].im,.int .i64 Xl[k].st,.bool Xl[k].en,.string Xl[k].be]):=by rw [<- hW];exact Box.new _ _ _ _ rfl
    clear hW HB HX HC c0 c1 c2 c3 c4 c5 c6
    go_loopw [19] (fun i wr=>∃ j:Nat,i=.int .i64 j/\j<=3/\Zw_ w wr/\Box wr w.heap.size #[.int .i64 B.now,.slice a0 B.ss.length k0,.slice a1 B.cs.length k1,.slice a2 B.bs.length k2,.map (some m)]/\Box wr W1.heap.size #[.string Xl[k].se,.int .i64 Xl[k].nu,.int .i64 Xl[k].ve,.int .i64 Xl[k].im,.int .i64 Xl[k].st,.bool Xl[k].en,.string Xl[k].be]/\Box wr cb #[.func (.func 252) #[] #[],.func (.func 253) #[] #[],.func (.func 254) #[] #[]]/\(∀ l,l < j->ZpS B Xl[k] l=true)) (fun i _=>3 - (intOf i).toNat)
    case atStart=>exact⟨0,rfl,by omega,HBW.o,HXW.o,HTW.o,HCW.o,fun l h=>by omega⟩
    case round=>
     obtain⟨j,rfl,hj,hb,hx,ht,hc,hall⟩:=hrel;have HBj:=Zab hb;have HXj:=Zab hx;have HTj:=Zab ht;have HKj:=Zab hc;have HAj:=Zab hall;clear hb hx ht hc hall HBW HXW HCW HTW
     by_cases hjl:j < 3
     . have x:=HXj.o.cell
       have t:=HTj.o.cell;have hj':j=0\/j=1\/j=2:=by omega
       rcases hj' with rfl | rfl | rfl
       . have kc:=HKj.o.cell 0
         simp at kc
         cases hq:ZpS B Xl[k] 0 with
         | false=>
          have HF:Hd (Xl.all (cpB B)=false):=Zbc hlt (Zqb (Zf4 B Xl[k]) (by omega) hq);go_wp2_with (go_at_call 252;refine (Zfz lo m _ _ _ B Xl[k] _ (HK.o.below HBj.o) (HIX.o.below HBj.o) HZ.o HU.o HSS.o).mono ?_;rintro e w3 ⟨he,hb3⟩;replace he:=he.trans (congrArg (fun b=>Ending.returned (.bool b)) hq);subst he;have HB3:=Zab (zbt HBj.o hb3);clear hb3);go_ret;exact⟨Zaa HF.o.symm,HB3.o⟩
         | true=>
          have HQ:=Zab hq;go_wp2_with (go_at_call 252;refine (Zfz lo m _ _ _ B Xl[k] _ (HK.o.below HBj.o) (HIX.o.below HBj.o) HZ.o HU.o HSS.o).mono ?_;rintro e w3 ⟨he,hb3⟩;replace he:=he.trans (congrArg (fun b=>Ending.returned (.bool b)) HQ.o);subst he;have HB3:=Zab (zbt HBj.o hb3);have HX3:=Zab (HXj.o.on hb3);have HT3:=Zab (HTj.o.on hb3);have HK3:=Zab (HKj.o.on hb3);clear hb3);go_roundw
          case rel=>exact⟨1,by go_num,by omega,HB3.o,HX3.o,HT3.o,HK3.o,fun l hl=>by
                     by_cases e:l=0
                     . rw [e];exact HQ.o
                     . exact HAj.o l (by omega)⟩
          . simp [intOf]
       . have kc:=HKj.o.cell 1
         simp at kc
         cases hq:ZpS B Xl[k] 1 with
         | false=>
          have HF:Hd (Xl.all (cpB B)=false):=Zbc hlt (Zqb (Zf4 B Xl[k]) (by omega) hq);go_wp2_with (go_at_call 253;refine (ZeA lo m _ _ _ B Xl[k] _ (HK.o.below HBj.o)).mono ?_;rintro e w3 ⟨he,hb3⟩;replace he:=he.trans (congrArg (fun b=>Ending.returned (.bool b)) hq);subst he;have HB3:=Zab (zbt HBj.o hb3);clear hb3);go_ret;exact⟨Zaa HF.o.symm,HB3.o⟩
         | true=>
          have HQ:=Zab hq;go_wp2_with (go_at_call 253;refine (ZeA lo m _ _ _ B Xl[k] _ (HK.o.below HBj.o)).mono ?_;rintro e w3 ⟨he,hb3⟩;replace he:=he.trans (congrArg (fun b=>Ending.returned (.bool b)) HQ.o);subst he;have HB3:=Zab (zbt HBj.o hb3);have HX3:=Zab (HXj.o.on hb3);have HT3:=Zab (HTj.o.on hb3);have HK3:=Zab (HKj.o.on hb3);clear hb3);go_roundw
          case rel=>exact⟨2,by go_num,by omega,HB3.o,HX3.o,HT3.o,HK3.o,fun l hl=>by
                     by_cases e:l=1
                     . rw [e];exact HQ.o
                     . exact HAj.o l (by omega)⟩
          . simp [intOf]
       . have kc:=HKj.o.cell 2
         simp at kc
         cases hq:ZpS B Xl[k] 2 with
         | false=>
          have HF:Hd (Xl.all (cpB B)=false):=Zbc hlt (Zqb (Zf4 B Xl[k]) (by omega) hq);go_wp2_with (go_at_call 254;refine (Ze5 lo m _ _ _ B Xl[k] _ (HK.o.below HBj.o) (HIX.o.below HBj.o) HZ.o).mono ?_;rintro e w3 ⟨he,hb3⟩;replace he:=he.trans (congrArg (fun b=>Ending.returned (.bool b)) hq);subst he;have HB3:=Zab (zbt HBj.o hb3);clear hb3);go_ret;exact⟨Zaa HF.o.symm,HB3.o⟩
         | true=>
          have HQ:=Zab hq;go_wp2_with (go_at_call 254;refine (Ze5 lo m _ _ _ B Xl[k] _ (HK.o.below HBj.o) (HIX.o.below HBj.o) HZ.o).mono ?_;rintro e w3 ⟨he,hb3⟩;replace he:=he.trans (congrArg (fun b=>Ending.returned (.bool b)) HQ.o);subst he;have HB3:=Zab (zbt HBj.o hb3);have HX3:=Zab (HXj.o.on hb3);have HT3:=Zab (HTj.o.on hb3);have HK3:=Zab (HKj.o.on hb3);clear hb3);go_roundw
          case rel=>exact⟨3,by go_num,by omega,HB3.o,HX3.o,HT3.o,HK3.o,fun l hl=>by
                     by_cases e:l=2
                     . rw [e];exact HQ.o
                     . exact HAj.o l (by omega)⟩
          . simp [intOf]
     . have hjn:j=3:=by omega
       subst hjn;have HT:Hd ((cpB B) Xl[k]=true):=Zs1 (Zf4 B Xl[k]) HAj.o;go_wp2;go_roundw
       . exact⟨k+1,by go_num,by omega,HBj.o,HXj.o,HKj.o,Zbr HA.o hlt HT.o⟩
       . simp [intOf];omega
  . have HT:Hd (Xl.all (cpB B)=true):=Zb2 fun i hi=>HA.o i hi (by omega)
    go_wp2;go_ret;exact⟨Zaa HT.o.symm,HB.o⟩
end Go.Proofs.YtbdhbihhgfpnnaaGreat
