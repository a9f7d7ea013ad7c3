import Derived.Test.YtmappejlmapboaaGreatD29
import Derived.Test.YtmappejlmapboaaGreatD30
import Derived.Test.YtmappejlmapboaaGreatD32
set_option maxHeartbeats 16000000
set_option maxRecDepth 100000
open Go.Proofs.Tryz
namespace Go.Proofs.YtmappejlmapboaaGreat
open Go.RowKit Go.Deep
variable {Ss:List Sh} {m:Md}
theorem ZrX {x:Sh} (hs:ZaH Ss=true) (hx:Zcn Ss m.kind=some x):Zez x.fields m=Zdp Ss m:=by
 unfold Zdp;rw [hx];exact Zqv (ZgX (Zbz hs (Zcg hx).1))
theorem Zow (hx:Zcn Ss m.kind=none):Zdp Ss m=false:=by unfold Zdp;rw [hx]
theorem ZqX (lo lm:Nat) (sv mv:Value) (Ss:List Sh) (Ms:List Md) (w:World) (hS:ZaI lo w sv Ss) (hM:Zbe lm w mv Ms) (hsb:ZaH Ss=true) :
 Calls prog 205 #[sv,mv] w fun e w'=>e=.returned (.bool (Zax Ss Ms))/\Zw_ w w':=by
 have HS:=Zab hS;have HM:=Zab hM;have HSB:=Zab hsb;obtain⟨a1,cap1,rfl⟩:=hS.form;obtain⟨a2,cap2,rfl⟩:=hM.form;clear hS hM hsb
 have hml:(Ms.length:Int)<=9223372036854775807:=by
  rcases HM.o with ⟨_,_,_,h⟩ | ⟨_,_,_,_,_,h,_⟩
  . rw [h];simp
  . unfold maxLen at h;omega
 have hs6:Ss.length<=6:=Zjl HSB.o
 by_cases h12:(Ms.length:Int)<=12
 . go_enter func205,ntmps205
   go_wp2
   go_loopw [18] (fun i wr=>∃ k:Nat,i=.int .i64 k/\k<=Ms.length/\Zw_ w wr/\∀ i (h:i < Ms.length),i < k->Zdp Ss Ms[i]=true) (fun i _=>Ms.length - (intOf i).toNat)
   case atStart=>exact⟨0,rfl,by omega,Below.refl _ _,fun i _ h=>by omega⟩
   case round=>
    obtain⟨k,rfl,hk,hb,hall⟩:=hrel;have HA:=Zab hall;have HB:=Zab hb;clear hall hb
    by_cases hlt:k < Ms.length
    . obtain⟨b,off,rfl,hbw,hc⟩:=HM.o.full' (by omega)
      obtain⟨hsz,hcell⟩:=hc k hlt;obtain⟨c0,c1,c2,c3,c4,c5⟩:=hcell.below HB.o hbw;clear hcell hc;go_wp2_with fail;generalize hWa:wr.alloc _=Wa;have hba:Below wr.heap.size wr Wa:=by rw [<- hWa];exact Zac _ _
      have FM:Hd (Box Wa wr.heap.size #[.string Ms[k].kind,.string Ms[k].field,.string Ms[k].wh,.string Ms[k].is,.string Ms[k].put,.string Ms[k].fr]):=by rw [<- hWa];exact Box.new _ _ _ _ rfl
      have HBa:Hd (Zw_ w Wa):=HB.o.trans (hba.mono HB.o.size);clear hWa hba c0 c1 c2 c3 c4 c5;refine (ZdD lo _ Ss Ms[k].kind w _ HS.o HBa.o).mono ?_;rintro e w1 ⟨hb1,hsh⟩;have FM:=Zab (FM.o.on hb1);have HB1:Hd (Zw_ w w1):=HBa.o.trans (hb1.mono HBa.o.size);clear hb1 HBa;have g1:=FM.o.cell;have gl:=FM.o.lt
      rcases hsh with ⟨x,fv,hx,rfl,hfd⟩ | ⟨hx,rfl⟩
      . obtain⟨fa,fcap,rfl⟩:=hfd.form
        have HFD:=Zab hfd;have HX:=Zab hx;clear hfd hx;go_wp2_with fail;clear g1 gl;refine (Zox lo _ _ x.fields Ms[k] w _ HFD.o (HB1.o.alloc HB1.o.size _) hsz).mono ?_;rintro e w2 ⟨rfl,hb2⟩;have HB2:Hd (Zw_ w w2):=(HB1.o.alloc HB1.o.size _).trans (hb2.mono (HB1.o.alloc HB1.o.size _).size);clear hb2;rw [ZrX HSB.o HX.o]
        cases hmb:Zdp Ss Ms[k] with
        | false=>
         have HQ:Hd (Zax Ss Ms=false):=Zh2 hlt hmb;go_wp2;go_ret;exact⟨Zaa HQ.o.symm,HB2.o⟩
        | true=>
         go_wp2;go_roundw
         case rel=>exact⟨k+1,by go_num,by omega,HB2.o,fun i h h'=>by
                    by_cases e:i=k
                    . subst e;exact hmb
                    . exact HA.o i h (by omega)⟩
         . simp [intOf];omega
      . have HQ:Hd (Zax Ss Ms=false):=Zh2 hlt (Zow hx)
        go_wp2;go_ret;exact⟨Zaa HQ.o.symm,HB1.o.alloc HB1.o.size _⟩
    . have HAll:Hd (∀ i (h:i < Ms.length),Zdp Ss Ms[i]=true):=fun i h=>HA.o i h (by omega)
      have HBx:Hd (Zw_ w wr):=HB.o;clear HA HB;go_wp2;clear hlt hk
      go_loopw [40] (fun i wr=>∃ k:Nat,i=.int .i64 k/\k<=Ss.length/\Zw_ w wr/\∀ i (h:i < Ss.length),i < k->Zbr Ms Ss[i]=true) (fun i _=>Ss.length - (intOf i).toNat)
      case atStart=>exact⟨0,rfl,by omega,HBx.o,fun i _ h=>by omega⟩
      case round=>
       clear HBx;obtain⟨j,rfl,hj,hb,hall⟩:=hrel;have HA:=Zab hall;have HB:=Zab hb;clear hall hb
       by_cases hlt:j < Ss.length
       . obtain⟨b,off,rfl,hbw,hc⟩:=HS.o.full' (by omega)
         obtain⟨hsz,fv,d0,d1,hst⟩:=hc j hlt;have c0:wr.cell? ⟨b,off+j*2,none⟩=some (.string Ss[j].kind):=by rw [HB.o.cell (p:=⟨b,_,none⟩) hbw];exact d0
         have c1:wr.cell? ⟨b,off+j*2+1,none⟩=some fv:=by rw [HB.o.cell (p:=⟨b,_,none⟩) hbw];exact d1
         obtain⟨fa,fcap,rfl⟩:=hst.form;have HST:=Zab hst;have h6:Ss[j].fields.length<=6:=Zdb (Zbz HSB.o (List.getElem_mem hlt));clear d0 d1 hst hc;go_wp2_with fail;have HBa:=fun o=>Zab (HB.o.alloc HB.o.size o)
         refine (ZgU lo lm _ _ Ss[j] Ms w _ HST.o (HBa _).o (HM.o.below (HBa _).o) (by omega) (by omega)).mono ?_;rintro e w2 ⟨hb2,hgr⟩;have HB2:Hd (Zw_ w w2):=(HBa _).o.trans (hb2.mono (HBa _).o.size);clear hb2 HBa c0 c1
         rcases hgr with ⟨v2,R,rfl,ho,hg,hl⟩ | ⟨hno,rfl⟩
         . have HSR:Hd (Zbr Ms Ss[j]=true):=Znh hg hl
           obtain⟨va,vcap,rfl⟩:=ho.form;clear ho hg hl;go_wp2;go_roundw
           case rel=>exact⟨j+1,by go_num,by omega,HB2.o,fun i h h'=>by
                      by_cases e:i=j
                      . subst e;exact HSR.o
                      . exact HA.o i h (by omega)⟩
           . simp [intOf];omega
         . have HQ:Hd (Zax Ss Ms=false):=Zla hlt hno
           clear hno;go_wp2;go_ret;exact⟨Zaa HQ.o.symm,HB2.o⟩
       . have HQ:Hd (Zax Ss Ms=true):=Zk8 HSB.o (by omega) HAll.o (fun i h=>HA.o i h (by omega))
         go_wp2;go_ret;exact⟨Zaa HQ.o.symm,HB.o⟩
 . have HQ:Hd (Zax Ss Ms=false):=Zi8 (by omega)
   go_enter func205,ntmps205;go_wp2;go_ret;exact⟨Zaa HQ.o.symm,Below.refl _ _⟩
theorem ZjT (lo lm:Nat) (sv mv:Value) (Ss:List Sh) (Ms:List Md) (w:World) (hS:ZaI lo w sv Ss) (hM:Zbe lm w mv Ms) :
 Calls prog 178 #[sv,mv] w fun e w'=>e=.returned (.bool (Zax Ss Ms))/\Zw_ w w':=by
 have HS:=Zab hS;have HM:=Zab hM;obtain⟨a1,cap1,rfl⟩:=hS.form;obtain⟨a2,cap2,rfl⟩:=hM.form;clear hS hM;go_enter func178,ntmps178;go_wp2_with fail;refine (Ziy lo _ Ss _ HS.o).mono ?_;rintro e w1 ⟨rfl,hb1⟩;have HB1:=Zab hb1;clear hb1
 cases hsb:ZaH Ss with
 | false=>
  have HQ:Hd (Zax Ss Ms=false):=Zk9 hsb;go_wp2;go_ret;exact⟨Zaa HQ.o.symm,HB1.o⟩
 | true=>
  have HSB:=Zab hsb;clear hsb;go_wp2_with fail;refine (ZqX lo lm _ _ Ss Ms _ (HS.o.below HB1.o) (HM.o.below HB1.o) HSB.o).mono ?_;rintro e w2 ⟨rfl,hb2⟩;have HB2:Hd (Zw_ w w2):=HB1.o.trans (hb2.mono HB1.o.size);clear hb2;go_wp2;go_ret;exact⟨rfl,HB2.o⟩
end Go.Proofs.YtmappejlmapboaaGreat
