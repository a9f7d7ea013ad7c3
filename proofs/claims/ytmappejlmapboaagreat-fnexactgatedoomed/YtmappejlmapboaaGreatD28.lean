import Derived.Test.YtmappejlmapboaaGreatD27
set_option maxHeartbeats 16000000
set_option maxRecDepth 100000
open Go.Proofs.Tryz
namespace Go.Proofs.YtmappejlmapboaaGreat
open Go.RowKit Go.Deep
theorem ZoS {Ss:List Sh}{k:Nat} (h6:Ss.length<=6) (hk:Ss.length<=k) (h:∀ i,i < k->Za5 Ss i=true):ZaH Ss=true:=by
 unfold ZaH;rw [Za1 (fun i hi=>h i (by omega))];simp [h6]
theorem Ziy (lo:Nat) (v:Value) (Ss:List Sh) (w:World) (hv:ZaI lo w v Ss) :
 Calls prog 204 #[v] w fun e w'=>e=.returned (.bool (ZaH Ss))/\Zw_ w w':=by
 have HL:=Zab hv;have HW:∀ o,Hd (Zw_ w (w.alloc o)):=fun o=>Zb_.alloc Zl_ _
 by_cases hL:Ss=[]
 . subst hL
   obtain⟨a,cap,rfl⟩:=hv.form;clear hv;go_enter func204,ntmps204;go_wp2_with fail;refine (Ze9 _).mono ?_;rintro e w1 ⟨rfl,rfl⟩;go_wp2
   go_loop [12] (fun i=>i=.int .i64 0) (fun _=>0)
   case atStart=>rfl
   case round=>
    subst hrel;go_wp2;go_ret;exact⟨rfl,(HW _).o⟩
 obtain⟨b,off,cap,rfl,hm,hbw,hc⟩:=hv.full hL;clear hv;unfold maxLen at hm
 by_cases h6:(Ss.length:Int)<=6
 . go_enter func204,ntmps204
   go_wp2_with fail;refine (Ze9 _).mono ?_;rintro e w1 ⟨rfl,hw1⟩;have HB0:Hd (Zw_ w w1):=by unfold Hd;rw [hw1];exact (HW _).o
   have HR0:Hd (w1.heap[w.heap.size]?=some (.map Zak 4)):=by unfold Hd;rw [hw1];exact (MapKept.heap_alloc w _).1
   have hz1:w.heap.size < w1.heap.size:=by rw [hw1];simp
   clear hw1;go_wp2
   go_loopw [12] (fun i wr=>∃ k:Nat,i=.int .i64 k/\k<=Ss.length/\Below w1.heap.size w1 wr/\∀ i,i < k->Za5 Ss i=true) (fun i _=>Ss.length - (intOf i).toNat)
   case atStart=>exact⟨0,rfl,by omega,Below.refl _ _,fun i h=>by omega⟩
   case round=>
    obtain⟨k,rfl,hk,hb1,hall⟩:=hrel;have HA:=Zab hall;have HB1:=Zab hb1;have HB:Hd (Zw_ w wr):=HB0.o.trans (hb1.mono HB0.o.size);have HR:Hd (wr.heap[w.heap.size]?=some (.map Zak 4)):=by unfold Hd;rw [hb1.block w.heap.size hz1];exact HR0.o
    clear hall hb1
    by_cases hlt:k < Ss.length
    . obtain⟨hsz,fv,d0,d1,hst⟩:=hc k hlt
      have c0:wr.cell? ⟨b,off+k*2,none⟩=some (.string Ss[k].kind):=by rw [HB.o.cell (p:=⟨b,_,none⟩) hbw];exact d0
      have c1:wr.cell? ⟨b,off+k*2+1,none⟩=some fv:=by rw [HB.o.cell (p:=⟨b,_,none⟩) hbw];exact d1
      have HST:=Zab hst;obtain⟨fa,fcap,rfl⟩:=hst.form;clear d0 d1 hst;have hbo:b < wr.heap.size:=Zk_ hbw HB.o.size
      cases hnm:Zap Ss[k].kind with
      | false=>
       have HN:Hd (ZaH Ss=false):=by
        unfold Hd;refine ZbB hlt ?_
        cases k with
        | zero=>rw [ZcQ hlt,hnm];rfl
        | succ j=>rw [ZbP hlt,hnm];rfl
       go_wp2
       go_quiet ((go_at_call 206;exact Calls.quiet_of_same (Zan _ _ hsz)))
       go_wp2;go_ret;exact⟨Zaa HN.o.symm,below_drewN (HB.o.alloc HB.o.size _) _⟩
      | true=>
       cases k with
       | zero=>
        have HEQ:Hd (Za5 Ss 0=ZaA Ss Ss[0].fields):=by unfold Hd;rw [ZcQ hlt,hnm];rfl
        have c0':wr.cell? ⟨b,off,none⟩=some (.string Ss[0].kind):=by simpa using c0
        have c1':wr.cell? ⟨b,off+1,none⟩=some (.slice fa Ss[0].fields.length fcap):=by simpa using c1
        clear c0 c1;go_wp2
        go_quiet ((go_at_call 206;exact Calls.quiet_of_same (Zan _ _ hsz)))
        go_wp2_with fail;have HBD:∀ o n,Hd (Zw_ w ((wr.alloc o).drewN n)):=fun o n=>below_drewN (HB.o.alloc HB.o.size _) _
        have HRD:∀ o n,Hd (((wr.alloc o).drewN n).heap[w.heap.size]?=some (.map Zak 4)):=fun o n=>by
         unfold Hd;rw [(below_drewN ((Below.refl wr.heap.size wr).alloc Zl_ o) n).block w.heap.size (Zk_ hz1 HB1.o.size)];exact HR.o
        refine (ZgW w.heap.size lo lo _ _ Ss Ss[0].fields _ (HRD _ _).o (HL.o.below (HBD _ _).o) (HST.o.below (HBD _ _).o)).mono ?_;rintro e w3 ⟨rfl,hb3⟩;have HB3:Hd (Zw_ w w3):=(HBD _ _).o.trans (hb3.mono (HBD _ _).o.size);have HB13:Hd (Below w1.heap.size w1 w3):=(below_drewN (HB1.o.alloc HB1.o.size _) _).trans (hb3.mono (below_drewN (HB1.o.alloc HB1.o.size _) _).size);clear hb3
        cases hfb:ZaA Ss Ss[0].fields with
        | false=>
         have HN:Hd (ZaH Ss=false):=ZbB hlt (by rw [HEQ.o];exact hfb);go_wp2;go_ret;exact⟨Zaa HN.o.symm,HB3.o⟩
        | true=>
         have hnx:Hd (∀ i,i < 0+1->Za5 Ss i=true):=fun i hi=>by
          by_cases e:i=0
          . rw [e,HEQ.o];exact hfb
          . exact HA.o i (by omega)
         go_wp2;go_roundw
         . exact⟨0+1,by go_num,by omega,HB13.o,hnx.o⟩
         . simp [intOf];omega
       | succ jj=>
        obtain⟨_,fvj,dj,_,_⟩:=hc jj (by omega);have cj:wr.cell? ⟨b,off+jj*2,none⟩=some (.string Ss[jj].kind):=by rw [HB.o.cell (p:=⟨b,_,none⟩) hbw];exact dj
        clear dj;have hjw:IntKind.i64.wrap (jj:Int)=jj:=by rw [IntKind.wrap_i64];omega
        have hjl:jj < Ss.length:=by omega
        have hdl:decide ((jj:Int)+1 < (Ss.length:Int))=true:=by simp;omega
        have cj2:∀ o,(wr.alloc o).cell? ⟨b,off+jj*2,none⟩=some (.string Ss[jj].kind):=fun o=>by rw [((Below.refl wr.heap.size wr).alloc Zl_ o).cell (p:=⟨b,_,none⟩) hbo];exact cj
        have cj3:∀ o n,((wr.alloc o).drewN n).cell? ⟨b,off+jj*2,none⟩=some (.string Ss[jj].kind):=fun o n=>cj2 o
        cases hls:Op.bytesLess Ss[jj].kind.toList Ss[jj+1].kind.toList with
        | false=>
         have HN:Hd (ZaH Ss=false):=ZbB hlt (by rw [ZbP hlt,hls];simp);go_wp2
         go_quiet ((go_at_call 206;exact Calls.quiet_of_same (Zan _ _ hsz)))
         go_wp2;go_ret;exact⟨Zaa HN.o.symm,below_drewN (HB.o.alloc HB.o.size _) _⟩
        | true=>
         have HEQ:Hd (Za5 Ss (jj+1)=ZaA Ss Ss[jj+1].fields):=by unfold Hd;rw [ZbP hlt,hnm,hls];rfl
         go_wp2
         go_quiet ((go_at_call 206;exact Calls.quiet_of_same (Zan _ _ hsz)))
         go_wp2_with fail;have HBD:∀ o n,Hd (Zw_ w ((wr.alloc o).drewN n)):=fun o n=>below_drewN (HB.o.alloc HB.o.size _) _
         have HRD:∀ o n,Hd (((wr.alloc o).drewN n).heap[w.heap.size]?=some (.map Zak 4)):=fun o n=>by
          unfold Hd;rw [(below_drewN ((Below.refl wr.heap.size wr).alloc Zl_ o) n).block w.heap.size (Zk_ hz1 HB1.o.size)];exact HR.o
         refine (ZgW w.heap.size lo lo _ _ Ss Ss[jj+1].fields _ (HRD _ _).o (HL.o.below (HBD _ _).o) (HST.o.below (HBD _ _).o)).mono ?_;rintro e w3 ⟨rfl,hb3⟩;have HB3:Hd (Zw_ w w3):=(HBD _ _).o.trans (hb3.mono (HBD _ _).o.size);have HB13:Hd (Below w1.heap.size w1 w3):=(below_drewN (HB1.o.alloc HB1.o.size _) _).trans (hb3.mono (below_drewN (HB1.o.alloc HB1.o.size _) _).size);clear hb3
         cases hfb:ZaA Ss Ss[jj+1].fields with
         | false=>
          have HN:Hd (ZaH Ss=false):=ZbB hlt (by rw [HEQ.o];exact hfb);go_wp2;go_ret;exact⟨Zaa HN.o.symm,HB3.o⟩
         | true=>
          have hnx:Hd (∀ i,i < jj+1+1->Za5 Ss i=true):=fun i hi=>by
           by_cases e:i=jj+1
           . rw [e,HEQ.o];exact hfb
           . exact HA.o i (by omega)
          go_wp2;go_roundw
          . exact⟨jj+1+1,by go_num,by omega,HB13.o,hnx.o⟩
          . simp [intOf];omega
    . go_wp2
      go_ret;exact⟨Zaa (ZoS (by omega) (by omega) HA.o).symm,HB.o⟩
 . go_enter func204,ntmps204
   go_wp2;go_ret;exact⟨Zaa (by unfold ZaH;simp;intro h;omega),Below.refl _ _⟩
end Go.Proofs.YtmappejlmapboaaGreat
