import Derived.Test.YtfohnageehneoaaGreatULA
import Derived.RangeFuncWrites
import Derived.Maps.OwnIn
import Derived.Test.YtfohnageehneoaaGreatUN9
import Derived.Test.YtfohnageehneoaaGreatUTE
set_option maxHeartbeats 16000000
set_option maxRecDepth 100000
open Go.Proofs.Tryz
namespace Go.Proofs.YtfohnageehneoaaGreat
open Go.RowKit Go.Deep Go.Shelf
variable {n b0 fuel:Nat} {w' wr wr':World} {cs l:List Value} {ds:List Nat} {v c:Value}
attribute [local go_sem] Oper.semAt_some
section
variable (lo:Nat) (sv:Value) (Ss:List Sh) (kind nm team:Zy_) (vv hv:Value) (en:Bool) (ver:Int) (V Ho:List Zy_) (w:World)
def ZhJ (s:Zy_):Zy_:=if s.size<=maxLen then s else ⟨#[]⟩
theorem Zew {s:Zy_} (h:s.size<=maxLen):ZhJ s=s:=if_pos h
theorem ZfP (s:Zy_):(ZhJ s).size<=maxLen:=by
 unfold ZhJ
 split
 . assumption
 . exact Nat.zero_le _
abbrev ZsQ (x:Zy_×Int):Array Value:=#[.string (ZhJ x.1),.int .i64 x.2]
theorem ZhC (n:Nat) (sk:kind.size<=maxLen) (hn:1<=n) (S:Nat->Prop) (w0:World) (B1 B2:Nat) (h0:Below w0.heap.size w0 w) (hS:ZaR lo w0 sv Ss) (hV:Zag w0 vv V) (n1:V.length<=1048576)
 (s0:∀ k,k < w0.heap.size->¬ S k) (s2:¬ S B2) (s3:∀ k,w.heap.size<=k->¬ S k)
 (hX1:Box w B1 #[sv]) (hX2:Box w B2 #[.string kind,.string nm,.string team,vv,.bool en,hv,.int .i64 ver]) :
 SeqStopsK Fence.wide n prog 246 #[.pointer (some ⟨B1,0,none⟩),.pointer (some ⟨B2,0,none⟩)] ZsQ (ZaO S w.heap.size) (fun xs=>xs=Zes Ss kind V) (fun _=>True) (V.length+1) w:=by
 intro l J Jx W hW hJ hJx hY hJ0;have HS:=Zab hS;have HV:=Zab hV;obtain⟨a,cap,rfl⟩:=hS.form;obtain⟨va,vcap,rfl⟩:=hV.form';have H0:=Zab (h0.trans (hW.mono h0.size));have x1:=(hX1.below hW hX1.lt).cell 0;have HO:=Zab (hX2.below hW hX2.lt);have hw:w.heap.size<=W.heap.size:=hW.size;have hw0:w0.heap.size<=w.heap.size:=h0.size;have HJ:=Zab hJ;have HY:=Zab hY;have S0:=Zab s0;have S2:=Zab s2;have S3:=Zab s3;simp at x1;clear hS hV h0 hW hX1 hX2 hJ hY s0 s2 s3 hJx;refine callsIn_of_wp func246 rfl trivial ?_ rfl;simp only [ntmps246,List.size_toArray,List.length_cons,List.length_nil,Nat.reduceAdd,Nat.reduceSub,Array.replicate_succ,Array.replicate_zero,List.push_toArray,List.append_toArray,List.nil_append,List.cons_append];have o0:=HO.o.cell 0;have o3:=HO.o.cell 3;simp at o0 o3
 gi_wp2_with fail
 refine⟨trivial,(callsIn_wide.2 (Zel lo _ Ss kind w0 W HS.o H0.o)).mono ?_⟩;rintro e w1 ⟨hb1,hq⟩;have HB1:=Zab hb1;have HJ1:=Zab (Zbw HJ.o hJ0 hb1);have HO1:=Zab (HO.o.on hb1);have H1:=Zab (H0.o.trans (hb1.mono H0.o.size));have o0:=HO1.o.cell 0;have o3:=HO1.o.cell 3;simp at o0 o3;have o0:∀ o,(w1.alloc o).cell? ⟨B2,0,none⟩=some (.string kind):=fun o=>(Zak _ _ _ _ HO1.o.lt).trans o0
 have o3:∀ o,(w1.alloc o).cell? ⟨B2,3,none⟩=some (.slice va V.length vcap):=fun o=>(Zak _ _ _ _ HO1.o.lt).trans o3
 clear hb1 hJ0 HO H0 x1
 rcases hq with ⟨x,fv,hsh,rfl,hF⟩ | ⟨hno,rfl⟩
 . have HF:=Zab hF
   have HSH:=Zab hsh;obtain⟨fa,fcap,rfl⟩:=hF.form;clear hF hsh
   by_cases hl:x.fields.length=V.length
   . have HL:=Zab hl
     have hne:((V.length:Int) != (x.fields.length:Int))=false:=by rw [hl];simp
     have HE:=Zab (Zjz HSH.o hl);clear hl;have HT:Hd (∀ o,J [] (w1.alloc o)):=fun o=>Zbw HJ.o HJ1.o (Zac _ _)
     cases hk:kind.toList.isEmpty with
     | true=>
      gi_wp2
      all_goals (refine⟨fun _ h=>(by cases h),?_⟩;gi_wp2)
      have HJT:Hd (J (ZdA kind ++ Za1 x.fields V 0) (w1.alloc (.cells #[.string x.kind,.slice fa x.fields.length fcap] 164))):=by unfold Hd ZdA;rw [hk];exact HT.o _
      have HBT:Hd (Below w0.heap.size w0 (w1.alloc (.cells #[.string x.kind,.slice fa x.fields.length fcap] 164))):=H1.o.trans ((Zac _ _).mono H1.o.size);have p3:=o3 (.cells #[.string x.kind,.slice fa x.fields.length fcap] 164);have plt:B2 < (w1.alloc (.cells #[.string x.kind,.slice fa x.fields.length fcap] 164)).heap.size:=by have:=HO1.o.lt;simp;omega
      have pw:w.heap.size<=(w1.alloc (.cells #[.string x.kind,.slice fa x.fields.length fcap] 164)).heap.size:=by have:=HB1.o.size;simp;omega
      gi_loopw [41] (fun i wr=>∃ k:Nat,i=.int .i64 k/\k<=x.fields.length/\J (ZdA kind ++ Za1 x.fields V k) wr/\Below w0.heap.size w0 wr/\wr.cell? ⟨B2,3,none⟩=some (.slice va V.length vcap)/\B2 < wr.heap.size/\w.heap.size<=wr.heap.size)
       (fun i _=>x.fields.length - (intOf i).toNat)
      case atStart=>exact⟨0,rfl,Nat.zero_le _,HJT.o,HBT.o,p3,plt,pw⟩
      case round=>
       obtain⟨k,rfl,hkl,hJk,hBk,q3,qlt,qw⟩:=hrel;have HJK:=Zab hJk;have HBK:=Zab hBk;clear hJk hBk
       by_cases hlt:k < x.fields.length
       . have hlv:k < V.length:=by have:=HL.o;omega
         obtain⟨fb,foff,rfl,hfb,hfc⟩:=HF.o.full' (by omega);obtain⟨hsz,wv,hcell,hst⟩:=hfc k hlt;obtain⟨c0,c1,c2,c3,c4,c5,c6,c7,c8,c9,c10⟩:=hcell.below HBK.o hfb;obtain⟨wa,wn,wcap,rfl⟩:=hst.form;obtain⟨vb,voff,rfl,hvb,hvc,hvs⟩:=HV.o.spread (by omega);have hvk:wr.cell? ⟨vb,voff+k,none⟩=some (.string V[k]):=(HBK.o.cell (p:=⟨vb,voff+k,none⟩) hvb).trans (hvc k hlv);have hvk:∀ o,(wr.alloc o).cell? ⟨vb,voff+k,none⟩=some (.string V[k]):=fun o=>(Zak _ _ _ _ (Zk_ hvb HBK.o.size)).trans hvk
         have q3':∀ o,(wr.alloc o).cell? ⟨B2,3,none⟩=some (.slice (some ⟨vb,voff,none⟩) V.length vcap):=fun o=>(Zak _ _ _ _ qlt).trans q3
         have hvz:V[k].size<=maxLen:=hvs _ (List.getElem_mem hlv);have HST:=Zab (Zhb hlt hlv);have HA:∀ o,Hd (J (ZdA kind ++ Za1 x.fields V k) (wr.alloc o)):=fun o=>Zbw HJ.o HJK.o (Zac _ _)
         have HAB:∀ o,Hd (Below w0.heap.size w0 (wr.alloc o)):=fun o=>HBK.o.trans ((Zac _ _).mono HBK.o.size)
         have hwe:=hsz.s10;clear hfc hcell hst hvc hvs hsz
         cases hk1:(x.fields[k].kd == 1) with
         | false=>
          have hk1':(x.fields[k].kd != 1)=true:=by simp [bne,hk1]
          have HE2:Hd (Za1 x.fields V (k+1)=Za1 x.fields V k):=by unfold Hd;rw [HST.o,hk1];simp
          gi_wp2
          go_roundw
          . exact⟨k+1,by go_num,by omega,by rw [HE2.o];exact (HA _).o,(HAB _).o,q3' _,by simp;omega,by simp;omega⟩
          . simp [intOf];omega
         | true=>
          have hk1':(x.fields[k].kd != 1)=false:=by simp [bne,hk1]
          cases hk2:x.fields[k].we.toList.isEmpty with
          | true=>
           have HE2:Hd (Za1 x.fields V (k+1)=Za1 x.fields V k):=by unfold Hd;rw [HST.o,hk1,hk2];simp
           gi_wp2
           go_roundw
           . exact⟨k+1,by go_num,by omega,by rw [HE2.o];exact (HA _).o,(HAB _).o,q3' _,by simp;omega,by simp;omega⟩
           . simp [intOf];omega
          | false=>
           have HE2:Hd (Za1 x.fields V (k+1)=Za1 x.fields V k ++ [(x.fields[k].we,Zi8 V[k])]):=by unfold Hd;rw [HST.o,hk1,hk2];simp
           have hpl:(ZdA kind ++ Za1 x.fields V k).length < V.length+1:=by
            have:=ZfX x.fields V k;have:(ZdA kind).length<=1:=by unfold ZdA;split <;> simp
            rw [List.length_append];omega
           have HP:=Zab hpl;clear hpl;obtain⟨fn,tmps,assign,body,hy,hR⟩:=HY.o _ (x.fields[k].we,Zi8 V[k]) _ (HA (.cells #[.string x.fields[k].nm,.int .i64 x.fields[k].kd,.int .i64 x.fields[k].le,.int .i64 x.fields[k].mo,.slice wa wn wcap,.string x.fields[k].to,.int .i64 x.fields[k].ro,.bool x.fields[k].mu,.bool x.fields[k].fx,.string x.fields[k].df,.string x.fields[k].we] 218)).o HP.o;dsimp only [ZsQ] at hy;rw [Zew hwe] at hy;have HR:=Zab hR;clear hR
           gi_wp2_with (refine⟨trivial,?_⟩;gi_at_call 247;refine (callsIn_wide.2 (Zdl _ _ hvz)).mono ?_;rintro e w3 ⟨rfl,rfl⟩)
           refine HR.o.mono ?_;rintro e W3 (⟨rfl,hJ3,hk3⟩ | ⟨rfl,hJx3⟩)
           . have HJ3:=Zab hJ3
             have r3:=hk3.cell (q3' (.cells #[.string x.fields[k].nm,.int .i64 x.fields[k].kd,.int .i64 x.fields[k].le,.int .i64 x.fields[k].mo,.slice wa wn wcap,.string x.fields[k].to,.int .i64 x.fields[k].ro,.bool x.fields[k].mu,.bool x.fields[k].fx,.string x.fields[k].df,.string x.fields[k].we] 218)) S2.o;have rB:Hd (Below w0.heap.size w0 W3):=(HAB (.cells #[.string x.fields[k].nm,.int .i64 x.fields[k].kd,.int .i64 x.fields[k].le,.int .i64 x.fields[k].mo,.slice wa wn wcap,.string x.fields[k].to,.int .i64 x.fields[k].ro,.bool x.fields[k].mu,.bool x.fields[k].fx,.string x.fields[k].df,.string x.fields[k].we] 218)).o.trans (hk3.below (HAB _).o.size S0.o hw0);have rz:=hk3.size;simp at rz;clear hk3 hJ3 hy
             gi_wp2
             go_roundw
             . exact⟨k+1,by go_num,by omega,by rw [HE2.o,<- List.append_assoc];exact HJ3.o,rB.o,r3,by omega,by omega⟩
             . simp [intOf];omega
           . have HX3:=Zab hJx3
             clear hJx3 hy
             gi_wp2
             refine bodyPost_ret (results_none rfl _ _ _) rfl ?_;exact⟨⟨_,rfl⟩,.inr ⟨_,trivial,HX3.o⟩⟩
       . have he:k=V.length:=by have:=HL.o;omega
         subst he
         gi_wp2
         go_end0
         exact⟨⟨_,rfl⟩,.inl ⟨_,HE.o.symm,HJK.o⟩⟩
     | false=>
      have hlen:([]:List (Zy_×Int)).length < V.length+1:=by simp
      obtain⟨fn,tmps,assign,body,hy,hR⟩:=HY.o _ (kind,1) _ (HT.o (.cells #[.string x.kind,.slice fa x.fields.length fcap] 164)) hlen;dsimp only [ZsQ] at hy;rw [Zew sk] at hy;have HR:=Zab hR;clear hR hlen
      gi_wp2
      refine HR.o.mono ?_;rintro e W3 (⟨rfl,hJ3,hk3⟩ | ⟨rfl,hJx3⟩)
      . have HJT:Hd (J (ZdA kind ++ Za1 x.fields V 0) W3):=by unfold Hd ZdA;rw [hk];exact hJ3
        have HBT0:Below w0.heap.size w0 (w1.alloc (.cells #[.string x.kind,.slice fa x.fields.length fcap] 164)):=H1.o.trans ((Zac _ _).mono H1.o.size);have HBT:Hd (Below w0.heap.size w0 W3):=HBT0.trans (hk3.below HBT0.size S0.o hw0);have hw1:w.heap.size<=w1.heap.size:=Nat.le_trans hw HB1.o.size;have p3:=hk3.cell (o3 (.cells #[.string x.kind,.slice fa x.fields.length fcap] 164)) S2.o;have p4:W3.cell? ⟨w1.heap.size,1,none⟩=some (.slice fa x.fields.length fcap):=hk3.cell (ZbH _ _ _ _ 1 rfl) (S3.o _ hw1);have rz:=hk3.size;simp at rz;have plt:B2 < W3.heap.size:=by have:=HO1.o.lt;omega
        have pw:w.heap.size<=W3.heap.size:=by omega
        clear hk3 hJ3 hy HBT0
        gi_wp2
        gi_loopw [41] (fun i wr=>∃ k:Nat,i=.int .i64 k/\k<=x.fields.length/\J (ZdA kind ++ Za1 x.fields V k) wr/\Below w0.heap.size w0 wr/\wr.cell? ⟨B2,3,none⟩=some (.slice va V.length vcap)/\B2 < wr.heap.size/\w.heap.size<=wr.heap.size)
         (fun i _=>x.fields.length - (intOf i).toNat)
        case atStart=>exact⟨0,rfl,Nat.zero_le _,HJT.o,HBT.o,p3,plt,pw⟩
        case round=>
         obtain⟨k,rfl,hkl,hJk,hBk,q3,qlt,qw⟩:=hrel;have HJK:=Zab hJk;have HBK:=Zab hBk;clear hJk hBk
         by_cases hlt:k < x.fields.length
         . have hlv:k < V.length:=by have:=HL.o;omega
           obtain⟨fb,foff,rfl,hfb,hfc⟩:=HF.o.full' (by omega);obtain⟨hsz,wv,hcell,hst⟩:=hfc k hlt;obtain⟨c0,c1,c2,c3,c4,c5,c6,c7,c8,c9,c10⟩:=hcell.below HBK.o hfb;obtain⟨wa,wn,wcap,rfl⟩:=hst.form;obtain⟨vb,voff,rfl,hvb,hvc,hvs⟩:=HV.o.spread (by omega);have hvk:wr.cell? ⟨vb,voff+k,none⟩=some (.string V[k]):=(HBK.o.cell (p:=⟨vb,voff+k,none⟩) hvb).trans (hvc k hlv);have hvk:∀ o,(wr.alloc o).cell? ⟨vb,voff+k,none⟩=some (.string V[k]):=fun o=>(Zak _ _ _ _ (Zk_ hvb HBK.o.size)).trans hvk
           have q3':∀ o,(wr.alloc o).cell? ⟨B2,3,none⟩=some (.slice (some ⟨vb,voff,none⟩) V.length vcap):=fun o=>(Zak _ _ _ _ qlt).trans q3
           have hvz:V[k].size<=maxLen:=hvs _ (List.getElem_mem hlv);have HST:=Zab (Zhb hlt hlv);have HA:∀ o,Hd (J (ZdA kind ++ Za1 x.fields V k) (wr.alloc o)):=fun o=>Zbw HJ.o HJK.o (Zac _ _)
           have HAB:∀ o,Hd (Below w0.heap.size w0 (wr.alloc o)):=fun o=>HBK.o.trans ((Zac _ _).mono HBK.o.size)
           have hwe:=hsz.s10;clear hfc hcell hst hvc hvs hsz
           cases hk1:(x.fields[k].kd == 1) with
           | false=>
            have hk1':(x.fields[k].kd != 1)=true:=by simp [bne,hk1]
            have HE2:Hd (Za1 x.fields V (k+1)=Za1 x.fields V k):=by unfold Hd;rw [HST.o,hk1];simp
            gi_wp2
            go_roundw
            . exact⟨k+1,by go_num,by omega,by rw [HE2.o];exact (HA _).o,(HAB _).o,q3' _,by simp;omega,by simp;omega⟩
            . simp [intOf];omega
           | true=>
            have hk1':(x.fields[k].kd != 1)=false:=by simp [bne,hk1]
            cases hk2:x.fields[k].we.toList.isEmpty with
            | true=>
             have HE2:Hd (Za1 x.fields V (k+1)=Za1 x.fields V k):=by unfold Hd;rw [HST.o,hk1,hk2];simp
             gi_wp2
             go_roundw
             . exact⟨k+1,by go_num,by omega,by rw [HE2.o];exact (HA _).o,(HAB _).o,q3' _,by simp;omega,by simp;omega⟩
             . simp [intOf];omega
            | false=>
             have HE2:Hd (Za1 x.fields V (k+1)=Za1 x.fields V k ++ [(x.fields[k].we,Zi8 V[k])]):=by unfold Hd;rw [HST.o,hk1,hk2];simp
             have hpl:(ZdA kind ++ Za1 x.fields V k).length < V.length+1:=by
              have:=ZfX x.fields V k;have:(ZdA kind).length<=1:=by unfold ZdA;split <;> simp
              rw [List.length_append];omega
             have HP:=Zab hpl;clear hpl;obtain⟨fn,tmps,assign,body,hy,hR⟩:=HY.o _ (x.fields[k].we,Zi8 V[k]) _ (HA (.cells #[.string x.fields[k].nm,.int .i64 x.fields[k].kd,.int .i64 x.fields[k].le,.int .i64 x.fields[k].mo,.slice wa wn wcap,.string x.fields[k].to,.int .i64 x.fields[k].ro,.bool x.fields[k].mu,.bool x.fields[k].fx,.string x.fields[k].df,.string x.fields[k].we] 218)).o HP.o;dsimp only [ZsQ] at hy;rw [Zew hwe] at hy;have HR:=Zab hR;clear hR
             gi_wp2_with (refine⟨trivial,?_⟩;gi_at_call 247;refine (callsIn_wide.2 (Zdl _ _ hvz)).mono ?_;rintro e w3 ⟨rfl,rfl⟩)
             refine HR.o.mono ?_;rintro e W3 (⟨rfl,hJ3,hk3⟩ | ⟨rfl,hJx3⟩)
             . have HJ3:=Zab hJ3
               have r3:=hk3.cell (q3' (.cells #[.string x.fields[k].nm,.int .i64 x.fields[k].kd,.int .i64 x.fields[k].le,.int .i64 x.fields[k].mo,.slice wa wn wcap,.string x.fields[k].to,.int .i64 x.fields[k].ro,.bool x.fields[k].mu,.bool x.fields[k].fx,.string x.fields[k].df,.string x.fields[k].we] 218)) S2.o;have rB:Hd (Below w0.heap.size w0 W3):=(HAB (.cells #[.string x.fields[k].nm,.int .i64 x.fields[k].kd,.int .i64 x.fields[k].le,.int .i64 x.fields[k].mo,.slice wa wn wcap,.string x.fields[k].to,.int .i64 x.fields[k].ro,.bool x.fields[k].mu,.bool x.fields[k].fx,.string x.fields[k].df,.string x.fields[k].we] 218)).o.trans (hk3.below (HAB _).o.size S0.o hw0);have rz:=hk3.size;simp at rz;clear hk3 hJ3 hy
               gi_wp2
               go_roundw
               . exact⟨k+1,by go_num,by omega,by rw [HE2.o,<- List.append_assoc];exact HJ3.o,rB.o,r3,by omega,by omega⟩
               . simp [intOf];omega
             . have HX3:=Zab hJx3
               clear hJx3 hy
               gi_wp2
               refine bodyPost_ret (results_none rfl _ _ _) rfl ?_;exact⟨⟨_,rfl⟩,.inr ⟨_,trivial,HX3.o⟩⟩
         . have he:k=V.length:=by have:=HL.o;omega
           subst he
           gi_wp2
           go_end0
           exact⟨⟨_,rfl⟩,.inl ⟨_,HE.o.symm,HJK.o⟩⟩
      . have HX3:=Zab hJx3
        clear hJx3 hy
        gi_wp2
        refine bodyPost_ret (results_none rfl _ _ _) rfl ?_;exact⟨⟨_,rfl⟩,.inr ⟨_,trivial,HX3.o⟩⟩
   . have hne:((V.length:Int) != (x.fields.length:Int))=true:=by simp;omega
     have HE:Hd (Zes Ss kind V=[]):=Ziv fun y hy=>by rw [HSH.o] at hy;cases hy;exact hl
     have HJ2:∀ o,Hd (J [] (w1.alloc o)):=fun o=>Zbw (HJ.o) HJ1.o (Zac _ _)
     gi_wp2
     refine bodyPost_ret (results_none rfl _ _ _) rfl ?_;exact⟨⟨_,rfl⟩,.inl ⟨[],HE.o.symm,(HJ2 _).o⟩⟩
 . have HE:Hd (Zes Ss kind V=[]):=Ziv fun y hy=>by rw [hno] at hy;cases hy
   have HJ2:∀ o,Hd (J [] (w1.alloc o)):=fun o=>Zbw (HJ.o) HJ1.o (Zac _ _)
   gi_wp2
   refine bodyPost_ret (results_none rfl _ _ _) rfl ?_;exact⟨⟨_,rfl⟩,.inl ⟨[],HE.o.symm,(HJ2 _).o⟩⟩
end
open Go.RowKit Go.Deep Go.Shelf Go.Maps
attribute [local go_sem] Oper.semAt_some
def Zn0 (ds:List Nat):List Deferred:=ds.map fun d=>{ target:=.collected d,args:=#[] }
theorem Zo6 {B:Nat} (W:World) {d:Nat} (o:Obj) (hd:B<=d) (hlt:d < W.heap.size):Below B W (W.putObj d o):=by
 have g:=grownBy_putObj' W d o;exact⟨g.os,g.tape,g.output,g.size,fun k hk=>g.block k (by omega) (fun e=>by have:=Option.some.inj e;omega)⟩
theorem Zgp {F:Fence}{P:Program}{fn:Func}{tmps:Array Value}{R:Ending->World->Prop} (B:Nat):∀ (ds:List Nat) (W:World),ds.Nodup->(∀ d ∈ ds,B<=d/\W.heap[d]?=some (.deferred (some [])))->
 (∀ W',Below B W W'->LeavesIn F n P fn tmps R [] .returning W')->LeavesInM F n P fn tmps R (Zn0 ds) .returning W
 | [],W,_,_,h=>h W Zb_
 | d :: ds,W,hn,hd,h=>by
  obtain⟨h1,h2⟩:=hd d (List.mem_cons_self ..);obtain⟨n1,n2⟩:=List.nodup_cons.1 hn;have hb:=Zo6 W (.deferred none) h1 (Array.getElem?_eq_some_iff.1 h2).1;refine⟨by simp,.inl ⟨d,_,rfl,run_takeDeferred h2,Zgp B ds _ n2 (fun e he=>?_) (fun W' hW'=>h W' (hb.trans hW'))⟩⟩;obtain⟨g1,g2⟩:=hd e (List.mem_cons_of_mem _ he);have hne:e≠d:=fun e'=>n1 (e' ▸ he)
  exact⟨g1,((grownBy_putObj' W d _).block e (Array.getElem?_eq_some_iff.1 g2).1 (fun e'=>hne (Option.some.inj e'))).trans g2⟩
theorem Box.of_block {w:World}{β:Nat}{cs:Array Value} (h:Box w β cs) (e:w'.heap[β]?=w.heap[β]?):Box w' β cs:=
 ⟨by have:=h.lt;rw [Array.getElem?_eq_getElem this] at e;exact (Array.getElem?_eq_some_iff.1 e).1,fun i=>(World.cell?_of_block (a:=⟨β,i,none⟩) e).trans (h.cell i),fun i=>(World.frozen?_of_block (a:=⟨β,i,none⟩) e).trans (h.free i)⟩
structure Zqg (w:World) (T:List Tri) (ds:List Nat) (wr:World):Prop where
 own:∃ D:DataW Unit,wr.ownsMap prog 268 (plainElem prog 3) w.heap.size T.length D/\Zfp T D
 below:Zw_ w wr
 ptr:Box wr (w.heap.size+1) #[.map (some w.heap.size)]
 mks:∀ d ∈ ds,w.heap.size+2<=d/\wr.heap[d]?=some (.deferred (some []))
 nd:ds.Nodup
theorem Zqg.grow {w:World}{T:List Tri}{row:Option Nat} (h:Zqg w T ds wr) (hg:wr.grownBy wr' row) (hr:∀ r,row=some r->w.heap.size+1 < r/\r ∉ ds):Zqg w T ds wr':=by
 obtain⟨D,ho,hs⟩:=h.own;have hz:=h.below.size;refine⟨⟨D,ho.kept hg (fun e=>by have:=(hr _ e.symm).1;omega),hs⟩,?_,?_,fun d hd=>?_,h.nd⟩
 . exact h.below.trans ⟨hg.os,hg.tape,hg.output,hg.size,fun k hk=>hg.block k (by omega) (fun e=>by have:=(hr _ e.symm).1;omega)⟩
 . exact h.ptr.of_block (hg.block _ h.ptr.lt (fun e=>by have:=(hr _ e.symm).1;omega))
 . obtain⟨h1,h2⟩:=h.mks d hd
   exact⟨h1,(hg.block d (Array.getElem?_eq_some_iff.1 h2).1 (fun e=>(hr _ e.symm).2 hd)).trans h2⟩
theorem Zqg.add {w:World}{A:List Tri}{α:Type}{pre:List α}{f:α->Tri}{x:α}{D:DataW Unit} (h:Zqg w (A ++ pre.map f) ds wr) (hg:wr.grownBy wr' (some w.heap.size))
 (ho:wr'.ownsMap prog 268 (plainElem prog 3) w.heap.size ((A ++ pre.map f).length+1) D) (hs:Zfp (A ++ pre.map f ++ [f x]) D):Zqg w (A ++ (pre ++ [x]).map f) ds wr':=by
 have e:A ++ (pre ++ [x]).map f=A ++ pre.map f ++ [f x]:=by simp
 have hz:=h.below.size;rw [e];refine⟨⟨D,by rw [show (A ++ pre.map f ++ [f x]).length=(A ++ pre.map f).length+1 by simp [Nat.add_assoc]];exact ho,hs⟩,?_,?_,fun d hd=>?_,h.nd⟩
 . exact h.below.trans ⟨hg.os,hg.tape,hg.output,hg.size,fun k hk=>hg.block k (by omega) (fun e=>by have:=Option.some.inj e;omega)⟩
 . exact h.ptr.of_block (hg.block _ h.ptr.lt (fun e=>by have:=Option.some.inj e;omega))
 . obtain⟨h1,h2⟩:=h.mks d hd
   exact⟨h1,(hg.block d (Array.getElem?_eq_some_iff.1 h2).1 (fun e=>by have:=Option.some.inj e;omega)).trans h2⟩
theorem ZhW {Fs:List Fd}{V:List Zy_}:∀ {k:Nat} {p:Zy_×Int},p ∈ Za1 Fs V k->∃ f ∈ Fs,p.1=f.we
 | 0,p,h=>by simp [Za1] at h
 | k+1,p,h=>by
  rw [Za1] at h
  rcases List.mem_append.1 h with h | h
  . exact ZhW h
  . split at h
    . rename_i f s hf _
      split at h
      . simp at h
        subst h;exact⟨f,List.mem_of_getElem? hf,rfl⟩
      . simp at h
    . simp at h
theorem ZhU {lo:Nat}{w:World}{sv:Value}{Ss:List Sh} (hS:ZaR lo w sv Ss) {kind:Zy_} {V:List Zy_} (sk:kind.size<=maxLen) (p:Zy_×Int) (hp:p ∈ Zes Ss kind V):p.1.size<=maxLen:=by
 unfold Zes at hp
 split at hp
 . rename_i x hx
   split at hp
   . rcases List.mem_append.1 hp with h | h
     . unfold ZdA at h
       split at h
       . simp at h
       . simp at h
         subst h;exact sk
     . obtain⟨f,hf,e⟩:=ZhW h
       obtain⟨i,hi,rfl⟩:=List.getElem_of_mem (List.mem_of_find?_eq_some hx);obtain⟨j,hj,rfl⟩:=List.getElem_of_mem hf
       rcases hS with ⟨_,_,_,rfl⟩ | ⟨b,off,cap,h1,h2,h3,h4,h5,h7⟩
       . simp at hi
       . obtain⟨hs,fv,c0,c1,hF⟩:=h7 i hi
         rcases hF with ⟨_,_,_,e0⟩ | ⟨b',off',cap',g1,g2,g3,g4,g5,g7⟩
         . simp [e0] at hj
         . rw [e]
           exact (g7.2 j hj).1.s10
   . simp at hp
 . simp at hp
section
variable (lo:Nat) (sv ov:Value) (Ss:List Sh) (Os:List Ob) (w:World)
theorem ZgU (hS:ZaR lo w sv Ss) (hO:Zbu lo w ov Os) (hn:Zbp Os) :
 Calls prog 179 #[sv,ov] w
  fun e w'=>e=.returned (.map (some w.heap.size))/\Zw_ w w'/\∃ D:DataW Unit,w'.ownsMap prog 268 (plainElem prog 3) w.heap.size (Zcy Ss Os).length D/\Zfp (Zcy Ss Os) D:=by
 have HS:=Zab hS;have HO:=Zab hO;obtain⟨a,cap,rfl⟩:=hS.form;obtain⟨oa,ocap,rfl⟩:=hO.form;have hm:=HO.o.max;unfold maxLen at hm;clear hS hO;refine (callsIn_wide (n:=5)).1 ?_;refine callsIn_of_wp_marks func179 rfl trivial ?_ rfl;simp only [ntmps179,List.size_toArray,List.length_cons,List.length_nil,Nat.reduceAdd,Nat.reduceSub,Array.replicate_succ,Array.replicate_zero,List.push_toArray,List.append_toArray,List.nil_append,List.cons_append];have hmm:=@run_makeMap prog
 gi_wp2
 clear hmm
 refine wpIn_loop (fun a' wr=>∃ (k:Nat) (ds:List Nat) (u7 u14 u15 u16 u17 u18 u19 u32:Value),
  (k<=Os.length/\Zqg w (Zcy Ss (Os.take k)) ds wr)/\
  a'={ tmps:=#[.slice a Ss.length cap,.slice oa Os.length ocap,undef,undef,.map none,.pointer (some ⟨w.heap.size+1,0,none⟩),undef,u7,undef,undef,.map (some w.heap.size),.slice oa Os.length ocap,.int .i64 Os.length,.int .i64 k,u14,u15,u16,u17,u18,u19,undef,undef,undef,undef,undef,undef,undef,undef,undef,undef,undef,undef,u32,undef],defers:=Zn0 ds })
  (fun a' _=>Os.length - (intOf (a'.tmps.getD 13 undef)).toNat) ?_ ?_
 . refine⟨0,[],undef,undef,undef,undef,undef,undef,undef,undef,⟨Nat.zero_le _,?_⟩,rfl⟩
   refine⟨⟨.map [],?_,Zfp.start⟩,?_,?_,fun d hd=>absurd hd List.not_mem_nil,List.nodup_nil⟩
   . exact (World.ownsMap_made _ _ _ _).alloc _
   . exact (Zac _ _).trans ((Zac _ _).mono (by simp))
   . exact Box.new _ _ _ _ (by simp)
 . rintro _ wr ⟨k,ds,u7,u14,u15,u16,u17,u18,u19,u32,⟨hk,hW⟩,rfl⟩
   have HW:=Zab hW;clear hW
   by_cases hlt:k < Os.length
   . have hb:=HW.o.below
     have hw0:=hb.size;obtain⟨b,off,rfl,hbw,-,hc⟩:=HO.o.full' (by omega);obtain⟨hs,vv0,vv1,hcell,hv0,hv1⟩:=hc k hlt;obtain⟨c0,c1,c2,c3,c4,c5,c6⟩:=hcell.below hb hbw;have HV:=Zab hv0.at;obtain⟨va,vcap,rfl⟩:=hv0.at.form';obtain⟨ha,hcap,rfl⟩:=hv1.at.form';have HZ:=Zab hs;have HN:Hd (Os[k].vs.length<=1048576):=(hn.2 k hlt).1;clear hc hcell hv0 hv1 hs hb
     gi_wp2_with fail
     refine⟨trivial,(ZnD Os[k].kd Os[k].nm Os[k].tm Os[k].en Os[k].ver _ Fence.wide _ trivial rfl a Ss.length cap va Os[k].vs.length vcap ha Os[k].hs.length hcap).mono ?_⟩;rintro e w1 ⟨rfl,hw1⟩
     obtain⟨wl,hwl,HX7,HX1,HX2,HWl,hsz⟩:∃ wl,wl=w1/\Hd (Box wl wr.heap.size #[.string Os[k].kd,.string Os[k].nm,.string Os[k].tm,.slice va Os[k].vs.length vcap,.bool Os[k].en,.slice ha Os[k].hs.length hcap,.int .i64 Os[k].ver])/\Hd (Box wl (wr.heap.size+1) #[.slice a Ss.length cap])/\Hd (Box wl (wr.heap.size+1+1) #[.string Os[k].kd,.string Os[k].nm,.string Os[k].tm,.slice va Os[k].vs.length vcap,.bool Os[k].en,.slice ha Os[k].hs.length hcap,.int .i64 Os[k].ver])/\Hd (Zqg w (Zcy Ss (Os.take k)) ds wl)/\wl.heap.size=wr.heap.size+3:=by
      refine⟨_,rfl,?_,?_,?_,?_,?_⟩
      . rw [hw1];exact ((Box.new _ _ _ _ rfl).on (Zac _ _)).on (Zac _ _)
      . rw [hw1];exact (Box.new _ _ _ _ (by simp)).on (Zac _ _)
      . rw [hw1];exact Box.new _ _ _ _ (by simp)
      . rw [hw1];exact ((HW.o.grow (World.grownBy_alloc _ _ none) (fun r e=>by cases e)).grow (World.grownBy_alloc _ _ none) (fun r e=>by cases e)).grow (World.grownBy_alloc _ _ none) (fun r e=>by cases e)
      . rw [hw1];simp
     subst hwl;clear hw1
     gi_wp2
     have hdl:∀ d ∈ ds,d < wl.heap.size:=fun d hd=>(Array.getElem?_eq_some_iff.1 (HWl.o.mks d hd).2).1
     have hlen:(Zcy Ss (Os.take k)).length<=1048576*1048577:=by
      have:=Zjq Ss (Os.take k) (fun o ho=>by
       obtain⟨i,hi,rfl⟩:=List.getElem_of_mem (List.mem_of_mem_take ho);exact (hn.2 i hi).1)
      have h1:=hn.1;have h2:=List.length_take_le k Os;exact Nat.le_trans this (Nat.mul_le_mul_right _ (by omega))
     refine wpIn_rangeFunc_ownG rfl (by decide) (gf:=246) (lb:=#[.pointer (some ⟨wr.heap.size+1,0,none⟩),.pointer (some ⟨wr.heap.size+1+1,0,none⟩)]) rfl trivial (enters_of func246 (by kernel_rfl) rfl)
      (ZhC lo _ Ss Os[k].kd Os[k].nm Os[k].tm _ _ Os[k].en Os[k].ver Os[k].vs wl _ HZ.o.s0 (by decide) (fun k=>k=w.heap.size) w _ _ HWl.o.below HS.o HV.o HN.o (fun k hk he=>by omega) (by omega) (fun k hk he=>by omega) HX1.o HX2.o)
      ZaO.trans ZaO.put Zb_ (fun _=>rfl)
      (fun pre W=>Zqg w (Zcy Ss (Os.take k) ++ pre.map fun p=>(Os[k].tm,ZhJ p.1,p.2)) ds W/\Box W wr.heap.size #[.string Os[k].kd,.string Os[k].nm,.string Os[k].tm,.slice va Os[k].vs.length vcap,.bool Os[k].en,.slice ha Os[k].hs.length hcap,.int .i64 Os[k].ver])
      (fun _ _ _=>False)
      (fun s A B row hs hg hr=>⟨hs.1.grow hg (fun r e=>⟨by have:=(hr r e).1;omega,fun hd=>by have:=(hr r e).1;have:=hdl r hd;omega⟩),hs.2.of_block (hg.block _ hs.2.lt (fun e=>by have:=(hr _ e.symm).1;omega))⟩)
      (fun _ _ _ _ _ hs _ _=>hs)
      ⟨by simpa using HWl.o,HX7.o⟩
      (fun x=>{ tmps:=#[.slice a Ss.length cap,.slice (some ⟨b,off,none⟩) Os.length ocap,undef,undef,.map none,.pointer (some ⟨w.heap.size+1,0,none⟩),undef,.pointer (some ⟨wr.heap.size,0,none⟩),.string (ZhJ x.1),.int .i64 x.2,.map (some w.heap.size),.slice (some ⟨b,off,none⟩) Os.length ocap,.int .i64 Os.length,.int .i64 k,.bool true,.pointer (some ⟨b,off+k*7,none⟩),.agg #[.string Os[k].kd,.string Os[k].nm,.string Os[k].tm,.slice va Os[k].vs.length vcap,.bool Os[k].en,.slice ha Os[k].hs.length hcap,.int .i64 Os[k].ver],.slice a Ss.length cap,.agg #[.string Os[k].kd,.string Os[k].nm,.string Os[k].tm,.slice va Os[k].vs.length vcap,.bool Os[k].en,.slice ha Os[k].hs.length hcap,.int .i64 Os[k].ver],.func (.func 246) #[] #[.pointer (some ⟨wr.heap.size+1,0,none⟩),.pointer (some ⟨wr.heap.size+1+1,0,none⟩)],.string (ZhJ x.1),.int .i64 x.2,undef,undef,undef,undef,undef,undef,undef,undef,undef,undef,u32,undef],defers:=[] }) ?assign ?body ?done ?stop
     case assign=>
      intro l x W K hK
      gi_wp2
      exact hK
     case body=>
      rintro l pre x W ⟨hWe,hX⟩ hpl;have HWe:=Zab hWe;have HX:=Zab hX;obtain⟨D,ho,hsum⟩:=hWe.own;have hpl':pre.length<=1048577:=by have:=HN.o;omega
      obtain⟨c,v0,st,w1,hent,hat,hwc,hl0,hl1,hg1,hs1,hst⟩:=ZjZ Zmi underlying237 underlying3 ZiK ho.drew (by unfold maxLen;simp;omega) (Zhg.mk' HZ.o.s2 (ZfP x.1));have ew:IntKind.i64.wrap (c+x.2)=wrap64 (c+x.2):=IntWalk.i64_left _;obtain⟨w2,hrun2,ho2,hg2,hs2⟩:=hst (IntKind.i64.wrap (c+x.2)) (by rw [ew];exact wrap64_wf _);rw [ew] at ho2;have HO2:=Zab ho2;have HG2:=Zab hg2;have HAT:=Zab hat;have HSUM:=Zab hsum;clear ew hst ho2 hg2 hg1 hat hsum ho;have p0:=hWe.ptr.cell 0;have x2:=hX.cell 2;simp at p0 x2;simp only [goInt] at hent hrun2;clear hWe hX;refine wpIn_mono (Q:=fun e _ W'=>e=.normal/\W'=w2) ?_ ?_
      . clear HWe HX HO2 HG2 HAT HSUM HS HV HN HZ HX1 HX2 HX7 HWl HW hs1 hs2 hpl hpl' hdl hlen hm hk hn c0 c1 c2 c3 c4 c5 c6 hsz hw0 hwc
        gi_wp2
        generalize Os[k].tm=T at*;generalize ZhJ x.1=R at*;generalize x.2=N at*;refine ZjB (by kernel_rfl) (by kernel_rfl) ?_;refine wpAnyIn_take (i:=1) (v:=?v1) rfl rfl (by kernel_rfl) (by kernel_rfl) (by kernel_rfl) (fun _ _ _ h=>h) ⟨Or.inl ⟨by rfl,?hy1⟩,fun _=>rfl⟩ ?rest1
        case hy1=>(intro w;go_simp;try with_reducible rfl)
        refine wpAnyIn_take (i:=3) (v:=?v2) rfl rfl (by kernel_rfl) (by kernel_rfl) (by kernel_rfl) (fun _ _ _ h=>h) ⟨Or.inl ⟨by rfl,?hy2⟩,fun _=>rfl⟩ ?rest2
        case hy2=>(intro w;go_simp;try with_reducible rfl)
        refine wpAnyIn_take (i:=6) (v:=?v3) rfl rfl (by kernel_rfl) (by kernel_rfl) (by kernel_rfl) (fun _ _ _ h=>h) ⟨Or.inl ⟨by rfl,?hy3⟩,fun _=>rfl⟩ ?rest3
        case hy3=>(intro w;go_simp;try with_reducible rfl)
        refine wpAnyIn_ready (rs:=[0,2]) (by kernel_rfl) (by simp) ?_;refine AllReadyIn.cons rfl (fun K hK=>?_) (AllReadyIn.cons rfl (fun K hK=>?_) AllReadyIn.nil)
        . go_simp
          refine hK _ _ ?_;clear hK K;refine wpAnyIn_ready (rs:=[2]) (by kernel_rfl) (by simp) ?_;refine AllReadyIn.cons rfl (fun K hK=>?_) AllReadyIn.nil
          go_simp
          refine hK _ _ ?_;clear hK K;refine wpAnyIn_take (i:=4) (v:=?v4) rfl rfl (by kernel_rfl) (by kernel_rfl) (by kernel_rfl) (fun _ _ _ h=>h) ⟨Or.inl ⟨by rfl,?hy4⟩,fun _=>rfl⟩ ?rest4
          case hy4=>(intro w;go_simp;try with_reducible rfl)
          refine wpAnyIn_ready (rs:=[5,8]) (by kernel_rfl) (by simp) ?_;refine AllReadyIn.cons rfl (fun K hK=>?_) (AllReadyIn.cons rfl (fun K hK=>?_) AllReadyIn.nil)
          . go_simp
            refine hK _ _ ?_;clear hK K;refine wpAnyIn_take (i:=7) (v:=?v5) rfl rfl (by kernel_rfl) (by kernel_rfl) (by kernel_rfl) (fun _ _ _ h=>h) ⟨Or.inl ⟨by rfl,?hy5⟩,fun _=>rfl⟩ ?rest5
            case hy5=>(intro w;go_simp;try with_reducible rfl)
            refine wpAnyIn_ready (rs:=[8]) (by kernel_rfl) (by simp) ?_;refine AllReadyIn.cons rfl (fun K hK=>?_) AllReadyIn.nil
            go_simp
            refine hK _ _ ?_;clear hK K;refine wpAnyIn_take (i:=9) (v:=?v6) rfl rfl (by kernel_rfl) (by kernel_rfl) (by kernel_rfl) (fun _ _ _ h=>h) ⟨Or.inl ⟨by rfl,?hy6⟩,fun _=>rfl⟩ ?rest6
            case hy6=>(intro w;go_simp;try with_reducible rfl)
            refine wpAnyIn_ready (rs:=[10]) (by kernel_rfl) (by simp) ?_;refine AllReadyIn.cons rfl (fun K hK=>?_) AllReadyIn.nil
            go_simp
            refine hK _ _ ?_;clear hK K;refine wpAnyIn_done (by kernel_rfl) ?_ _;exact⟨rfl,rfl⟩
          . go_simp
            refine hK _ _ ?_;clear hK K;refine wpAnyIn_take (i:=9) (v:=?v7) rfl rfl (by kernel_rfl) (by kernel_rfl) (by kernel_rfl) (fun _ _ _ h=>h) ⟨Or.inl ⟨by rfl,?hy7⟩,fun _=>rfl⟩ ?rest7
            case hy7=>(intro w;go_simp;try with_reducible rfl)
            refine wpAnyIn_ready (rs:=[5]) (by kernel_rfl) (by simp) ?_;refine AllReadyIn.cons rfl (fun K hK=>?_) AllReadyIn.nil
            go_simp
            refine hK _ _ ?_;clear hK K;refine wpAnyIn_take (i:=7) (v:=?v8) rfl rfl (by kernel_rfl) (by kernel_rfl) (by kernel_rfl) (fun _ _ _ h=>h) ⟨Or.inl ⟨by rfl,?hy8⟩,fun _=>rfl⟩ ?rest8
            case hy8=>(intro w;go_simp;try with_reducible rfl)
            refine wpAnyIn_ready (rs:=[10]) (by kernel_rfl) (by simp) ?_;refine AllReadyIn.cons rfl (fun K hK=>?_) AllReadyIn.nil
            go_simp
            refine hK _ _ ?_;clear hK K;refine wpAnyIn_done (by kernel_rfl) ?_ _;exact⟨rfl,rfl⟩
        . go_simp
          refine hK _ _ ?_;clear hK K;refine wpAnyIn_take (i:=4) (v:=?v9) rfl rfl (by kernel_rfl) (by kernel_rfl) (by kernel_rfl) (fun _ _ _ h=>h) ⟨Or.inl ⟨by rfl,?hy9⟩,fun _=>rfl⟩ ?rest9
          case hy9=>(intro w;go_simp;try with_reducible rfl)
          refine wpAnyIn_ready (rs:=[0]) (by kernel_rfl) (by simp) ?_;refine AllReadyIn.cons rfl (fun K hK=>?_) AllReadyIn.nil
          go_simp
          refine hK _ _ ?_;clear hK K;refine wpAnyIn_ready (rs:=[5,8]) (by kernel_rfl) (by simp) ?_;refine AllReadyIn.cons rfl (fun K hK=>?_) (AllReadyIn.cons rfl (fun K hK=>?_) AllReadyIn.nil)
          . go_simp
            refine hK _ _ ?_;clear hK K;refine wpAnyIn_take (i:=7) (v:=?v10) rfl rfl (by kernel_rfl) (by kernel_rfl) (by kernel_rfl) (fun _ _ _ h=>h) ⟨Or.inl ⟨by rfl,?hy10⟩,fun _=>rfl⟩ ?rest10
            case hy10=>(intro w;go_simp;try with_reducible rfl)
            refine wpAnyIn_ready (rs:=[8]) (by kernel_rfl) (by simp) ?_;refine AllReadyIn.cons rfl (fun K hK=>?_) AllReadyIn.nil
            go_simp
            refine hK _ _ ?_;clear hK K;refine wpAnyIn_take (i:=9) (v:=?v11) rfl rfl (by kernel_rfl) (by kernel_rfl) (by kernel_rfl) (fun _ _ _ h=>h) ⟨Or.inl ⟨by rfl,?hy11⟩,fun _=>rfl⟩ ?rest11
            case hy11=>(intro w;go_simp;try with_reducible rfl)
            refine wpAnyIn_ready (rs:=[10]) (by kernel_rfl) (by simp) ?_;refine AllReadyIn.cons rfl (fun K hK=>?_) AllReadyIn.nil
            go_simp
            refine hK _ _ ?_;clear hK K;refine wpAnyIn_done (by kernel_rfl) ?_ _;exact⟨rfl,rfl⟩
          . go_simp
            refine hK _ _ ?_;clear hK K;refine wpAnyIn_take (i:=9) (v:=?v12) rfl rfl (by kernel_rfl) (by kernel_rfl) (by kernel_rfl) (fun _ _ _ h=>h) ⟨Or.inl ⟨by rfl,?hy12⟩,fun _=>rfl⟩ ?rest12
            case hy12=>(intro w;go_simp;try with_reducible rfl)
            refine wpAnyIn_ready (rs:=[5]) (by kernel_rfl) (by simp) ?_;refine AllReadyIn.cons rfl (fun K hK=>?_) AllReadyIn.nil
            go_simp
            refine hK _ _ ?_;clear hK K;refine wpAnyIn_take (i:=7) (v:=?v13) rfl rfl (by kernel_rfl) (by kernel_rfl) (by kernel_rfl) (fun _ _ _ h=>h) ⟨Or.inl ⟨by rfl,?hy13⟩,fun _=>rfl⟩ ?rest13
            case hy13=>(intro w;go_simp;try with_reducible rfl)
            refine wpAnyIn_ready (rs:=[10]) (by kernel_rfl) (by simp) ?_;refine AllReadyIn.cons rfl (fun K hK=>?_) AllReadyIn.nil
            go_simp
            refine hK _ _ ?_;clear hK K;refine wpAnyIn_done (by kernel_rfl) ?_ _;exact⟨rfl,rfl⟩
      . rintro e a' W' ⟨rfl,rfl⟩
        have g:=HG2.o;have hpt:=HW.o.ptr.lt;have hg:W.grownBy W' (some w.heap.size):=⟨g.os,g.tape,g.output,g.size,g.block⟩
        exact⟨KeepsFrom.of_grownBy hg (fun j e=>by cases e;omega),⟨hg.os,hg.tape,hg.output,hg.size,fun j o hj hS _=>(hg.block j (Array.getElem?_eq_some_iff.1 hj).1 (fun e=>hS (Option.some.inj e))).trans hj⟩,
         HWe.o.add hg HO2.o (HSUM.o.step HZ.o.s2 (ZfP _) HAT.o x.2),HX.o.of_block (hg.block _ HX.o.lt (fun e=>by have:=Option.some.inj e;omega))⟩
     case done=>
      rintro D ys W hD rfl ⟨hWe,hX⟩ hK;have HWe:=Zab hWe;clear hWe hX
      gi_wp2
      refine⟨⟨k+1,D :: ds,_,_,_,_,_,_,_,_,⟨by omega,?_⟩,rfl⟩,?_⟩
      . have e:Zcy Ss (Os.take (k+1))=Zcy Ss (Os.take k) ++ (Zes Ss Os[k].kd Os[k].vs).map fun p=>(Os[k].tm,ZhJ p.1,p.2):=by
         rw [List.take_succ_eq_append_getElem hlt,ZmR]
         congr 1
         refine List.map_congr_left fun p hp=>?_
         rw [Zew (ZhU HS.o HZ.o.s0 p hp)]
        rw [e];have hpt:=HWl.o.ptr.lt
        exact⟨HWe.o.own,HWe.o.below,HWe.o.ptr,fun d hd=>by
         rcases List.mem_cons.1 hd with rfl | hd
         . exact⟨by omega,hK⟩
         . exact HWe.o.mks d hd,List.nodup_cons.2 ⟨fun hd=>by have:=hdl D hd;omega,HWe.o.nd⟩⟩
      . simp [intOf];omega
     case stop=>
      rintro D c pre W _ _ h _;exact h.elim
   . have he:k=Os.length:=by omega
     subst he;have p0:=HW.o.ptr.cell 0;simp at p0
     gi_wp2
     refine Zgp (w.heap.size+2) ds wr HW.o.nd HW.o.mks (fun W' hb=>⟨_,results_tmp rfl _ _ _,rfl,HW.o.below.trans (hb.mono (by omega)),?_⟩);obtain⟨D,ho,hsum⟩:=HW.o.own;rw [List.take_length] at ho hsum;exact⟨D,ZdB ho (hb.block _ (by omega)),hsum⟩
end
open Go.RowKit Go.Deep Go.Maps
theorem ZcD {w w1:World}{r:Nat} (h:Zw_ w wr) (hg:wr.grownBy w1 (some r)) (hr:w.heap.size<=r):Zw_ w w1:=by
 have hz:=h.size;exact h.trans ⟨hg.os,hg.tape,hg.output,hg.size,fun k hk=>hg.block k (by omega) (fun e=>by have:=Option.some.inj e;omega)⟩
theorem ZaM {w:World} (h:Zw_ w w'):w.grownBy w' none:=
 ⟨h.os,h.tape,h.output,h.size,fun k hk _=>h.block k hk⟩
section
variable (lo:Nat) (tv:Value) (Ts:List Tm) (team r:Zy_) (T:List Tri) (w:World)
theorem Zfg {D:DataW Unit}{b:Nat} (hT:Zbn lo w tv Ts) (hown:w.ownsMap prog 268 (plainElem prog 3) b n D) (hs:Zfp T D) (hok:ZrB T) :
 Calls prog 180 #[.map (some b),tv,.string team,.string r] w
  fun e w'=>e=.returned (.int .i64 (wrap64 (T.map (ZgR Ts team r)).sum))/\Zw_ w w':=by
 have HT:=Zab hT;have HS:=Zab hs;have HK:=Zab hok;obtain⟨ta,tcap,rfl⟩:=hT.form;clear hT hs hok;go_enter func180,ntmps180
 go_wp2_with (first
  | (at_range;refine wpList_range_own _ rfl _ 237 rfl 268 3 Zjb underlying237 _ b n _ rfl hown ?_;intro w0 hrg0 hg0 hs0)
  | go_in)
 go_frame
 go_loopw [9] (fun s wr=>∃ (left:Lit->Bool) (cnt:Nat),wr.ranges prog 268 (plainElem prog 3) b w.heap.size n D left cnt/\s=.int .i64 (wrap64 (ZkD Ts team r T left))/\Zw_ w wr)
  (fun _ wr=>wr.rangeLeft b w.heap.size)
 case atStart=>exact⟨_,_,hrg0,by rw [ZmL HS.o];simp [wrap64],⟨hg0.os,hg0.tape,hg0.output,hg0.size,fun k hk=>hg0.block k hk (by simp)⟩⟩
 case round=>
  obtain⟨left,cnt,hrg,rfl,hb⟩:=hrel;have HB:=Zab hb;clear hb
  go_wp2_with (first
   | (at_next;refine wpList_next_ranges _ rfl _ rfl 268 Zjb (plainElem prog 3) (fun p:Zy_×Zy_=>.agg #[.string p.1,.string p.2]) (Value.int .i64) (fun key kl h=>by obtain⟨x,y,rfl,_⟩:=Zhg.inv h;exact⟨(x,y),rfl⟩) (fun v y hv=>by obtain⟨c,rfl,_⟩:=plainElem_int_inv underlying3 hv;exact⟨c,rfl⟩) b w.heap.size n _ _ _ rfl hrg ?_ ?_)
   | go_in)
  . intro _ hl0
    go_wp2;go_ret;exact⟨ZaC (by rw [Zqh hl0]),HB.o⟩
  . intro xa xb c kl yd yp w1 cnt1 hkey hlk hv hat hrg1 hlt hg1 hs1 hen
    obtain⟨xa',xb',exy,rfl,sa,sb⟩:=Zhg.inv hkey;have e12:xa=xa'/\xb=xb':=by simpa using exy
    obtain⟨rfl,rfl⟩:=e12;clear exy hkey;have hbo:=hrg1.owns.lt;obtain⟨c',ec,ey,hwc⟩:=plainElem_int_inv underlying3 hv
    have hcc:c=wrap64 (Zlh T xa xb):=by
     have h1:=hat (.lit (.int .i64 0));rw [HS.o.sums xa xb sa sb] at h1;have h2:yd=.lit (.int .i64 c'):=congrArg Prod.fst ey;rw [h2] at h1;injection h1 with h1
     injection h1 with _ h1
     injection ec with _ ec
     rw [ec,h1]
    have HST:=Zab (ZjX Ts team r sa sb hlk T HK.o);have HB1:Hd (Zw_ w w1):=ZcD HB.o hg1 Zl_;have HRG1:=Zab hrg1;clear hv hat ec ey hwc hlk hrg1 hg1
    cases hq:(xb.toList == r.toList) with
    | false=>
     have HE:Hd (ZkD Ts team r T (fun z=>left z&&!z.sameKey (Zfd xa xb))=ZkD Ts team r T left):=by unfold Hd;rw [HST.o,hq];simp
     go_wp2;go_roundw
     . exact⟨_,cnt1,HRG1.o.alloc _,by rw [HE.o],HB1.o.trans ((Zac _ _).mono HB1.o.size)⟩
     . rw [(HRG1.o.alloc _).left_eq,hrg.left_eq];exact hlt
    | true=>
     go_wp2_with fail;refine (ZiA lo _ Ts xa team _ ((HT.o.below HB1.o).below (Zac _ _))).mono ?_;rintro e w2 ⟨rfl,hb2⟩;have HRG2:=Zab (HRG1.o.kept (((World.grownBy_alloc w1 _ none)).trans (ZaM hb2)) (by simp) (by simp));have HB2:Hd (Zw_ w w2):=(HB1.o.trans ((Zac _ _).mono HB1.o.size)).trans (hb2.mono ((HB1.o.trans ((Zac _ _).mono HB1.o.size)).size));clear hb2
     cases hu:Zbf Ts xa team with
     | false=>
      have HE:Hd (ZkD Ts team r T (fun z=>left z&&!z.sameKey (Zfd xa xb))=ZkD Ts team r T left):=by unfold Hd;rw [HST.o,hq,hu];simp
      go_wp2;go_roundw
      . exact⟨_,cnt1,HRG2.o,by rw [HE.o],HB2.o⟩
      . rw [HRG2.o.left_eq,hrg.left_eq];exact hlt
     | true=>
      have HE:Hd (ZkD Ts team r T (fun z=>left z&&!z.sameKey (Zfd xa xb))=ZkD Ts team r T left+Zlh T xa xb):=by unfold Hd;rw [HST.o,hq,hu];simp
      go_wp2;go_roundw
      . exact⟨_,cnt1,HRG2.o,by rw [HE.o,ZgN],HB2.o⟩
      . rw [HRG2.o.left_eq,hrg.left_eq];exact hlt
end
theorem ZoN {lo:Nat}{w:World}{sv:Value}{Ss:List Sh} (hS:ZaR lo w sv Ss) {Os:List Ob} (hO:∀ o ∈ Os,ZcN o):ZrB (Zcy Ss Os):=by
 intro p hp;obtain⟨o,ho,hq⟩:=List.mem_flatMap.1 hp;obtain⟨q,hq',rfl⟩:=List.mem_map.1 hq;exact⟨(hO o ho).s2,ZhU hS (hO o ho).s0 q hq'⟩
theorem Zbu.sizes {lo:Nat}{w:World}{ov:Value}{Os:List Ob} (h:Zbu lo w ov Os):∀ o ∈ Os,ZcN o:=by
 intro o ho;obtain⟨i,hi,rfl⟩:=List.getElem_of_mem ho
 rcases h with ⟨_,_,_,rfl⟩ | ⟨b,off,cap,h1,h2,h3,h4,h5,h6,h7⟩
 . simp at hi
 . exact (h7 i hi).1
theorem ZhF (lo:Nat) (v:Value) (Ts:List Tm) (a b:Zy_) (w:World) (hv:Zbn lo w v Ts) :
 Calls prog 129 #[v,.string a,.string b] w fun e w'=>e=.returned (.bool (Zbf Ts a b))/\w'=w:=by
 have HV:=Zab hv;obtain⟨ta,tcap,rfl⟩:=hv.form;clear hv
 cases hab:(a.toList == b.toList) with
 | true=>
  go_enter func129,ntmps129;go_wp2;go_ret;exact⟨Zaa (by simp [Zbf,hab]),rfl⟩
 | false=>
  have HU:Hd (Zbf Ts a b=ZeU Ts b 4 a):=by unfold Hd Zbf;rw [hab];rfl
  go_enter func129,ntmps129;go_wp2;clear hab
  go_loopw [1,7] (fun x n wr=>∃ (k:Nat) (a':Zy_),x=.string a'/\n=.int .i64 k/\k<=4/\Zbf Ts a b=ZeU Ts b (4 - k) a'/\wr=w) (fun _ n _=>4 - (intOf n).toNat)
  case atStart=>exact⟨0,a,rfl,rfl,by omega,HU.o,rfl⟩
  case round=>
   obtain⟨k,a',rfl,rfl,hk,hu,hb⟩:=hrel;have HU:=Zab hu;subst hb;clear hu
   by_cases hlt:k < 4
   . have HS:Hd (Zbf Ts a b=if (ovB Ts a').toList.isEmpty then false else if (ovB Ts a').toList == b.toList then true else ZeU Ts b (4 - (k+1)) (ovB Ts a')):=by
      unfold Hd;rw [HU.o,show 4 - k=(4 - (k+1))+1 from by omega]
      rfl
     clear HU;go_wp2_with fail;refine (ZdK lo _ Ts a' _ HV.o).mono ?_;rintro e w1 ⟨rfl,rfl⟩
     cases he:(ovB Ts a').toList.isEmpty with
     | true=>
      have HR:Hd (Zbf Ts a b=false):=by unfold Hd;rw [HS.o,if_pos he]
      go_wp2;go_ret;exact⟨Zaa HR.o.symm,rfl⟩
     | false=>
      cases he2:((ovB Ts a').toList == b.toList) with
      | true=>
       have HR:Hd (Zbf Ts a b=true):=by unfold Hd;rw [HS.o,if_neg (by simp [he]),if_pos he2]
       go_wp2;go_ret;exact⟨Zaa HR.o.symm,rfl⟩
      | false=>
       have HR:Hd (Zbf Ts a b=ZeU Ts b (4 - (k+1)) (ovB Ts a')):=by unfold Hd;rw [HS.o,if_neg (by simp [he]),if_neg (by simp [he2])]
       go_wp2;go_roundw
       . exact⟨k+1,_,rfl,by go_num,by omega,HR.o,trivial⟩
       . simp [intOf];omega
   . have HR:Hd (Zbf Ts a b=false):=by unfold Hd;rw [HU.o,show 4 - k=0 from by omega];rfl
     go_wp2;go_ret;exact⟨Zaa HR.o.symm,rfl⟩
section
variable (lo:Nat) (sv mv tv ov gv lv pv:Value) (Ss:List Sh) (Ms:List Md) (Ts:List Tm) (Os:List Ob) (now tick given:Int) (team r:Zy_) (w:World)
theorem Zej (h:ZbC lo w sv mv tv Ss Ms Ts) (hO:Zbu lo w ov Os) (hn:Zbp Os) (ga:Option Addr) (gn gc:Nat) (la:Option Addr) (ln lc:Nat) (pa:Option Addr) (pn pc:Nat) :
 Calls prog 72 #[.agg #[sv,mv,tv],.agg #[.int .i64 now,.int .i64 tick,.int .i64 given,ov,.slice ga gn gc,.slice la ln lc,.slice pa pn pc],.string team,.string r] w
  fun e w'=>e=.returned (.int .i64 (wrap64 (ZbF Ss Ts Os team r)))/\Zw_ w w':=by
 have HL:=Zab h;have HO:=Zab hO;obtain⟨a,cap,rfl⟩:=h.shs.form;obtain⟨a1,cap1,rfl⟩:=h.mds.form;obtain⟨a2,cap2,rfl⟩:=h.tms.form;obtain⟨oa,ocap,rfl⟩:=hO.form;have hm:=hO.max;unfold maxLen at hm;clear h hO;go_enter func72,ntmps72;go_wp2_with fail
 obtain⟨wz,hwz,HX,HY,HB⟩:∃ wz,wz=(w.alloc (.cells #[.slice a Ss.length cap,.slice a1 Ms.length cap1,.slice a2 Ts.length cap2] 47)).alloc (.cells #[.int .i64 now,.int .i64 tick,.int .i64 given,.slice oa Os.length ocap,.slice ga gn gc,.slice la ln lc,.slice pa pn pc] 40)/\
  Hd (Box wz w.heap.size #[.slice a Ss.length cap,.slice a1 Ms.length cap1,.slice a2 Ts.length cap2])/\Hd (Box wz (w.heap.size+1) #[.int .i64 now,.int .i64 tick,.int .i64 given,.slice oa Os.length ocap,.slice ga gn gc,.slice la ln lc,.slice pa pn pc])/\Hd (Zw_ w wz):=
  ⟨_,rfl,(Box.new _ _ _ _ rfl).on (Zac _ _),Box.new _ _ _ _ (by simp),(Zac _ _).trans ((Zac _ _).mono (by simp))⟩
 rw [<- hwz];clear hwz
 go_loopw [9,10] (fun n i wr=>∃ k:Nat,n=.int .i64 (wrap64 (ZbF Ss Ts (Os.take k) team r))/\i=.int .i64 k/\k<=Os.length/\Zw_ w wr/\Box wr w.heap.size #[.slice a Ss.length cap,.slice a1 Ms.length cap1,.slice a2 Ts.length cap2]/\Box wr (w.heap.size+1) #[.int .i64 now,.int .i64 tick,.int .i64 given,.slice oa Os.length ocap,.slice ga gn gc,.slice la ln lc,.slice pa pn pc])
  (fun _ i _=>Os.length - (intOf i).toNat)
 case atStart=>exact⟨0,by simp [ZbF,wrap64],rfl,by omega,HB.o,HX.o,HY.o⟩
 case round=>
  obtain⟨k,rfl,rfl,hk,hb,hx,hy⟩:=hrel;have HBr:=Zab hb;have HXr:=Zab hx;have HYr:=Zab hy;have y3:=hy.cell 3;have x0:=hx.cell 0;have x1:=hx.cell 1;have x2:=hx.cell 2;simp at y3 x0 x1 x2;clear hb hx hy
  by_cases hlt:k < Os.length
  . obtain⟨b,off,rfl,hbw,-,hc⟩:=HO.o.full' (by omega)
    obtain⟨hs,vv0,vv1,hcell,hv0,hv1⟩:=hc k hlt;obtain⟨c0,c1,c2,c3,c4,c5,c6⟩:=hcell.below HBr.o hbw;have HV:=Zab hv0.at;have HH:=Zab hv1.at;obtain⟨va,vcap,rfl⟩:=hv0.at.form';obtain⟨ha,hcap,rfl⟩:=hv1.at.form';have HN:Hd (Os[k].vs.length<=1048576):=(hn.2 k hlt).1;have HU:=Zab (ZmS Ss Ts (Os.take k) Os[k] team r);have HTK:=Zab (List.take_succ_eq_append_getElem hlt);have HC:=Zab hcell;clear hc hcell hv0 hv1 hs;go_wp2
    go_quiet ((go_at_call 129;exact Calls.quiet_of_same (ZhF lo _ Ts Os[k].tm team _ (HL.o.below (below_drewN HBr.o _)).tms)))
    have HBd:Hd (Zw_ w (wr.drewN nq)):=below_drewN HBr.o _;have HXd:=Zab (HXr.o.on (below_drewN Zb_ nq));have HYd:=Zab (HYr.o.on (below_drewN Zb_ nq));generalize wr.drewN nq=wd at*
    cases hu:Zbf Ts Os[k].tm team with
    | false=>
     have HE:Hd (ZbF Ss Ts (Os.take (k+1)) team r=ZbF Ss Ts (Os.take k) team r):=by unfold Hd;rw [HTK.o,HU.o,hu];simp
     go_wp2;go_roundw
     . exact⟨k+1,by rw [HE.o],by go_num,by omega,HBd.o,HXd.o,HYd.o⟩
     . simp [intOf];omega
    | true=>
     have HE:Hd (ZbF Ss Ts (Os.take (k+1)) team r=ZbF Ss Ts (Os.take k) team r+ZdG Ss Os[k].kd Os[k].vs r):=by unfold Hd;rw [HTK.o,HU.o,hu];simp
     clear c0 c1 c2 c3 c4 c5 c6 x0 x1 x2 y3;obtain⟨c0,c1,c2,c3,c4,c5,c6⟩:=HC.o.below HBd.o hbw;have y3:=HYd.o.cell 3;have x0:=HXd.o.cell 0;have x1:=HXd.o.cell 1;have x2:=HXd.o.cell 2;simp at y3 x0 x1 x2;have HBD:Hd (Zw_ w wd.drew):=HBd.o.drew;go_wp2
     go_region_with (go_at_call 130;refine (ZhQ lo _ _ _ Ss Ms Ts Os[k].kd Os[k].nm Os[k].tm _ _ Os[k].en Os[k].ver Os[k].vs Os[k].hs r _ (HL.o.below HBD.o) (HV.o.below HBD.o) (HH.o.below HBD.o) HN.o).mono ?_;rintro e w2 ⟨rfl,hb2⟩;have hb3:Hd (Below wd.heap.size wd w2):=(Zb_.drew).trans hb2;clear hb2)
     all_goals go_wp2
     all_goals go_roundw
     all_goals first
      | (case rel=>exact⟨k+1,by rw [HE.o,Zfh],by go_num,by omega,HBd.o.trans (hb3.o.mono HBd.o.size),HXd.o.on hb3.o,HYd.o.on hb3.o⟩)
      | (case measure=>simp [intOf];omega)
  . have he:k=Os.length:=by omega
    subst he;have HE:Hd (ZbF Ss Ts (Os.take Os.length) team r=ZbF Ss Ts Os team r):=by unfold Hd;rw [List.take_length]
    go_wp2;go_ret;exact⟨ZaC (by rw [HE.o]),HBr.o⟩
theorem Zkf (h:ZbC lo w sv mv tv Ss Ms Ts) (hO:Zbu lo w ov Os) (hn:Zbp Os) (ga:Option Addr) (gn gc:Nat) (la:Option Addr) (ln lc:Nat) (pa:Option Addr) (pn pc:Nat) :
 Calls prog 134 #[.agg #[sv,mv,tv],.agg #[.int .i64 now,.int .i64 tick,.int .i64 given,ov,.slice ga gn gc,.slice la ln lc,.slice pa pn pc],.string team,.string r] w
  fun e w'=>e=.returned (.int .i64 (wrap64 (ZbF Ss Ts Os team r)))/\Zw_ w w':=by
 have HL:=Zab h;have HO:=Zab hO;obtain⟨a,cap,rfl⟩:=h.shs.form;obtain⟨a1,cap1,rfl⟩:=h.mds.form;obtain⟨a2,cap2,rfl⟩:=h.tms.form;obtain⟨oa,ocap,rfl⟩:=hO.form;have HTR:=Zab (ZoN h.shs hO.sizes);have HUZ:=Zab (Zim Ss Ts team r Os);clear h hO;go_enter func134,ntmps134;go_wp2_with fail
 obtain⟨wz,hwz,HX,HY,HB⟩:∃ wz,wz=(w.alloc (.cells #[.slice a Ss.length cap,.slice a1 Ms.length cap1,.slice a2 Ts.length cap2] 47)).alloc (.cells #[.int .i64 now,.int .i64 tick,.int .i64 given,.slice oa Os.length ocap,.slice ga gn gc,.slice la ln lc,.slice pa pn pc] 40)/\
  Hd (Box wz w.heap.size #[.slice a Ss.length cap,.slice a1 Ms.length cap1,.slice a2 Ts.length cap2])/\Hd (Box wz (w.heap.size+1) #[.int .i64 now,.int .i64 tick,.int .i64 given,.slice oa Os.length ocap,.slice ga gn gc,.slice la ln lc,.slice pa pn pc])/\Hd (Zw_ w wz):=
  ⟨_,rfl,(Box.new _ _ _ _ rfl).on (Zac _ _),Box.new _ _ _ _ (by simp),(Zac _ _).trans ((Zac _ _).mono (by simp))⟩
 rw [<- hwz];clear hwz;have HD:Hd (Zw_ w wz.drew):=HB.o.drew
 go_region_held3 (ZaB wz w.heap.size #[.slice a Ss.length cap,.slice a1 Ms.length cap1,.slice a2 Ts.length cap2] (w.heap.size+1) #[.int .i64 now,.int .i64 tick,.int .i64 given,.slice oa Os.length ocap,.slice ga gn gc,.slice la ln lc,.slice pa pn pc])
  (first
    | (with_reducible exact ZaB.drew HX.o HY.o)
    | (with_reducible exact ZaB.on (by assumption) (by assumption)))
  (first
    | (go_at_call 179
       refine (ZgU lo _ _ Ss Os _ (HL.o.below HD.o).shs (HO.o.below HD.o) hn).mono ?_;rintro e w1 ⟨rfl,hb1,D,ho,hsum⟩;have HC1:Hd (Zw_ w w1):=HD.o.trans (hb1.mono HD.o.size);have HOW:=Zab ho;have HSU:=Zab hsum;clear ho hsum)
    | (go_at_call 180
       refine (Zfg lo _ Ts team r _ _ (HL.o.below HC1.o).tms HOW.o HSU.o HTR.o).mono ?_;rintro e w2 ⟨rfl,hb2⟩;have HC2:Hd (Zw_ w w2):=HC1.o.trans (hb2.mono HC1.o.size)))
 all_goals go_wp2
 all_goals go_ret
 all_goals exact⟨ZaC (by rw [HUZ.o]),HC2.o⟩
end
open Go.RowKit Go.Deep
structure Bk where
 now:Int
 tick:Int
 given:Int
 os:List Ob
 gs:List Gr
 ls:List Le
 ps:List Pu
structure ZaY (lo:Nat) (w:World) (ov gv lv pv:Value) (B:Bk):Prop where
 obs:Zbu lo w ov B.os
 grs:Zb4 lo w gv B.gs
 les:ZbG lo w lv B.ls
 pus:ZbW lo w pv B.ps
theorem ZaY.below {lo:Nat}{w:World}{ov gv lv pv:Value}{B:Bk} (h:ZaY lo w ov gv lv pv B) (hb:Zw_ w w'):ZaY lo w' ov gv lv pv B:=
 ⟨h.obs.below hb,h.grs.below hb,h.les.below hb,h.pus.below hb⟩
theorem ZaY.mono {lo lo':Nat}{w:World}{ov gv lv pv:Value}{B:Bk} (h:ZaY lo w ov gv lv pv B) (hl:lo'<=lo):ZaY lo' w ov gv lv pv B:=
 ⟨h.obs.mono hl,h.grs.mono hl,h.les.mono hl,h.pus.mono hl⟩
def ZaE (B:Bk):Prop:=Zbp B.os/\Zdu B.gs/\Zd7 B.ls/\ZdV B.ps
section
variable (lo:Nat) (ov gv lv pv:Value) (B:Bk) (w:World)
theorem ZnA (left:Int) (h0:0<=left) (h1:left<=1048576) (h:ZaY lo w ov gv lv pv B) :
 Calls prog 8 #[.agg #[.int .i64 B.now,.int .i64 B.tick,.int .i64 B.given,ov,gv,lv,pv],.int .i64 left] w
  fun e w'=>∃ r:Int,e=.returned (.int .i64 r)/\Zw_ w w'/\-1<=r/\r<=left/\(0<=r->ZaE B):=by
 have HL:=Zab h;obtain⟨a0,k0,rfl⟩:=h.obs.form;obtain⟨a1,k1,rfl⟩:=h.grs.form;obtain⟨a2,k2,rfl⟩:=h.les.form;obtain⟨a3,k3,rfl⟩:=h.pus.form;clear h;go_enter func8,ntmps8;go_wp2_with fail;generalize hWa:w.alloc _=Wa;have HB0:Hd (Zw_ w Wa):=by rw [<- hWa];exact Zac w _
 have HX0:Hd (Box Wa w.heap.size #[.int .i64 B.now,.int .i64 B.tick,.int .i64 B.given,.slice a0 B.os.length k0,.slice a1 B.gs.length k1,.slice a2 B.ls.length k2,.slice a3 B.ps.length k3]):=by rw [<- hWa];exact Box.new _ _ _ _ rfl
 clear hWa;have hr0:(0:Int)<=left:=h0;refine (Zot lo _ B.os _ _ (by omega) (by omega) (HL.o.below HB0.o).obs).mono ?_;rintro e w1 ⟨r1,rfl,hb1,p1,q1,s1⟩;have HX1:=Zab (HX0.o.on hb1);have HB1:Hd (Zw_ w w1):=HB0.o.trans (hb1.mono HB0.o.size);have Q1:=Zab s1;clear hb1 s1 HB0 HX0
 by_cases hn1:r1 < 0
 . go_wp2
   go_ret;exact⟨-1,rfl,HB1.o,by omega,by omega,fun h=>by omega⟩
 have c1:=HX1.o.cell 4;simp at c1;go_wp2_with fail;clear c1;refine (ZoY lo _ B.gs _ _ (by omega) (by omega) (HL.o.below HB1.o).grs).mono ?_;rintro e w2 ⟨r2,rfl,hb2,p2,q2,s2⟩;have HX2:=Zab (HX1.o.on hb2);have HB2:Hd (Zw_ w w2):=HB1.o.trans (hb2.mono HB1.o.size);have Q2:=Zab s2;clear hb2 s2 HB1 HX1
 by_cases hn2:r2 < 0
 . go_wp2
   go_ret;exact⟨-1,rfl,HB2.o,by omega,by omega,fun h=>by omega⟩
 have c2:=HX2.o.cell 5;simp at c2;go_wp2_with fail;clear c2;refine (ZpN lo _ B.ls _ _ (by omega) (by omega) (HL.o.below HB2.o).les).mono ?_;rintro e w3 ⟨r3,rfl,hb3,p3,q3,s3⟩;have HX3:=Zab (HX2.o.on hb3);have HB3:Hd (Zw_ w w3):=HB2.o.trans (hb3.mono HB2.o.size);have Q3:=Zab s3;clear hb3 s3 HB2 HX2
 by_cases hn3:r3 < 0
 . go_wp2
   go_ret;exact⟨-1,rfl,HB3.o,by omega,by omega,fun h=>by omega⟩
 have c3:=HX3.o.cell 6;simp at c3;go_wp2_with fail;clear c3;refine (ZoH lo _ B.ps _ _ (by omega) (by omega) (HL.o.below HB3.o).pus).mono ?_;rintro e w4 ⟨r4,rfl,hb4,p4,q4,s4⟩;have HX4:=Zab (HX3.o.on hb4);have HB4:Hd (Zw_ w w4):=HB3.o.trans (hb4.mono HB3.o.size);have Q4:=Zab s4;clear hb4 s4 HB3 HX3
 by_cases hn4:r4 < 0
 . go_wp2
   go_ret;exact⟨-1,rfl,HB4.o,by omega,by omega,fun h=>by omega⟩
 go_wp2;go_ret;exact⟨_,rfl,HB4.o,by omega,by omega,fun h=>⟨Q1.o (by omega),Q2.o (by omega),Q3.o (by omega),Q4.o (by omega)⟩⟩
theorem Zd8 (lo':Nat) (ov' gv' lv' pv':Value) (h:ZaY lo w ov gv lv pv B) (h':ZaY lo' w ov' gv' lv' pv' B) :
 Calls prog 13 #[.agg #[.int .i64 B.now,.int .i64 B.tick,.int .i64 B.given,ov,gv,lv,pv],.agg #[.int .i64 B.now,.int .i64 B.tick,.int .i64 B.given,ov',gv',lv',pv']] w fun e w'=>e=.returned (.bool true)/\Zw_ w w':=by
 have HL:=Zab h;have HR:=Zab h';obtain⟨a0,k0,rfl⟩:=h.obs.form;obtain⟨a1,k1,rfl⟩:=h.grs.form;obtain⟨a2,k2,rfl⟩:=h.les.form;obtain⟨a3,k3,rfl⟩:=h.pus.form;obtain⟨d0,md0,rfl⟩:=h'.obs.form;obtain⟨d1,md1,rfl⟩:=h'.grs.form;obtain⟨d2,md2,rfl⟩:=h'.les.form;obtain⟨d3,md3,rfl⟩:=h'.pus.form;clear h h';go_enter func13,ntmps13;go_wp2_with fail;generalize hWa:(World.alloc (w.alloc _) _)=Wa;have HB0:Hd (Zw_ w Wa):=by rw [<- hWa];exact (Zac w _).alloc (by simp) _
 have HX0:Hd (Box Wa w.heap.size #[.int .i64 B.now,.int .i64 B.tick,.int .i64 B.given,.slice a0 B.os.length k0,.slice a1 B.gs.length k1,.slice a2 B.ls.length k2,.slice a3 B.ps.length k3]):=by rw [<- hWa];exact (Box.new _ _ _ _ rfl).on (Zac _ _)
 have HY0:Hd (Box Wa (w.heap.size+1) #[.int .i64 B.now,.int .i64 B.tick,.int .i64 B.given,.slice d0 B.os.length md0,.slice d1 B.gs.length md1,.slice d2 B.ls.length md2,.slice d3 B.ps.length md3]):=by rw [<- hWa];exact Box.new _ _ _ _ (by simp)
 clear hWa;refine (Zm9 lo lo' _ _ B.os _ (HL.o.below HB0.o).obs (HR.o.below HB0.o).obs).mono ?_;rintro e w1 ⟨rfl,hb1⟩;have HX1:=Zab (HX0.o.on hb1);have HY1:=Zab (HY0.o.on hb1);have HB1:Hd (Zw_ w w1):=HB0.o.trans (hb1.mono HB0.o.size);clear hb1 HB0 HX0 HY0;have c1:=HX1.o.cell 4;have e1:=HY1.o.cell 4;simp at c1 e1;go_wp2_with fail;clear c1 e1;refine (Znj lo lo' _ _ B.gs _ (HL.o.below HB1.o).grs (HR.o.below HB1.o).grs).mono ?_;rintro e w2 ⟨rfl,hb2⟩;have HX2:=Zab (HX1.o.on hb2);have HY2:=Zab (HY1.o.on hb2);have HB2:Hd (Zw_ w w2):=HB1.o.trans (hb2.mono HB1.o.size);clear hb2 HB1 HX1 HY1;have c2:=HX2.o.cell 5;have e2:=HY2.o.cell 5;simp at c2 e2;go_wp2_with fail;clear c2 e2;refine (ZmP lo lo' _ _ B.ls _ (HL.o.below HB2.o).les (HR.o.below HB2.o).les).mono ?_;rintro e w3 ⟨rfl,hb3⟩
 have HX3:=Zab (HX2.o.on hb3);have HY3:=Zab (HY2.o.on hb3);have HB3:Hd (Zw_ w w3):=HB2.o.trans (hb3.mono HB2.o.size);clear hb3 HB2 HX2 HY2;have c3:=HX3.o.cell 6;have e3:=HY3.o.cell 6;simp at c3 e3;go_wp2_with fail;clear c3 e3;refine (ZmH lo lo' _ _ B.ps _ (HL.o.below HB3.o).pus (HR.o.below HB3.o).pus).mono ?_;rintro e w4 ⟨rfl,hb4⟩;have HX4:=Zab (HX3.o.on hb4);have HY4:=Zab (HY3.o.on hb4);have HB4:Hd (Zw_ w w4):=HB3.o.trans (hb4.mono HB3.o.size);clear hb4 HB3 HX3 HY3;go_wp2;go_ret;exact⟨rfl,HB4.o⟩
theorem ZfM (h:ZaY lo w ov gv lv pv B) (hn:ZaE B) :
 Calls prog 11 #[.agg #[.int .i64 B.now,.int .i64 B.tick,.int .i64 B.given,ov,gv,lv,pv]] w
  fun e w'=>∃ b0 m0 b1 m1 b2 m2 b3 m3,e=.returned (.agg #[.int .i64 B.now,.int .i64 B.tick,.int .i64 B.given,.slice b0 B.os.length m0,.slice b1 B.gs.length m1,.slice b2 B.ls.length m2,.slice b3 B.ps.length m3])/\Zw_ w w'/\
   ZaY w.heap.size w' (.slice b0 B.os.length m0) (.slice b1 B.gs.length m1) (.slice b2 B.ls.length m2) (.slice b3 B.ps.length m3) B:=by
 have HL:=Zab h;obtain⟨a0,k0,rfl⟩:=h.obs.form;obtain⟨a1,k1,rfl⟩:=h.grs.form;obtain⟨a2,k2,rfl⟩:=h.les.form;obtain⟨a3,k3,rfl⟩:=h.pus.form;obtain⟨hn0,hn1,hn2,hn3⟩:=hn;clear h;go_enter func11,ntmps11;go_wp2_with fail
 obtain⟨wz,hwz,HX0,HR0,HO0,HB0⟩:∃ wz,wz=((w.alloc (.cells #[.int .i64 B.now,.int .i64 B.tick,.int .i64 B.given,.slice a0 B.os.length k0,.slice a1 B.gs.length k1,.slice a2 B.ls.length k2,.slice a3 B.ps.length k3] 32)).alloc (.cells #[.int .i64 0,.int .i64 0,.int .i64 0,.slice none 0 0,.slice none 0 0,.slice none 0 0,.slice none 0 0] 40)).alloc (.cells #[.int .i64 B.now,.int .i64 B.tick,.int .i64 B.given,.slice none 0 0,.slice none 0 0,.slice none 0 0,.slice none 0 0] 40)/\
  Hd (Box wz w.heap.size #[.int .i64 B.now,.int .i64 B.tick,.int .i64 B.given,.slice a0 B.os.length k0,.slice a1 B.gs.length k1,.slice a2 B.ls.length k2,.slice a3 B.ps.length k3])/\Hd (Box wz (w.heap.size+1) #[.int .i64 0,.int .i64 0,.int .i64 0,.slice none 0 0,.slice none 0 0,.slice none 0 0,.slice none 0 0])/\
  Hd (Box wz (w.heap.size+1+1) #[.int .i64 B.now,.int .i64 B.tick,.int .i64 B.given,.slice none 0 0,.slice none 0 0,.slice none 0 0,.slice none 0 0])/\Hd (Zw_ w wz):=
  ⟨_,rfl,((Box.new w _ _ _ rfl).on (Zac _ _)).on (Zac _ _),(Box.new _ _ _ _ (by simp)).on (Zac _ _),Box.new _ _ _ _ (by simp),((Zac _ _).trans ((Zac _ _).mono (by simp))).trans ((Zac _ _).mono (by simp;omega))⟩
 rw [<- hwz];clear hwz;generalize wz=v0 at*;have hz0:w.heap.size+3<=v0.heap.size:=by have:=HO0.o.lt;omega
 refine (ZoQ lo _ B.os _ (HL.o.below HB0.o).obs hn0).mono ?_;rintro e w0 ⟨u0,rfl,hb0,hs0⟩;obtain⟨b0,m0,rfl⟩:=hs0.form;have GX:=Zab (HX0.o.on hb0);have GR:=Zab (HR0.o.on hb0);have GO:=Zab (HO0.o.on hb0);have GB:=Zab (HB0.o.trans (hb0.mono HB0.o.size));have GN:Hd (Zbu (w.heap.size+3) w0 (.slice b0 B.os.length m0) B.os):=hs0.mono hz0;clear hb0 hs0 HX0 HR0 HO0 HB0 hz0;have o0:=GO.o.cell 3;have f0:=GO.o.free 3;have x1:=GX.o.cell 4;simp at o0 f0 x1;go_wp2_with fail;clear o0 f0 x1
 obtain⟨v1,hwq,HX1,HR1,HO1,HB1,HS0⟩:∃ wq,wq=w0.setCell ⟨w.heap.size+1+1,3,none⟩ (.slice b0 B.os.length m0)/\
  Hd (Box wq w.heap.size #[.int .i64 B.now,.int .i64 B.tick,.int .i64 B.given,.slice a0 B.os.length k0,.slice a1 B.gs.length k1,.slice a2 B.ls.length k2,.slice a3 B.ps.length k3])/\Hd (Box wq (w.heap.size+1) #[.int .i64 0,.int .i64 0,.int .i64 0,.slice none 0 0,.slice none 0 0,.slice none 0 0,.slice none 0 0])/\
  Hd (Box wq (w.heap.size+1+1) #[.int .i64 B.now,.int .i64 B.tick,.int .i64 B.given,.slice b0 B.os.length m0,.slice none 0 0,.slice none 0 0,.slice none 0 0])/\Hd (Zw_ w wq)/\Hd (Zbu (w.heap.size+3) wq (.slice b0 B.os.length m0) B.os):=
  ⟨_,rfl,GX.o.setFar (by dsimp;omega) _,GR.o.setFar (by dsimp;omega) _,GO.o.set (k:=3) (.slice b0 B.os.length m0) (by simp),GB.o.setCell (by dsimp;omega) _,GN.o.set (by dsimp;omega) _⟩
 rw [<- hwq];clear hwq GX GR GO GB GN;have hz1:w.heap.size+3<=v1.heap.size:=by have:=HO1.o.lt;omega
 refine (Zpy lo _ B.gs _ (HL.o.below HB1.o).grs hn1).mono ?_;rintro e w1 ⟨u1,rfl,hb1,hs1⟩;obtain⟨b1,m1,rfl⟩:=hs1.form;have GX:=Zab (HX1.o.on hb1);have GR:=Zab (HR1.o.on hb1);have GO:=Zab (HO1.o.on hb1);have GB:=Zab (HB1.o.trans (hb1.mono HB1.o.size));have GN:Hd (Zb4 (w.heap.size+3) w1 (.slice b1 B.gs.length m1) B.gs):=hs1.mono hz1;have G0:=Zab (HS0.o.below hb1);clear hb1 hs1 HX1 HR1 HO1 HB1 hz1 HS0;have o0:=GO.o.cell 4;have f0:=GO.o.free 4;have x1:=GX.o.cell 5;simp at o0 f0 x1;go_wp2_with fail;clear o0 f0 x1
 obtain⟨v2,hwq,HX2,HR2,HO2,HB2,HS1,HS0⟩:∃ wq,wq=w1.setCell ⟨w.heap.size+1+1,4,none⟩ (.slice b1 B.gs.length m1)/\
  Hd (Box wq w.heap.size #[.int .i64 B.now,.int .i64 B.tick,.int .i64 B.given,.slice a0 B.os.length k0,.slice a1 B.gs.length k1,.slice a2 B.ls.length k2,.slice a3 B.ps.length k3])/\Hd (Box wq (w.heap.size+1) #[.int .i64 0,.int .i64 0,.int .i64 0,.slice none 0 0,.slice none 0 0,.slice none 0 0,.slice none 0 0])/\
  Hd (Box wq (w.heap.size+1+1) #[.int .i64 B.now,.int .i64 B.tick,.int .i64 B.given,.slice b0 B.os.length m0,.slice b1 B.gs.length m1,.slice none 0 0,.slice none 0 0])/\Hd (Zw_ w wq)/\Hd (Zb4 (w.heap.size+3) wq (.slice b1 B.gs.length m1) B.gs)/\Hd (Zbu (w.heap.size+3) wq (.slice b0 B.os.length m0) B.os):=
  ⟨_,rfl,GX.o.setFar (by dsimp;omega) _,GR.o.setFar (by dsimp;omega) _,GO.o.set (k:=4) (.slice b1 B.gs.length m1) (by simp),GB.o.setCell (by dsimp;omega) _,GN.o.set (by dsimp;omega) _,G0.o.set (by dsimp;omega) _⟩
 rw [<- hwq];clear hwq GX GR GO GB GN G0;have hz2:w.heap.size+3<=v2.heap.size:=by have:=HO2.o.lt;omega
 refine (Zpt lo _ B.ls _ (HL.o.below HB2.o).les hn2).mono ?_;rintro e w2 ⟨u2,rfl,hb2,hs2⟩;obtain⟨b2,m2,rfl⟩:=hs2.form;have GX:=Zab (HX2.o.on hb2);have GR:=Zab (HR2.o.on hb2);have GO:=Zab (HO2.o.on hb2);have GB:=Zab (HB2.o.trans (hb2.mono HB2.o.size));have GN:Hd (ZbG (w.heap.size+3) w2 (.slice b2 B.ls.length m2) B.ls):=hs2.mono hz2;have G0:=Zab (HS0.o.below hb2);have G1:=Zab (HS1.o.below hb2);clear hb2 hs2 HX2 HR2 HO2 HB2 hz2 HS0 HS1;have o0:=GO.o.cell 5;have f0:=GO.o.free 5;have x1:=GX.o.cell 6;simp at o0 f0 x1;go_wp2_with fail;clear o0 f0 x1
 obtain⟨v3,hwq,HX3,HR3,HO3,HB3,HS2,HS0,HS1⟩:∃ wq,wq=w2.setCell ⟨w.heap.size+1+1,5,none⟩ (.slice b2 B.ls.length m2)/\
  Hd (Box wq w.heap.size #[.int .i64 B.now,.int .i64 B.tick,.int .i64 B.given,.slice a0 B.os.length k0,.slice a1 B.gs.length k1,.slice a2 B.ls.length k2,.slice a3 B.ps.length k3])/\Hd (Box wq (w.heap.size+1) #[.int .i64 0,.int .i64 0,.int .i64 0,.slice none 0 0,.slice none 0 0,.slice none 0 0,.slice none 0 0])/\
  Hd (Box wq (w.heap.size+1+1) #[.int .i64 B.now,.int .i64 B.tick,.int .i64 B.given,.slice b0 B.os.length m0,.slice b1 B.gs.length m1,.slice b2 B.ls.length m2,.slice none 0 0])/\Hd (Zw_ w wq)/\Hd (ZbG (w.heap.size+3) wq (.slice b2 B.ls.length m2) B.ls)/\Hd (Zbu (w.heap.size+3) wq (.slice b0 B.os.length m0) B.os)/\Hd (Zb4 (w.heap.size+3) wq (.slice b1 B.gs.length m1) B.gs):=
  ⟨_,rfl,GX.o.setFar (by dsimp;omega) _,GR.o.setFar (by dsimp;omega) _,GO.o.set (k:=5) (.slice b2 B.ls.length m2) (by simp),GB.o.setCell (by dsimp;omega) _,GN.o.set (by dsimp;omega) _,G0.o.set (by dsimp;omega) _,G1.o.set (by dsimp;omega) _⟩
 rw [<- hwq];clear hwq GX GR GO GB GN G0 G1;have hz3:w.heap.size+3<=v3.heap.size:=by have:=HO3.o.lt;omega
 refine (Zor lo _ B.ps _ (HL.o.below HB3.o).pus hn3).mono ?_;rintro e w3 ⟨u3,rfl,hb3,hs3⟩;obtain⟨b3,m3,rfl⟩:=hs3.form;have GX:=Zab (HX3.o.on hb3);have GR:=Zab (HR3.o.on hb3);have GO:=Zab (HO3.o.on hb3);have GB:=Zab (HB3.o.trans (hb3.mono HB3.o.size));have GN:Hd (ZbW (w.heap.size+3) w3 (.slice b3 B.ps.length m3) B.ps):=hs3.mono hz3;have G0:=Zab (HS0.o.below hb3);have G1:=Zab (HS1.o.below hb3);have G2:=Zab (HS2.o.below hb3);clear hb3 hs3 HX3 HR3 HO3 HB3 hz3 HS0 HS1 HS2;have o0:=GO.o.cell 0;have o1:=GO.o.cell 1;have o2:=GO.o.cell 2;have o3:=GO.o.cell 3;have o4:=GO.o.cell 4;have o5:=GO.o.cell 5;have o6:=GO.o.cell 6;have f6:=GO.o.free 6;have r0:=GR.o.cell 0;have g0:=GR.o.free 0;have r1:=GR.o.cell 1;have g1:=GR.o.free 1;have r2:=GR.o.cell 2;have g2:=GR.o.free 2;have r3:=GR.o.cell 3;have g3:=GR.o.free 3;have r4:=GR.o.cell 4
 have g4:=GR.o.free 4;have r5:=GR.o.cell 5;have g5:=GR.o.free 5;have r6:=GR.o.cell 6;have g6:=GR.o.free 6;simp at o0 o1 o2 o3 o4 o5 o6 r0 r1 r2 r3 r4 r5 r6;go_wp2;refine bodyPost_ret (v:=.agg #[.int .i64 B.now,.int .i64 B.tick,.int .i64 B.given,.slice b0 B.os.length m0,.slice b1 B.gs.length m1,.slice b2 B.ls.length m2,.slice b3 B.ps.length m3]) (by simp [results,results11,go_sem,r0,r1,r2,r3,r4,r5,r6]) rfl ⟨_,_,_,_,_,_,_,_,rfl,?_,?_,?_,?_,?_⟩
 . repeat (refine Below.setCell ?_ (by dsimp;omega) _)
   exact GB.o
 . refine Zbu.mono (lo:=w.heap.size+3) ?_ (by omega)
   repeat (refine Zbu.set ?_ (by dsimp;omega) _)
   exact G0.o
 . refine Zb4.mono (lo:=w.heap.size+3) ?_ (by omega)
   repeat (refine Zb4.set ?_ (by dsimp;omega) _)
   exact G1.o
 . refine ZbG.mono (lo:=w.heap.size+3) ?_ (by omega)
   repeat (refine ZbG.set ?_ (by dsimp;omega) _)
   exact G2.o
 . refine ZbW.mono (lo:=w.heap.size+3) ?_ (by omega)
   repeat (refine ZbW.set ?_ (by dsimp;omega) _)
   exact GN.o
end
open Go.ChangeShapes Go.WideShapes Go.ChangeAt Go.RowKit Go.Deep
theorem Tryz.cells26:prog.cellsOf 26=3:=by kernel_rfl
theorem Tryz.cells22:prog.cellsOf 22=1:=by kernel_rfl
theorem Tryz.cells23:prog.cellsOf 23=1:=by kernel_rfl
theorem Tryz.cells24:prog.cellsOf 24=1:=by kernel_rfl
theorem Zso {cs:Array Value} (h:cs.size=3):∃ c0 c1 c2,cs=#[c0,c1,c2]:=by
 obtain⟨l⟩:=cs
 match l,h with
 | [c0,c1,c2],_=>exact⟨c0,c1,c2,rfl⟩
section
variable {H:Type} {enc:TypeId×Value->H} {W:World}
theorem ZqF {r:Reach}{d:DataW H}{p:List MemPlace} (hv:Value.okWide prog W r b0 26 v) (h:DataW.Trod enc prog W 0 (fun _=>true) true 26 v d p) :
 ∃ (sv mv tv:Value) (Ss:List Sh) (Ms:List Md) (Ts:List Tm),v=.agg #[sv,mv,tv]/\ZbC 0 W sv mv tv Ss Ms Ts:=by
 obtain⟨cs,rfl,hsz⟩:=okWide_struct underlying26 hv;obtain⟨c0,c1,c2,rfl⟩:=Zso (hsz.trans Tryz.cells26);obtain⟨fuel,hf⟩:=h;obtain⟨xs,n,_,_,_,hlen,hfld⟩:=DataW.trod_struct underlying26 hf;simp only [Array.size,List.length_cons,List.length_nil] at hlen;have g0:DataW.trod enc prog W 0 (fun _=>true) true n 22 ((([c0,c1,c2]:List Value).drop 0).take (prog.cellsOf 22))=xs[0]?:=hfld 0 _ rfl;have g1:DataW.trod enc prog W 0 (fun _=>true) true n 23 ((([c0,c1,c2]:List Value).drop 1).take (prog.cellsOf 23))=xs[1]?:=hfld 1 _ rfl;have g2:DataW.trod enc prog W 0 (fun _=>true) true n 24 ((([c0,c1,c2]:List Value).drop 2).take (prog.cellsOf 24))=xs[2]?:=hfld 2 _ rfl;simp only [Tryz.cells22,Tryz.cells23,Tryz.cells24,List.drop_succ_cons,List.drop_zero,List.take_succ_cons,List.take_zero] at g0 g1 g2;rw [List.getElem?_eq_getElem (by omega)] at g0 g1 g2
 obtain⟨Ss,hS⟩:=Zqw g0;obtain⟨Ms,hM⟩:=Zqj g1;obtain⟨Ts,hT⟩:=Zqo g2;exact⟨c0,c1,c2,Ss,Ms,Ts,rfl,hS,hM,hT⟩
end
theorem Zs1 (h:l.length=7):∃ c0 c1 c2 c3 c4 c5 c6,l=[c0,c1,c2,c3,c4,c5,c6]:=by
 match l,h with
 | [c0,c1,c2,c3,c4,c5,c6],_=>exact⟨c0,c1,c2,c3,c4,c5,c6,rfl⟩
section
variable {H:Type} {enc:TypeId×Value->H} {W:World}
theorem ZrD {x:DataW H×List MemPlace} (h:DataW.trod enc prog W 0 (fun _=>true) true fuel 146 cs=some x) :
 ∃ (x:Ob) (vv0:Value) (vv1:Value),cs=[.string x.kd,.string x.nm,.string x.tm,vv0,.bool x.en,vv1,.int .i64 x.ver]/\Zaq 0 W vv0 x.vs/\Zaq 0 W vv1 x.hs/\ZcN x:=by
 obtain⟨xs,n,_,_,hl,hlen,hfld⟩:=DataW.trod_struct underlying146 h;obtain⟨c0,c1,c2,c3,c4,c5,c6,rfl⟩:=Zs1 (hl.trans Tryz.cells146);simp only [Array.size,List.length_cons,List.length_nil] at hlen;have g0:DataW.trod enc prog W 0 (fun _=>true) true n 9 ((([c0,c1,c2,c3,c4,c5,c6]:List Value).drop 0).take (prog.cellsOf 9))=xs[0]?:=hfld 0 _ rfl;have g1:DataW.trod enc prog W 0 (fun _=>true) true n 9 ((([c0,c1,c2,c3,c4,c5,c6]:List Value).drop 1).take (prog.cellsOf 9))=xs[1]?:=hfld 1 _ rfl;have g2:DataW.trod enc prog W 0 (fun _=>true) true n 9 ((([c0,c1,c2,c3,c4,c5,c6]:List Value).drop 2).take (prog.cellsOf 9))=xs[2]?:=hfld 2 _ rfl;have g3:DataW.trod enc prog W 0 (fun _=>true) true n 59 ((([c0,c1,c2,c3,c4,c5,c6]:List Value).drop 3).take (prog.cellsOf 59))=xs[3]?:=hfld 3 _ rfl
 have g4:DataW.trod enc prog W 0 (fun _=>true) true n 4 ((([c0,c1,c2,c3,c4,c5,c6]:List Value).drop 4).take (prog.cellsOf 4))=xs[4]?:=hfld 4 _ rfl;have g5:DataW.trod enc prog W 0 (fun _=>true) true n 59 ((([c0,c1,c2,c3,c4,c5,c6]:List Value).drop 5).take (prog.cellsOf 59))=xs[5]?:=hfld 5 _ rfl;have g6:DataW.trod enc prog W 0 (fun _=>true) true n 3 ((([c0,c1,c2,c3,c4,c5,c6]:List Value).drop 6).take (prog.cellsOf 3))=xs[6]?:=hfld 6 _ rfl;simp only [Tryz.cells4,Tryz.cells3,Tryz.cells9,Tryz.cells59,List.drop_succ_cons,List.drop_zero,List.take_succ_cons,List.take_zero] at g0 g1 g2 g3 g4 g5 g6;rw [List.getElem?_eq_getElem (by omega)] at g0 g1 g2 g3 g4 g5 g6;obtain⟨q0,e0,_,s0⟩:=DataW.trod_string underlying9 g0;obtain⟨q1,e1,_,s1⟩:=DataW.trod_string underlying9 g1;obtain⟨q2,e2,_,s2⟩:=DataW.trod_string underlying9 g2;obtain⟨q3,hq3⟩:=ZfW g3
 obtain⟨q4,e4,_⟩:=DataW.trod_bool underlying4 g4;obtain⟨q5,hq5⟩:=ZfW g5;obtain⟨q6,e6,_,_⟩:=DataW.trod_int underlying3 g6;simp only [List.cons.injEq,and_true] at e0 e1 e2 e4 e6;subst e0 e1 e2 e4 e6;exact⟨⟨q0,q1,q2,q3,q4,q5,q6⟩,c3,c5,rfl,hq3.in0,hq5.in0,⟨s0,s1,s2⟩⟩
theorem ZqC {x:DataW H×List MemPlace} (h:DataW.trod enc prog W 0 (fun _=>true) true fuel 27 [c]=some x):∃ Xl,Zbu 0 W c Xl:=by
 rcases open_slice underlying27 h with ⟨hcs,_⟩ | ⟨a,len,cap,m,n,D,Pl,hcs,_,hl,hm,hmm,_,hx⟩
 . simp only [List.cons.injEq,and_true] at hcs
   exact⟨[],Or.inl ⟨_,_,hcs,rfl⟩⟩
 . simp only [List.cons.injEq,and_true] at hcs
   simp only [if_true] at hmm;subst hmm;rw [Tryz.cells146] at hx
   by_cases h0:len=0
   . subst h0
     exact⟨[],Or.inl ⟨_,_,hcs,rfl⟩⟩
   . obtain⟨Xl,hF,hall⟩:=ZbO (p:=fun i (x:Ob)=>ZcN x/\∃ vv0 vv1,Zaq 0 W vv0 x.vs/\Zaq 0 W vv1 x.hs/\W.cells? 0 (a.add (i*7)) 7=some [.string x.kd,.string x.nm,.string x.tm,vv0,.bool x.en,vv1,.int .i64 x.ver]) len (fun i hi=>by
      obtain⟨cs',h1,h2⟩:=hx i (by omega);obtain⟨md,vv0,vv1,e,hw0,hw1,hz⟩:=ZrD h2;rw [e] at h1;exact⟨md,hz,vv0,vv1,hw0,hw1,h1⟩)
     obtain⟨b,off,spot⟩:=a
     have hspot:spot=none:=by
      obtain⟨_,vv0,vv1,_,_,h1⟩:=hall 0 (by omega);have:=(World.cells?_some h1).2.2 0 (by omega);rw [Nat.zero_mul] at this;have e0:((⟨b,off,spot⟩:Addr).add 0).add 0=⟨b,off,spot⟩:=by simp [Addr.add]
      rw [e0] at this
      simpa using World.cell?_spot (by simpa using this)
     subst hspot
     have hcell:∀ i (hi:i < Xl.length) vv0 vv1,W.cells? 0 ((⟨b,off,none⟩:Addr).add (i*7)) 7=some [.string Xl[i].kd,.string Xl[i].nm,.string Xl[i].tm,vv0,.bool Xl[i].en,vv1,.int .i64 Xl[i].ver]->ZcT W b (off+i*7) Xl[i] vv0 vv1:=fun i hi vv0 vv1 h1=>by
      obtain⟨_,_,hc⟩:=World.cells?_some h1;rw [add_plain] at hc;have q:=fun j (hj:j < 7)=>(add_plain b (off+i*7) j) ▸ hc j hj
      exact⟨by simpa using q 0 (by omega),by simpa using q 1 (by omega),by simpa using q 2 (by omega),by simpa using q 3 (by omega),by simpa using q 4 (by omega),by simpa using q 5 (by omega),by simpa using q 6 (by omega)⟩
     have hbw:b < W.heap.size:=by
      obtain⟨_,vv0,vv1,_,_,h1⟩:=hall 0 (by omega);exact World.block_lt_of_cell? W _ (hcell 0 (by omega) vv0 vv1 h1).c0
     refine⟨Xl,Or.inr ⟨b,off,m,by rw [hcs,hF],?_,by omega,hbw,Nat.zero_le _,by omega,fun i hi=>?_⟩⟩
     . intro e;rw [e] at hF;simp at hF;omega
     . obtain⟨hz,vv0,vv1,hw0,hw1,h1⟩:=hall i hi
       exact⟨hz,vv0,vv1,hcell i hi vv0 vv1 h1,hw0,hw1⟩
end
theorem Tryz.cells149:prog.cellsOf 149=7:=by kernel_rfl
theorem Zs4 (h:l.length=7):∃ c0 c1 c2 c3 c4 c5 c6,l=[c0,c1,c2,c3,c4,c5,c6]:=by
 match l,h with
 | [c0,c1,c2,c3,c4,c5,c6],_=>exact⟨c0,c1,c2,c3,c4,c5,c6,rfl⟩
section
variable {H:Type} {enc:TypeId×Value->H} {W:World}
theorem ZrG {x:DataW H×List MemPlace} (h:DataW.trod enc prog W 0 (fun _=>true) true fuel 149 cs=some x) :
 ∃ (x:Gr) (vv0:Value),cs=[.int .i64 x.nu,.string x.tw,.string x.gb,vv0,.string x.kd,.string x.tm,.string x.pf]/\Zau 0 W vv0 x.vb/\ZdD x:=by
 obtain⟨xs,n,_,_,hl,hlen,hfld⟩:=DataW.trod_struct underlying149 h;obtain⟨c0,c1,c2,c3,c4,c5,c6,rfl⟩:=Zs4 (hl.trans Tryz.cells149);simp only [Array.size,List.length_cons,List.length_nil] at hlen;have g0:DataW.trod enc prog W 0 (fun _=>true) true n 3 ((([c0,c1,c2,c3,c4,c5,c6]:List Value).drop 0).take (prog.cellsOf 3))=xs[0]?:=hfld 0 _ rfl;have g1:DataW.trod enc prog W 0 (fun _=>true) true n 9 ((([c0,c1,c2,c3,c4,c5,c6]:List Value).drop 1).take (prog.cellsOf 9))=xs[1]?:=hfld 1 _ rfl;have g2:DataW.trod enc prog W 0 (fun _=>true) true n 9 ((([c0,c1,c2,c3,c4,c5,c6]:List Value).drop 2).take (prog.cellsOf 9))=xs[2]?:=hfld 2 _ rfl;have g3:DataW.trod enc prog W 0 (fun _=>true) true n 62 ((([c0,c1,c2,c3,c4,c5,c6]:List Value).drop 3).take (prog.cellsOf 62))=xs[3]?:=hfld 3 _ rfl
 simp only [Tryz.cells3,Tryz.cells62,Tryz.cells9,List.drop_succ_cons,List.drop_zero,List.take_succ_cons,List.take_zero] at g0 g1 g2 g3;rw [List.getElem?_eq_getElem (by omega)] at g0 g1 g2 g3;obtain⟨q0,e0,_,_⟩:=DataW.trod_int underlying3 g0;obtain⟨q1,e1,_,s1⟩:=DataW.trod_string underlying9 g1;obtain⟨q2,e2,_,s2⟩:=DataW.trod_string underlying9 g2;obtain⟨q3,v3,e3,hq3,z3⟩:=ZqX g3;simp only [List.cons.injEq,and_true] at e0 e1 e2 e3;obtain⟨r0,r1,r2,r3⟩:=e3;subst e0 e1 e2 r0 r1 r2 r3;exact⟨⟨q0,q1,q2,q3.vb,q3.kd,q3.tm,q3.pf⟩,_,rfl,hq3,⟨s1,s2,z3.s1,z3.s2,z3.s3⟩⟩
theorem Zqz {x:DataW H×List MemPlace} (h:DataW.trod enc prog W 0 (fun _=>true) true fuel 28 [c]=some x):∃ Xl,Zb4 0 W c Xl:=by
 rcases open_slice underlying28 h with ⟨hcs,_⟩ | ⟨a,len,cap,m,n,D,Pl,hcs,_,hl,hm,hmm,_,hx⟩
 . simp only [List.cons.injEq,and_true] at hcs
   exact⟨[],Or.inl ⟨_,_,hcs,rfl⟩⟩
 . simp only [List.cons.injEq,and_true] at hcs
   simp only [if_true] at hmm;subst hmm;rw [Tryz.cells149] at hx
   by_cases h0:len=0
   . subst h0
     exact⟨[],Or.inl ⟨_,_,hcs,rfl⟩⟩
   . obtain⟨Xl,hF,hall⟩:=ZbO (p:=fun i (x:Gr)=>ZdD x/\∃ vv0,Zau 0 W vv0 x.vb/\W.cells? 0 (a.add (i*7)) 7=some [.int .i64 x.nu,.string x.tw,.string x.gb,vv0,.string x.kd,.string x.tm,.string x.pf]) len (fun i hi=>by
      obtain⟨cs',h1,h2⟩:=hx i (by omega);obtain⟨md,vv0,e,hw0,hz⟩:=ZrG h2;rw [e] at h1;exact⟨md,hz,vv0,hw0,h1⟩)
     obtain⟨b,off,spot⟩:=a
     have hspot:spot=none:=by
      obtain⟨_,vv0,_,h1⟩:=hall 0 (by omega);have:=(World.cells?_some h1).2.2 0 (by omega);rw [Nat.zero_mul] at this;have e0:((⟨b,off,spot⟩:Addr).add 0).add 0=⟨b,off,spot⟩:=by simp [Addr.add]
      rw [e0] at this
      simpa using World.cell?_spot (by simpa using this)
     subst hspot
     have hcell:∀ i (hi:i < Xl.length) vv0,W.cells? 0 ((⟨b,off,none⟩:Addr).add (i*7)) 7=some [.int .i64 Xl[i].nu,.string Xl[i].tw,.string Xl[i].gb,vv0,.string Xl[i].kd,.string Xl[i].tm,.string Xl[i].pf]->ZcX W b (off+i*7) Xl[i] vv0:=fun i hi vv0 h1=>by
      obtain⟨_,_,hc⟩:=World.cells?_some h1;rw [add_plain] at hc;have q:=fun j (hj:j < 7)=>(add_plain b (off+i*7) j) ▸ hc j hj
      exact⟨by simpa using q 0 (by omega),by simpa using q 1 (by omega),by simpa using q 2 (by omega),by simpa using q 3 (by omega),by simpa using q 4 (by omega),by simpa using q 5 (by omega),by simpa using q 6 (by omega)⟩
     have hbw:b < W.heap.size:=by
      obtain⟨_,vv0,_,h1⟩:=hall 0 (by omega);exact World.block_lt_of_cell? W _ (hcell 0 (by omega) vv0 h1).c0
     refine⟨Xl,Or.inr ⟨b,off,m,by rw [hcs,hF],?_,by omega,hbw,Nat.zero_le _,by omega,fun i hi=>?_⟩⟩
     . intro e;rw [e] at hF;simp at hF;omega
     . obtain⟨hz,vv0,hw0,h1⟩:=hall i hi
       exact⟨hz,vv0,hcell i hi vv0 h1,hw0⟩
end
theorem Tryz.cells151:prog.cellsOf 151=4:=by kernel_rfl
theorem Zs5 (h:l.length=4):∃ c0 c1 c2 c3,l=[c0,c1,c2,c3]:=by
 match l,h with
 | [c0,c1,c2,c3],_=>exact⟨c0,c1,c2,c3,rfl⟩
section
variable {H:Type} {enc:TypeId×Value->H} {W:World}
theorem Zrn {x:DataW H×List MemPlace} (h:DataW.trod enc prog W 0 (fun _=>true) true fuel 151 cs=some x) :
 ∃ (x:Le),cs=[.string x.tm,.string x.re,.int .i64 x.mo,.int .i64 x.fr]/\Zco x:=by
 obtain⟨xs,n,_,_,hl,hlen,hfld⟩:=DataW.trod_struct underlying151 h;obtain⟨c0,c1,c2,c3,rfl⟩:=Zs5 (hl.trans Tryz.cells151);simp only [Array.size,List.length_cons,List.length_nil] at hlen;have g0:DataW.trod enc prog W 0 (fun _=>true) true n 9 ((([c0,c1,c2,c3]:List Value).drop 0).take (prog.cellsOf 9))=xs[0]?:=hfld 0 _ rfl;have g1:DataW.trod enc prog W 0 (fun _=>true) true n 9 ((([c0,c1,c2,c3]:List Value).drop 1).take (prog.cellsOf 9))=xs[1]?:=hfld 1 _ rfl;have g2:DataW.trod enc prog W 0 (fun _=>true) true n 3 ((([c0,c1,c2,c3]:List Value).drop 2).take (prog.cellsOf 3))=xs[2]?:=hfld 2 _ rfl;have g3:DataW.trod enc prog W 0 (fun _=>true) true n 3 ((([c0,c1,c2,c3]:List Value).drop 3).take (prog.cellsOf 3))=xs[3]?:=hfld 3 _ rfl;simp only [Tryz.cells3,Tryz.cells9,List.drop_succ_cons,List.drop_zero,List.take_succ_cons,List.take_zero] at g0 g1 g2 g3
 rw [List.getElem?_eq_getElem (by omega)] at g0 g1 g2 g3;obtain⟨q0,e0,_,s0⟩:=DataW.trod_string underlying9 g0;obtain⟨q1,e1,_,s1⟩:=DataW.trod_string underlying9 g1;obtain⟨q2,e2,_,_⟩:=DataW.trod_int underlying3 g2;obtain⟨q3,e3,_,_⟩:=DataW.trod_int underlying3 g3;simp only [List.cons.injEq,and_true] at e0 e1 e2 e3;subst e0 e1 e2 e3;exact⟨⟨q0,q1,q2,q3⟩,rfl,⟨s0,s1⟩⟩
theorem ZqL {x:DataW H×List MemPlace} (h:DataW.trod enc prog W 0 (fun _=>true) true fuel 29 [c]=some x):∃ Xl,ZbG 0 W c Xl:=by
 rcases open_slice underlying29 h with ⟨hcs,_⟩ | ⟨a,len,cap,m,n,D,Pl,hcs,_,hl,hm,hmm,_,hx⟩
 . simp only [List.cons.injEq,and_true] at hcs
   exact⟨[],Or.inl ⟨_,_,hcs,rfl⟩⟩
 . simp only [List.cons.injEq,and_true] at hcs
   simp only [if_true] at hmm;subst hmm;rw [Tryz.cells151] at hx
   by_cases h0:len=0
   . subst h0
     exact⟨[],Or.inl ⟨_,_,hcs,rfl⟩⟩
   . obtain⟨Xl,hF,hall⟩:=ZbO (p:=fun i (x:Le)=>Zco x/\W.cells? 0 (a.add (i*4)) 4=some [.string x.tm,.string x.re,.int .i64 x.mo,.int .i64 x.fr]) len (fun i hi=>by
      obtain⟨cs',h1,h2⟩:=hx i (by omega);obtain⟨md,e,hz⟩:=Zrn h2;rw [e] at h1;exact⟨md,hz,h1⟩)
     obtain⟨b,off,spot⟩:=a
     have hspot:spot=none:=by
      obtain⟨_,h1⟩:=hall 0 (by omega);have:=(World.cells?_some h1).2.2 0 (by omega);rw [Nat.zero_mul] at this;have e0:((⟨b,off,spot⟩:Addr).add 0).add 0=⟨b,off,spot⟩:=by simp [Addr.add]
      rw [e0] at this
      simpa using World.cell?_spot (by simpa using this)
     subst hspot
     have hcell:∀ i (hi:i < Xl.length),W.cells? 0 ((⟨b,off,none⟩:Addr).add (i*4)) 4=some [.string Xl[i].tm,.string Xl[i].re,.int .i64 Xl[i].mo,.int .i64 Xl[i].fr]->ZcV W b (off+i*4) Xl[i]:=fun i hi h1=>by
      obtain⟨_,_,hc⟩:=World.cells?_some h1;rw [add_plain] at hc;have q:=fun j (hj:j < 4)=>(add_plain b (off+i*4) j) ▸ hc j hj
      exact⟨by simpa using q 0 (by omega),by simpa using q 1 (by omega),by simpa using q 2 (by omega),by simpa using q 3 (by omega)⟩
     have hbw:b < W.heap.size:=by
      obtain⟨_,h1⟩:=hall 0 (by omega);exact World.block_lt_of_cell? W _ (hcell 0 (by omega) h1).c0
     refine⟨Xl,Or.inr ⟨b,off,m,by rw [hcs,hF],?_,by omega,hbw,Nat.zero_le _,by omega,fun i hi=>?_⟩⟩
     . intro e;rw [e] at hF;simp at hF;omega
     . obtain⟨hz,h1⟩:=hall i hi
       exact⟨hz,hcell i hi h1⟩
end
theorem Tryz.cells153:prog.cellsOf 153=5:=by kernel_rfl
theorem Zs7 (h:l.length=5):∃ c0 c1 c2 c3 c4,l=[c0,c1,c2,c3,c4]:=by
 match l,h with
 | [c0,c1,c2,c3,c4],_=>exact⟨c0,c1,c2,c3,c4,rfl⟩
section
variable {H:Type} {enc:TypeId×Value->H} {W:World}
theorem ZrJ {x:DataW H×List MemPlace} (h:DataW.trod enc prog W 0 (fun _=>true) true fuel 153 cs=some x) :
 ∃ (x:Pu),cs=[.string x.dr,.string x.tm,.string x.re,.int .i64 x.am,.int .i64 x.un]/\Zds x:=by
 obtain⟨xs,n,_,_,hl,hlen,hfld⟩:=DataW.trod_struct underlying153 h;obtain⟨c0,c1,c2,c3,c4,rfl⟩:=Zs7 (hl.trans Tryz.cells153);simp only [Array.size,List.length_cons,List.length_nil] at hlen;have g0:DataW.trod enc prog W 0 (fun _=>true) true n 9 ((([c0,c1,c2,c3,c4]:List Value).drop 0).take (prog.cellsOf 9))=xs[0]?:=hfld 0 _ rfl;have g1:DataW.trod enc prog W 0 (fun _=>true) true n 9 ((([c0,c1,c2,c3,c4]:List Value).drop 1).take (prog.cellsOf 9))=xs[1]?:=hfld 1 _ rfl;have g2:DataW.trod enc prog W 0 (fun _=>true) true n 9 ((([c0,c1,c2,c3,c4]:List Value).drop 2).take (prog.cellsOf 9))=xs[2]?:=hfld 2 _ rfl;have g3:DataW.trod enc prog W 0 (fun _=>true) true n 3 ((([c0,c1,c2,c3,c4]:List Value).drop 3).take (prog.cellsOf 3))=xs[3]?:=hfld 3 _ rfl
 have g4:DataW.trod enc prog W 0 (fun _=>true) true n 3 ((([c0,c1,c2,c3,c4]:List Value).drop 4).take (prog.cellsOf 3))=xs[4]?:=hfld 4 _ rfl;simp only [Tryz.cells3,Tryz.cells9,List.drop_succ_cons,List.drop_zero,List.take_succ_cons,List.take_zero] at g0 g1 g2 g3 g4;rw [List.getElem?_eq_getElem (by omega)] at g0 g1 g2 g3 g4;obtain⟨q0,e0,_,s0⟩:=DataW.trod_string underlying9 g0;obtain⟨q1,e1,_,s1⟩:=DataW.trod_string underlying9 g1;obtain⟨q2,e2,_,s2⟩:=DataW.trod_string underlying9 g2;obtain⟨q3,e3,_,_⟩:=DataW.trod_int underlying3 g3;obtain⟨q4,e4,_,_⟩:=DataW.trod_int underlying3 g4;simp only [List.cons.injEq,and_true] at e0 e1 e2 e3 e4;subst e0 e1 e2 e3 e4;exact⟨⟨q0,q1,q2,q3,q4⟩,rfl,⟨s0,s1,s2⟩⟩
theorem ZqO {x:DataW H×List MemPlace} (h:DataW.trod enc prog W 0 (fun _=>true) true fuel 30 [c]=some x):∃ Xl,ZbW 0 W c Xl:=by
 rcases open_slice underlying30 h with ⟨hcs,_⟩ | ⟨a,len,cap,m,n,D,Pl,hcs,_,hl,hm,hmm,_,hx⟩
 . simp only [List.cons.injEq,and_true] at hcs
   exact⟨[],Or.inl ⟨_,_,hcs,rfl⟩⟩
 . simp only [List.cons.injEq,and_true] at hcs
   simp only [if_true] at hmm;subst hmm;rw [Tryz.cells153] at hx
   by_cases h0:len=0
   . subst h0
     exact⟨[],Or.inl ⟨_,_,hcs,rfl⟩⟩
   . obtain⟨Xl,hF,hall⟩:=ZbO (p:=fun i (x:Pu)=>Zds x/\W.cells? 0 (a.add (i*5)) 5=some [.string x.dr,.string x.tm,.string x.re,.int .i64 x.am,.int .i64 x.un]) len (fun i hi=>by
      obtain⟨cs',h1,h2⟩:=hx i (by omega);obtain⟨md,e,hz⟩:=ZrJ h2;rw [e] at h1;exact⟨md,hz,h1⟩)
     obtain⟨b,off,spot⟩:=a
     have hspot:spot=none:=by
      obtain⟨_,h1⟩:=hall 0 (by omega);have:=(World.cells?_some h1).2.2 0 (by omega);rw [Nat.zero_mul] at this;have e0:((⟨b,off,spot⟩:Addr).add 0).add 0=⟨b,off,spot⟩:=by simp [Addr.add]
      rw [e0] at this
      simpa using World.cell?_spot (by simpa using this)
     subst hspot
     have hcell:∀ i (hi:i < Xl.length),W.cells? 0 ((⟨b,off,none⟩:Addr).add (i*5)) 5=some [.string Xl[i].dr,.string Xl[i].tm,.string Xl[i].re,.int .i64 Xl[i].am,.int .i64 Xl[i].un]->ZcS W b (off+i*5) Xl[i]:=fun i hi h1=>by
      obtain⟨_,_,hc⟩:=World.cells?_some h1;rw [add_plain] at hc;have q:=fun j (hj:j < 5)=>(add_plain b (off+i*5) j) ▸ hc j hj
      exact⟨by simpa using q 0 (by omega),by simpa using q 1 (by omega),by simpa using q 2 (by omega),by simpa using q 3 (by omega),by simpa using q 4 (by omega)⟩
     have hbw:b < W.heap.size:=by
      obtain⟨_,h1⟩:=hall 0 (by omega);exact World.block_lt_of_cell? W _ (hcell 0 (by omega) h1).c0
     refine⟨Xl,Or.inr ⟨b,off,m,by rw [hcs,hF],?_,by omega,hbw,Nat.zero_le _,by omega,fun i hi=>?_⟩⟩
     . intro e;rw [e] at hF;simp at hF;omega
     . obtain⟨hz,h1⟩:=hall i hi
       exact⟨hz,hcell i hi h1⟩
end
theorem Tryz.cells32:prog.cellsOf 32=7:=by kernel_rfl
theorem Tryz.cells27:prog.cellsOf 27=1:=by kernel_rfl
theorem Tryz.cells28:prog.cellsOf 28=1:=by kernel_rfl
theorem Tryz.cells29:prog.cellsOf 29=1:=by kernel_rfl
theorem Tryz.cells30:prog.cellsOf 30=1:=by kernel_rfl
section
variable {H:Type} {enc:TypeId×Value->H} {W:World}
theorem Zpz {r:Reach}{d:DataW H}{p:List MemPlace} (hv:Value.okWide prog W r b0 32 v) (h:DataW.Trod enc prog W 0 (fun _=>true) true 32 v d p) :
 ∃ (ov gv lv pv:Value) (B:Bk),v=.agg #[.int .i64 B.now,.int .i64 B.tick,.int .i64 B.given,ov,gv,lv,pv]/\ZaY 0 W ov gv lv pv B:=by
 obtain⟨cs,rfl,hsz⟩:=okWide_struct underlying32 hv;obtain⟨c0,c1,c2,c3,c4,c5,c6,rfl⟩:=ZsI (hsz.trans Tryz.cells32);obtain⟨fuel,hf⟩:=h;obtain⟨xs,n,_,_,_,hlen,hfld⟩:=DataW.trod_struct underlying32 hf;simp only [Array.size,List.length_cons,List.length_nil] at hlen;have g0:DataW.trod enc prog W 0 (fun _=>true) true n 3 ((([c0,c1,c2,c3,c4,c5,c6]:List Value).drop 0).take (prog.cellsOf 3))=xs[0]?:=hfld 0 _ rfl;have g1:DataW.trod enc prog W 0 (fun _=>true) true n 3 ((([c0,c1,c2,c3,c4,c5,c6]:List Value).drop 1).take (prog.cellsOf 3))=xs[1]?:=hfld 1 _ rfl;have g2:DataW.trod enc prog W 0 (fun _=>true) true n 3 ((([c0,c1,c2,c3,c4,c5,c6]:List Value).drop 2).take (prog.cellsOf 3))=xs[2]?:=hfld 2 _ rfl;have g3:DataW.trod enc prog W 0 (fun _=>true) true n 27 ((([c0,c1,c2,c3,c4,c5,c6]:List Value).drop 3).take (prog.cellsOf 27))=xs[3]?:=hfld 3 _ rfl
 have g4:DataW.trod enc prog W 0 (fun _=>true) true n 28 ((([c0,c1,c2,c3,c4,c5,c6]:List Value).drop 4).take (prog.cellsOf 28))=xs[4]?:=hfld 4 _ rfl;have g5:DataW.trod enc prog W 0 (fun _=>true) true n 29 ((([c0,c1,c2,c3,c4,c5,c6]:List Value).drop 5).take (prog.cellsOf 29))=xs[5]?:=hfld 5 _ rfl;have g6:DataW.trod enc prog W 0 (fun _=>true) true n 30 ((([c0,c1,c2,c3,c4,c5,c6]:List Value).drop 6).take (prog.cellsOf 30))=xs[6]?:=hfld 6 _ rfl;simp only [Tryz.cells3,Tryz.cells27,Tryz.cells28,Tryz.cells29,Tryz.cells30,List.drop_succ_cons,List.drop_zero,List.take_succ_cons,List.take_zero] at g0 g1 g2 g3 g4 g5 g6;rw [List.getElem?_eq_getElem (by omega)] at g0 g1 g2 g3 g4 g5 g6;obtain⟨q0,e0,_,_⟩:=DataW.trod_int underlying3 g0;obtain⟨q1,e1,_,_⟩:=DataW.trod_int underlying3 g1;obtain⟨q2,e2,_,_⟩:=DataW.trod_int underlying3 g2
 simp only [List.cons.injEq,and_true] at e0 e1 e2;subst e0 e1 e2;obtain⟨Os,hO⟩:=ZqC g3;obtain⟨Gs,hG⟩:=Zqz g4;obtain⟨Ls,hL⟩:=ZqL g5;obtain⟨Ps,hP⟩:=ZqO g6;exact⟨c3,c4,c5,c6,⟨q0,q1,q2,Os,Gs,Ls,Ps⟩,rfl,hO,hG,hL,hP⟩
end
def Zkx (Ss:List Sh) (Ms:List Md) (Ts:List Tm):Bool:=Zay Ss Ms&&Zbr Ts
section
variable (lo:Nat) (sv mv tv:Value) (Ss:List Sh) (Ms:List Md) (Ts:List Tm) (w:World)
theorem Zji (h:ZbC lo w sv mv tv Ss Ms Ts) :
 Calls prog 78 #[.agg #[sv,mv,tv]] w fun e w'=>e=.returned (.bool (Zkx Ss Ms Ts))/\Zw_ w w':=by
 have HL:=Zab h;obtain⟨a,cap,rfl⟩:=h.shs.form;obtain⟨a1,cap1,rfl⟩:=h.mds.form;obtain⟨a2,cap2,rfl⟩:=h.tms.form;clear h;go_enter func78,ntmps78;go_wp2_with fail;generalize hWa:w.alloc _=Wa;have HBa:Hd (Zw_ w Wa):=by rw [<- hWa];exact Zac w _
 have FA:Hd (Box Wa w.heap.size #[.slice a Ss.length cap,.slice a1 Ms.length cap1,.slice a2 Ts.length cap2]):=by rw [<- hWa];exact Box.new _ _ _ _ rfl
 clear hWa;refine (Zi6 lo lo _ _ Ss Ms _ (HL.o.below HBa.o).shs (HL.o.below HBa.o).mds).mono ?_;rintro e w1 ⟨rfl,hb1⟩;have HB1:Hd (Zw_ w w1):=bt HBa.o hb1;replace FA:=Zab (FA.o.on hb1);have g2:=FA.o.cell 2;simp at g2;clear hb1 HBa
 cases hm:Zay Ss Ms with
 | false=>
  have HE:Hd (Zkx Ss Ms Ts=false):=by unfold Hd Zkx;rw [hm];rfl
  go_wp2;go_ret;exact⟨Zaa HE.o.symm,HB1.o⟩
 | true=>
  have HE:Hd (Zkx Ss Ms Ts=Zbr Ts):=by unfold Hd Zkx;rw [hm];rfl
  go_wp2_with fail;refine (Ziq lo _ Ts _ (HL.o.below HB1.o).tms).mono ?_;rintro e w2 ⟨rfl,hb2⟩;have HB2:Hd (Zw_ w w2):=bt HB1.o hb2;clear hb2;go_wp2;go_ret;exact⟨Zaa HE.o.symm,HB2.o⟩
theorem ZiJ (h:ZbC lo w sv mv tv Ss Ms Ts) :
 Calls prog 82 #[.agg #[sv,mv,tv]] w fun e w'=>e=.returned (.bool (Zkx Ss Ms Ts))/\Zw_ w w':=by
 have HL:=Zab h;obtain⟨a,cap,rfl⟩:=h.shs.form;obtain⟨a1,cap1,rfl⟩:=h.mds.form;obtain⟨a2,cap2,rfl⟩:=h.tms.form;clear h;go_enter func82,ntmps82;go_wp2_with fail;generalize hWa:w.alloc _=Wa;have HBa:Hd (Zw_ w Wa):=by rw [<- hWa];exact Zac w _
 have FA:Hd (Box Wa w.heap.size #[.slice a Ss.length cap,.slice a1 Ms.length cap1,.slice a2 Ts.length cap2]):=by rw [<- hWa];exact Box.new _ _ _ _ rfl
 clear hWa;refine (ZiE lo lo _ _ Ss Ms _ (HL.o.below HBa.o).shs (HL.o.below HBa.o).mds).mono ?_;rintro e w1 ⟨rfl,hb1⟩;have HB1:Hd (Zw_ w w1):=bt HBa.o hb1;replace FA:=Zab (FA.o.on hb1);have g2:=FA.o.cell 2;simp at g2;clear hb1 HBa
 cases hm:Zay Ss Ms with
 | false=>
  have HE:Hd (Zkx Ss Ms Ts=false):=by unfold Hd Zkx;rw [hm];rfl
  go_wp2;go_ret;exact⟨Zaa HE.o.symm,HB1.o⟩
 | true=>
  have HE:Hd (Zkx Ss Ms Ts=Zbr Ts):=by unfold Hd Zkx;rw [hm];rfl
  go_wp2_with fail;refine (ZiB lo _ Ts _ (HL.o.below HB1.o).tms).mono ?_;rintro e w2 ⟨rfl,hb2⟩;have HB2:Hd (Zw_ w w2):=bt HB1.o hb2;clear hb2;go_wp2;go_ret;exact⟨Zaa HE.o.symm,HB2.o⟩
end
end Go.Proofs.YtfohnageehneoaaGreat
