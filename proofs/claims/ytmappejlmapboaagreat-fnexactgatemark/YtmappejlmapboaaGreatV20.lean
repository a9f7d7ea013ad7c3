import Derived.Test.YtmappejlmapboaaGreatV19
set_option maxHeartbeats 16000000
set_option maxRecDepth 100000
open Go.Proofs.Tryz
namespace Go.Proofs.YtmappejlmapboaaGreat
open Go.RowKit Go.Deep Go.Shelf
attribute [local go_sem] Oper.semAt_some
section
variable (lo:Nat) (sv:Value) (Ss:List Sh) (kind nm team:Zy_) (vv hv:Value) (en:Bool) (ver:Int) (V Ho:List Zy_) (w:World)
def Zd3 (s:Zy_):Zy_:=if s.size<=maxLen then s else ⟨#[]⟩
theorem Zd5 {s:Zy_} (h:s.size<=maxLen):Zd3 s=s:=if_pos h
theorem Zd4 (s:Zy_):(Zd3 s).size<=maxLen:=by
 unfold Zd3
 split
 . assumption
 . exact Nat.zero_le _
abbrev Zr1 (x:Zy_×Int):Array Value:=#[.string (Zd3 x.1),.int .i64 x.2]
theorem Zht (n:Nat) (sk:kind.size<=maxLen) (hn:1<=n) (S:Nat->Prop) (w0:World) (B1 B2:Nat) (h0:Below w0.heap.size w0 w) (hS:ZaH lo w0 sv Ss) (hV:Zaf w0 vv V) (n1:V.length<=1048576)
 (s0:∀ k,k < w0.heap.size->¬ S k) (s2:¬ S B2) (s3:∀ k,w.heap.size<=k->¬ S k)
 (hX1:Box w B1 #[sv]) (hX2:Box w B2 #[.string kind,.string nm,.string team,vv,.bool en,hv,.int .i64 ver]) :
 SeqStopsK Fence.wide n prog 228 #[.pointer (some ⟨B1,0,none⟩),.pointer (some ⟨B2,0,none⟩)] Zr1 (ZaD S w.heap.size) (fun xs=>xs=Zeh Ss kind V) (fun _=>True) (V.length+1) w:=by
 intro l J Jx W hW hJ hJx hY hJ0;have HS:=Zab hS;have HV:=Zab hV;obtain⟨a,cap,rfl⟩:=hS.form;obtain⟨va,vcap,rfl⟩:=hV.form';have H0:=Zab (h0.trans (hW.mono h0.size));have x1:=(hX1.below hW hX1.lt).cell 0;have HO:=Zab (hX2.below hW hX2.lt);have hw:w.heap.size<=W.heap.size:=hW.size;have hw0:w0.heap.size<=w.heap.size:=h0.size;have HJ:=Zab hJ;have HY:=Zab hY;have S0:=Zab s0;have S2:=Zab s2;have S3:=Zab s3;simp at x1;clear hS hV h0 hW hX1 hX2 hJ hY s0 s2 s3 hJx;refine callsIn_of_wp func228 rfl trivial ?_ rfl;simp only [ntmps228,List.size_toArray,List.length_cons,List.length_nil,Nat.reduceAdd,Nat.reduceSub,Array.replicate_succ,Array.replicate_zero,List.push_toArray,List.append_toArray,List.nil_append,List.cons_append];have o0:=HO.o.cell 0;have o3:=HO.o.cell 3;simp at o0 o3
 gi_wp2_with fail
 refine⟨trivial,(callsIn_wide.2 (Zc8 lo _ Ss kind w0 W HS.o H0.o)).mono ?_⟩;rintro e w1 ⟨hb1,hq⟩;have HB1:=Zab hb1;have HJ1:=Zab (Zbm HJ.o hJ0 hb1);have HO1:=Zab (HO.o.on hb1);have H1:=Zab (H0.o.trans (hb1.mono H0.o.size));have o0:=HO1.o.cell 0;have o3:=HO1.o.cell 3;simp at o0 o3;have o0:∀ o,(w1.alloc o).cell? ⟨B2,0,none⟩=some (.string kind):=fun o=>(Zaj _ _ _ _ HO1.o.lt).trans o0
 have o3:∀ o,(w1.alloc o).cell? ⟨B2,3,none⟩=some (.slice va V.length vcap):=fun o=>(Zaj _ _ _ _ HO1.o.lt).trans o3
 clear hb1 hJ0 HO H0 x1
 rcases hq with ⟨x,fv,hsh,rfl,hF⟩ | ⟨hno,rfl⟩
 . have HF:=Zab hF
   have HSH:=Zab hsh;obtain⟨fa,fcap,rfl⟩:=hF.form;clear hF hsh
   by_cases hl:x.fields.length=V.length
   . have HL:=Zab hl
     have hne:((V.length:Int) != (x.fields.length:Int))=false:=by rw [hl];simp
     have HE:=Zab (ZjV HSH.o hl);clear hl;have HT:Hd (∀ o,J [] (w1.alloc o)):=fun o=>Zbm HJ.o HJ1.o (Zac _ _)
     cases hk:kind.toList.isEmpty with
     | true=>
      gi_wp2
      all_goals (refine⟨fun _ h=>(by cases h),?_⟩;gi_wp2)
      have HJT:Hd (J (Zdb kind ++ ZaS x.fields V 0) (w1.alloc (.cells #[.string x.kind,.slice fa x.fields.length fcap] 131))):=by unfold Hd Zdb;rw [hk];exact HT.o _
      have HBT:Hd (Below w0.heap.size w0 (w1.alloc (.cells #[.string x.kind,.slice fa x.fields.length fcap] 131))):=H1.o.trans ((Zac _ _).mono H1.o.size);have p3:=o3 (.cells #[.string x.kind,.slice fa x.fields.length fcap] 131);have plt:B2 < (w1.alloc (.cells #[.string x.kind,.slice fa x.fields.length fcap] 131)).heap.size:=by have:=HO1.o.lt;simp;omega
      have pw:w.heap.size<=(w1.alloc (.cells #[.string x.kind,.slice fa x.fields.length fcap] 131)).heap.size:=by have:=HB1.o.size;simp;omega
      gi_loopw [41] (fun i wr=>∃ k:Nat,i=.int .i64 k/\k<=x.fields.length/\J (Zdb kind ++ ZaS x.fields V k) wr/\Below w0.heap.size w0 wr/\wr.cell? ⟨B2,3,none⟩=some (.slice va V.length vcap)/\B2 < wr.heap.size/\w.heap.size<=wr.heap.size)
       (fun i _=>x.fields.length - (intOf i).toNat)
      case atStart=>exact⟨0,rfl,Nat.zero_le _,HJT.o,HBT.o,p3,plt,pw⟩
      case round=>
       obtain⟨k,rfl,hkl,hJk,hBk,q3,qlt,qw⟩:=hrel;have HJK:=Zab hJk;have HBK:=Zab hBk;clear hJk hBk
       by_cases hlt:k < x.fields.length
       . have hlv:k < V.length:=by have:=HL.o;omega
         obtain⟨fb,foff,rfl,hfb,hfc⟩:=HF.o.full' (by omega);obtain⟨hsz,wv,hcell,hst⟩:=hfc k hlt;obtain⟨c0,c1,c2,c3,c4,c5,c6,c7,c8,c9,c10⟩:=hcell.below HBK.o hfb;obtain⟨wa,wn,wcap,rfl⟩:=hst.form;obtain⟨vb,voff,rfl,hvb,hvc,hvs⟩:=HV.o.spread (by omega);have hvk:wr.cell? ⟨vb,voff+k,none⟩=some (.string V[k]):=(HBK.o.cell (p:=⟨vb,voff+k,none⟩) hvb).trans (hvc k hlv);have hvk:∀ o,(wr.alloc o).cell? ⟨vb,voff+k,none⟩=some (.string V[k]):=fun o=>(Zaj _ _ _ _ (Zk_ hvb HBK.o.size)).trans hvk
         have q3':∀ o,(wr.alloc o).cell? ⟨B2,3,none⟩=some (.slice (some ⟨vb,voff,none⟩) V.length vcap):=fun o=>(Zaj _ _ _ _ qlt).trans q3
         have hvz:V[k].size<=maxLen:=hvs _ (List.getElem_mem hlv);have HST:=Zab (Zha hlt hlv);have HA:∀ o,Hd (J (Zdb kind ++ ZaS x.fields V k) (wr.alloc o)):=fun o=>Zbm HJ.o HJK.o (Zac _ _)
         have HAB:∀ o,Hd (Below w0.heap.size w0 (wr.alloc o)):=fun o=>HBK.o.trans ((Zac _ _).mono HBK.o.size)
         have hwe:=hsz.s10;clear hfc hcell hst hvc hvs hsz
         cases hk1:(x.fields[k].kd == 1) with
         | false=>
          have hk1':(x.fields[k].kd != 1)=true:=by simp [bne,hk1]
          have HE2:Hd (ZaS x.fields V (k+1)=ZaS x.fields V k):=by unfold Hd;rw [HST.o,hk1];simp
          gi_wp2
          go_roundw
          . exact⟨k+1,by go_num,by omega,by rw [HE2.o];exact (HA _).o,(HAB _).o,q3' _,by simp;omega,by simp;omega⟩
          . simp [intOf];omega
         | true=>
          have hk1':(x.fields[k].kd != 1)=false:=by simp [bne,hk1]
          cases hk2:x.fields[k].we.toList.isEmpty with
          | true=>
           have HE2:Hd (ZaS x.fields V (k+1)=ZaS x.fields V k):=by unfold Hd;rw [HST.o,hk1,hk2];simp
           gi_wp2
           go_roundw
           . exact⟨k+1,by go_num,by omega,by rw [HE2.o];exact (HA _).o,(HAB _).o,q3' _,by simp;omega,by simp;omega⟩
           . simp [intOf];omega
          | false=>
           have HE2:Hd (ZaS x.fields V (k+1)=ZaS x.fields V k ++ [(x.fields[k].we,Zid V[k])]):=by unfold Hd;rw [HST.o,hk1,hk2];simp
           have hpl:(Zdb kind ++ ZaS x.fields V k).length < V.length+1:=by
            have:=ZfR x.fields V k;have:(Zdb kind).length<=1:=by unfold Zdb;split <;> simp
            rw [List.length_append];omega
           have HP:=Zab hpl;clear hpl;obtain⟨fn,tmps,assign,body,hy,hR⟩:=HY.o _ (x.fields[k].we,Zid V[k]) _ (HA (.cells #[.string x.fields[k].nm,.int .i64 x.fields[k].kd,.int .i64 x.fields[k].le,.int .i64 x.fields[k].mo,.slice wa wn wcap,.string x.fields[k].to,.int .i64 x.fields[k].ro,.bool x.fields[k].mu,.bool x.fields[k].fx,.string x.fields[k].df,.string x.fields[k].we] 178)).o HP.o;dsimp only [Zr1] at hy;rw [Zd5 hwe] at hy;have HR:=Zab hR;clear hR
           gi_wp2_with (refine⟨trivial,?_⟩;gi_at_call 229;refine (callsIn_wide.2 (ZcR _ _ hvz)).mono ?_;rintro e w3 ⟨rfl,rfl⟩)
           refine HR.o.mono ?_;rintro e W3 (⟨rfl,hJ3,hk3⟩ | ⟨rfl,hJx3⟩)
           . have HJ3:=Zab hJ3
             have r3:=hk3.cell (q3' (.cells #[.string x.fields[k].nm,.int .i64 x.fields[k].kd,.int .i64 x.fields[k].le,.int .i64 x.fields[k].mo,.slice wa wn wcap,.string x.fields[k].to,.int .i64 x.fields[k].ro,.bool x.fields[k].mu,.bool x.fields[k].fx,.string x.fields[k].df,.string x.fields[k].we] 178)) S2.o;have rB:Hd (Below w0.heap.size w0 W3):=(HAB (.cells #[.string x.fields[k].nm,.int .i64 x.fields[k].kd,.int .i64 x.fields[k].le,.int .i64 x.fields[k].mo,.slice wa wn wcap,.string x.fields[k].to,.int .i64 x.fields[k].ro,.bool x.fields[k].mu,.bool x.fields[k].fx,.string x.fields[k].df,.string x.fields[k].we] 178)).o.trans (hk3.below (HAB _).o.size S0.o hw0);have rz:=hk3.size;simp at rz;clear hk3 hJ3 hy
             gi_wp2
             go_roundw
             . exact⟨k+1,by go_num,by omega,by rw [HE2.o,<- List.append_assoc];exact HJ3.o,rB.o,r3,by omega,by omega⟩
             . simp [intOf];omega
           . have HX3:=Zab hJx3
             clear hJx3 hy
             gi_wp2
             refine bodyPost_ret (results_none rfl _ _ _) rfl ?_;exact⟨⟨_,rfl⟩,.inr ⟨_,trivial,HX3.o⟩⟩
       . have he:k=V.length:=by have:=HL.o;omega
         subst he
         gi_wp2
         go_end0
         exact⟨⟨_,rfl⟩,.inl ⟨_,HE.o.symm,HJK.o⟩⟩
     | false=>
      have hlen:([]:List (Zy_×Int)).length < V.length+1:=by simp
      obtain⟨fn,tmps,assign,body,hy,hR⟩:=HY.o _ (kind,1) _ (HT.o (.cells #[.string x.kind,.slice fa x.fields.length fcap] 131)) hlen;dsimp only [Zr1] at hy;rw [Zd5 sk] at hy;have HR:=Zab hR;clear hR hlen
      gi_wp2
      refine HR.o.mono ?_;rintro e W3 (⟨rfl,hJ3,hk3⟩ | ⟨rfl,hJx3⟩)
      . have HJT:Hd (J (Zdb kind ++ ZaS x.fields V 0) W3):=by unfold Hd Zdb;rw [hk];exact hJ3
        have HBT0:Below w0.heap.size w0 (w1.alloc (.cells #[.string x.kind,.slice fa x.fields.length fcap] 131)):=H1.o.trans ((Zac _ _).mono H1.o.size);have HBT:Hd (Below w0.heap.size w0 W3):=HBT0.trans (hk3.below HBT0.size S0.o hw0);have hw1:w.heap.size<=w1.heap.size:=Nat.le_trans hw HB1.o.size;have p3:=hk3.cell (o3 (.cells #[.string x.kind,.slice fa x.fields.length fcap] 131)) S2.o;have p4:W3.cell? ⟨w1.heap.size,1,none⟩=some (.slice fa x.fields.length fcap):=hk3.cell (Zbb _ _ _ _ 1 rfl) (S3.o _ hw1);have rz:=hk3.size;simp at rz;have plt:B2 < W3.heap.size:=by have:=HO1.o.lt;omega
        have pw:w.heap.size<=W3.heap.size:=by omega
        clear hk3 hJ3 hy HBT0
        gi_wp2
        gi_loopw [41] (fun i wr=>∃ k:Nat,i=.int .i64 k/\k<=x.fields.length/\J (Zdb kind ++ ZaS x.fields V k) wr/\Below w0.heap.size w0 wr/\wr.cell? ⟨B2,3,none⟩=some (.slice va V.length vcap)/\B2 < wr.heap.size/\w.heap.size<=wr.heap.size)
         (fun i _=>x.fields.length - (intOf i).toNat)
        case atStart=>exact⟨0,rfl,Nat.zero_le _,HJT.o,HBT.o,p3,plt,pw⟩
        case round=>
         obtain⟨k,rfl,hkl,hJk,hBk,q3,qlt,qw⟩:=hrel;have HJK:=Zab hJk;have HBK:=Zab hBk;clear hJk hBk
         by_cases hlt:k < x.fields.length
         . have hlv:k < V.length:=by have:=HL.o;omega
           obtain⟨fb,foff,rfl,hfb,hfc⟩:=HF.o.full' (by omega);obtain⟨hsz,wv,hcell,hst⟩:=hfc k hlt;obtain⟨c0,c1,c2,c3,c4,c5,c6,c7,c8,c9,c10⟩:=hcell.below HBK.o hfb;obtain⟨wa,wn,wcap,rfl⟩:=hst.form;obtain⟨vb,voff,rfl,hvb,hvc,hvs⟩:=HV.o.spread (by omega);have hvk:wr.cell? ⟨vb,voff+k,none⟩=some (.string V[k]):=(HBK.o.cell (p:=⟨vb,voff+k,none⟩) hvb).trans (hvc k hlv);have hvk:∀ o,(wr.alloc o).cell? ⟨vb,voff+k,none⟩=some (.string V[k]):=fun o=>(Zaj _ _ _ _ (Zk_ hvb HBK.o.size)).trans hvk
           have q3':∀ o,(wr.alloc o).cell? ⟨B2,3,none⟩=some (.slice (some ⟨vb,voff,none⟩) V.length vcap):=fun o=>(Zaj _ _ _ _ qlt).trans q3
           have hvz:V[k].size<=maxLen:=hvs _ (List.getElem_mem hlv);have HST:=Zab (Zha hlt hlv);have HA:∀ o,Hd (J (Zdb kind ++ ZaS x.fields V k) (wr.alloc o)):=fun o=>Zbm HJ.o HJK.o (Zac _ _)
           have HAB:∀ o,Hd (Below w0.heap.size w0 (wr.alloc o)):=fun o=>HBK.o.trans ((Zac _ _).mono HBK.o.size)
           have hwe:=hsz.s10;clear hfc hcell hst hvc hvs hsz
           cases hk1:(x.fields[k].kd == 1) with
           | false=>
            have hk1':(x.fields[k].kd != 1)=true:=by simp [bne,hk1]
            have HE2:Hd (ZaS x.fields V (k+1)=ZaS x.fields V k):=by unfold Hd;rw [HST.o,hk1];simp
            gi_wp2
            go_roundw
            . exact⟨k+1,by go_num,by omega,by rw [HE2.o];exact (HA _).o,(HAB _).o,q3' _,by simp;omega,by simp;omega⟩
            . simp [intOf];omega
           | true=>
            have hk1':(x.fields[k].kd != 1)=false:=by simp [bne,hk1]
            cases hk2:x.fields[k].we.toList.isEmpty with
            | true=>
             have HE2:Hd (ZaS x.fields V (k+1)=ZaS x.fields V k):=by unfold Hd;rw [HST.o,hk1,hk2];simp
             gi_wp2
             go_roundw
             . exact⟨k+1,by go_num,by omega,by rw [HE2.o];exact (HA _).o,(HAB _).o,q3' _,by simp;omega,by simp;omega⟩
             . simp [intOf];omega
            | false=>
             have HE2:Hd (ZaS x.fields V (k+1)=ZaS x.fields V k ++ [(x.fields[k].we,Zid V[k])]):=by unfold Hd;rw [HST.o,hk1,hk2];simp
             have hpl:(Zdb kind ++ ZaS x.fields V k).length < V.length+1:=by
              have:=ZfR x.fields V k;have:(Zdb kind).length<=1:=by unfold Zdb;split <;> simp
              rw [List.length_append];omega
             have HP:=Zab hpl;clear hpl;obtain⟨fn,tmps,assign,body,hy,hR⟩:=HY.o _ (x.fields[k].we,Zid V[k]) _ (HA (.cells #[.string x.fields[k].nm,.int .i64 x.fields[k].kd,.int .i64 x.fields[k].le,.int .i64 x.fields[k].mo,.slice wa wn wcap,.string x.fields[k].to,.int .i64 x.fields[k].ro,.bool x.fields[k].mu,.bool x.fields[k].fx,.string x.fields[k].df,.string x.fields[k].we] 178)).o HP.o;dsimp only [Zr1] at hy;rw [Zd5 hwe] at hy;have HR:=Zab hR;clear hR
             gi_wp2_with (refine⟨trivial,?_⟩;gi_at_call 229;refine (callsIn_wide.2 (ZcR _ _ hvz)).mono ?_;rintro e w3 ⟨rfl,rfl⟩)
             refine HR.o.mono ?_;rintro e W3 (⟨rfl,hJ3,hk3⟩ | ⟨rfl,hJx3⟩)
             . have HJ3:=Zab hJ3
               have r3:=hk3.cell (q3' (.cells #[.string x.fields[k].nm,.int .i64 x.fields[k].kd,.int .i64 x.fields[k].le,.int .i64 x.fields[k].mo,.slice wa wn wcap,.string x.fields[k].to,.int .i64 x.fields[k].ro,.bool x.fields[k].mu,.bool x.fields[k].fx,.string x.fields[k].df,.string x.fields[k].we] 178)) S2.o;have rB:Hd (Below w0.heap.size w0 W3):=(HAB (.cells #[.string x.fields[k].nm,.int .i64 x.fields[k].kd,.int .i64 x.fields[k].le,.int .i64 x.fields[k].mo,.slice wa wn wcap,.string x.fields[k].to,.int .i64 x.fields[k].ro,.bool x.fields[k].mu,.bool x.fields[k].fx,.string x.fields[k].df,.string x.fields[k].we] 178)).o.trans (hk3.below (HAB _).o.size S0.o hw0);have rz:=hk3.size;simp at rz;clear hk3 hJ3 hy
               gi_wp2
               go_roundw
               . exact⟨k+1,by go_num,by omega,by rw [HE2.o,<- List.append_assoc];exact HJ3.o,rB.o,r3,by omega,by omega⟩
               . simp [intOf];omega
             . have HX3:=Zab hJx3
               clear hJx3 hy
               gi_wp2
               refine bodyPost_ret (results_none rfl _ _ _) rfl ?_;exact⟨⟨_,rfl⟩,.inr ⟨_,trivial,HX3.o⟩⟩
         . have he:k=V.length:=by have:=HL.o;omega
           subst he
           gi_wp2
           go_end0
           exact⟨⟨_,rfl⟩,.inl ⟨_,HE.o.symm,HJK.o⟩⟩
      . have HX3:=Zab hJx3
        clear hJx3 hy
        gi_wp2
        refine bodyPost_ret (results_none rfl _ _ _) rfl ?_;exact⟨⟨_,rfl⟩,.inr ⟨_,trivial,HX3.o⟩⟩
   . have hne:((V.length:Int) != (x.fields.length:Int))=true:=by simp;omega
     have HE:Hd (Zeh Ss kind V=[]):=ZiT fun y hy=>by rw [HSH.o] at hy;cases hy;exact hl
     have HJ2:∀ o,Hd (J [] (w1.alloc o)):=fun o=>Zbm (HJ.o) HJ1.o (Zac _ _)
     gi_wp2
     refine bodyPost_ret (results_none rfl _ _ _) rfl ?_;exact⟨⟨_,rfl⟩,.inl ⟨[],HE.o.symm,(HJ2 _).o⟩⟩
 . have HE:Hd (Zeh Ss kind V=[]):=ZiT fun y hy=>by rw [hno] at hy;cases hy
   have HJ2:∀ o,Hd (J [] (w1.alloc o)):=fun o=>Zbm (HJ.o) HJ1.o (Zac _ _)
   gi_wp2
   refine bodyPost_ret (results_none rfl _ _ _) rfl ?_;exact⟨⟨_,rfl⟩,.inl ⟨[],HE.o.symm,(HJ2 _).o⟩⟩
end
end Go.Proofs.YtmappejlmapboaaGreat
