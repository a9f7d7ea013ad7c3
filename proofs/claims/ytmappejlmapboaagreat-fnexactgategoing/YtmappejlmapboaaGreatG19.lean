import Derived.Test.YtmappejlmapboaaGreatG18
set_option maxHeartbeats 16000000
set_option maxRecDepth 100000
open Go.Proofs.Tryz
namespace Go.Proofs.YtmappejlmapboaaGreat
section
open Go.RowKit Go.Deep Go.Shelf
attribute [local go_sem] Oper.semAt_some
section
variable (lo:Nat) (sv:Value) (Ss:List Sh) (kind nm team:Zy_) (vv hv:Value) (en:Bool) (ver:Int) (V Ho:List Zy_) (w:World)
def Zey (s:Zy_):Zy_:=if s.size<=maxLen then s else ⟨#[]⟩
theorem Zez {s:Zy_} (h:s.size<=maxLen):Zey s=s:=if_pos h
theorem Zdw (s:Zy_):(Zey s).size<=maxLen:=by
 unfold Zey
 split
 . assumption
 . exact Nat.zero_le _
abbrev Ztp (x:Zy_×Int):Array Value:=#[.string (Zey x.1),.int .i64 x.2]
theorem Zib (n:Nat) (sk:kind.size<=maxLen) (hn:1<=n) (S:Nat->Prop) (w0:World) (B1 B2:Nat) (h0:Below w0.heap.size w0 w) (hS:ZaI lo w0 sv Ss) (hV:Zaf w0 vv V) (n1:V.length<=1048576)
 (s0:∀ k,k < w0.heap.size->¬ S k) (s2:¬ S B2) (s3:∀ k,w.heap.size<=k->¬ S k)
 (hX1:Box w B1 #[sv]) (hX2:Box w B2 #[.string kind,.string nm,.string team,vv,.bool en,hv,.int .i64 ver]) :
 SeqStopsK Fence.wide n prog 228 #[.pointer (some ⟨B1,0,none⟩),.pointer (some ⟨B2,0,none⟩)] Ztp (ZaF S w.heap.size) (fun xs=>xs=ZeM Ss kind V) (fun _=>True) (V.length+1) w:=by
 intro l J Jx W hW hJ hJx hY hJ0;have HS:=Zab hS;have HV:=Zab hV;obtain⟨a,cap,rfl⟩:=hS.form;obtain⟨va,vcap,rfl⟩:=hV.form';have H0:=Zab (h0.trans (hW.mono h0.size));have x1:=(hX1.below hW hX1.lt).cell 0;have HO:=Zab (hX2.below hW hX2.lt);have hw:w.heap.size<=W.heap.size:=hW.size;have hw0:w0.heap.size<=w.heap.size:=h0.size;have HJ:=Zab hJ;have HY:=Zab hY;have S0:=Zab s0;have S2:=Zab s2;have S3:=Zab s3;simp at x1;clear hS hV h0 hW hX1 hX2 hJ hY s0 s2 s3 hJx;refine callsIn_of_wp func228 rfl trivial ?_ rfl;simp only [ntmps228,List.size_toArray,List.length_cons,List.length_nil,Nat.reduceAdd,Nat.reduceSub,Array.replicate_succ,Array.replicate_zero,List.push_toArray,List.append_toArray,List.nil_append,List.cons_append];have o0:=HO.o.cell 0;have o3:=HO.o.cell 3;simp at o0 o3
 gi_wp2_with fail
 refine⟨trivial,(callsIn_wide.2 (Zds lo _ Ss kind w0 W HS.o H0.o)).mono ?_⟩;rintro e w1 ⟨hb1,hq⟩;have HB1:=Zab hb1;have HJ1:=Zab (Zbt HJ.o hJ0 hb1);have HO1:=Zab (HO.o.on hb1);have H1:=Zab (H0.o.trans (hb1.mono H0.o.size));have o0:=HO1.o.cell 0;have o3:=HO1.o.cell 3;simp at o0 o3;have o0:∀ o,(w1.alloc o).cell? ⟨B2,0,none⟩=some (.string kind):=fun o=>(Zaj _ _ _ _ HO1.o.lt).trans o0
 have o3:∀ o,(w1.alloc o).cell? ⟨B2,3,none⟩=some (.slice va V.length vcap):=fun o=>(Zaj _ _ _ _ HO1.o.lt).trans o3
 clear hb1 hJ0 HO H0 x1
 rcases hq with ⟨x,fv,hsh,rfl,hF⟩ | ⟨hno,rfl⟩
 . have HF:=Zab hF
   have HSH:=Zab hsh;obtain⟨fa,fcap,rfl⟩:=hF.form;clear hF hsh
   by_cases hl:x.fields.length=V.length
   . have HL:=Zab hl
     have hne:((V.length:Int) != (x.fields.length:Int))=false:=by rw [hl];simp
     have HE:=Zab (ZkZ HSH.o hl);clear hl;have HT:Hd (∀ o,J [] (w1.alloc o)):=fun o=>Zbt HJ.o HJ1.o (Zac _ _)
     cases hk:kind.toList.isEmpty with
     | true=>
      gi_wp2
      all_goals (refine⟨fun _ h=>(by cases h),?_⟩;gi_wp2)
      have HJT:Hd (J (Zdy kind ++ ZaV x.fields V 0) (w1.alloc (.cells #[.string x.kind,.slice fa x.fields.length fcap] 131))):=by unfold Hd Zdy;rw [hk];exact HT.o _
      have HBT:Hd (Below w0.heap.size w0 (w1.alloc (.cells #[.string x.kind,.slice fa x.fields.length fcap] 131))):=H1.o.trans ((Zac _ _).mono H1.o.size);have p3:=o3 (.cells #[.string x.kind,.slice fa x.fields.length fcap] 131);have plt:B2 < (w1.alloc (.cells #[.string x.kind,.slice fa x.fields.length fcap] 131)).heap.size:=by have:=HO1.o.lt;simp;omega
      have pw:w.heap.size<=(w1.alloc (.cells #[.string x.kind,.slice fa x.fields.length fcap] 131)).heap.size:=by have:=HB1.o.size;simp;omega
      gi_loopw [41] (fun i wr=>∃ k:Nat,i=.int .i64 k/\k<=x.fields.length/\J (Zdy kind ++ ZaV x.fields V k) wr/\Below w0.heap.size w0 wr/\wr.cell? ⟨B2,3,none⟩=some (.slice va V.length vcap)/\B2 < wr.heap.size/\w.heap.size<=wr.heap.size)
       (fun i _=>x.fields.length - (intOf i).toNat)
      case atStart=>exact⟨0,rfl,Nat.zero_le _,HJT.o,HBT.o,p3,plt,pw⟩
      case round=>
       obtain⟨k,rfl,hkl,hJk,hBk,q3,qlt,qw⟩:=hrel;have HJK:=Zab hJk;have HBK:=Zab hBk;clear hJk hBk
       by_cases hlt:k < x.fields.length
       . have hlv:k < V.length:=by have:=HL.o;omega
         obtain⟨fb,foff,rfl,hfb,hfc⟩:=HF.o.full' (by omega);obtain⟨hsz,wv,hcell,hst⟩:=hfc k hlt;obtain⟨c0,c1,c2,c3,c4,c5,c6,c7,c8,c9,c10⟩:=hcell.below HBK.o hfb;obtain⟨wa,wn,wcap,rfl⟩:=hst.form;obtain⟨vb,voff,rfl,hvb,hvc,hvs⟩:=HV.o.spread (by omega);have hvk:wr.cell? ⟨vb,voff+k,none⟩=some (.string V[k]):=(HBK.o.cell (p:=⟨vb,voff+k,none⟩) hvb).trans (hvc k hlv);have hvk:∀ o,(wr.alloc o).cell? ⟨vb,voff+k,none⟩=some (.string V[k]):=fun o=>(Zaj _ _ _ _ (Zk_ hvb HBK.o.size)).trans hvk
         have q3':∀ o,(wr.alloc o).cell? ⟨B2,3,none⟩=some (.slice (some ⟨vb,voff,none⟩) V.length vcap):=fun o=>(Zaj _ _ _ _ qlt).trans q3
         have hvz:V[k].size<=maxLen:=hvs _ (List.getElem_mem hlv);have HST:=Zab (ZhP hlt hlv);have HA:∀ o,Hd (J (Zdy kind ++ ZaV x.fields V k) (wr.alloc o)):=fun o=>Zbt HJ.o HJK.o (Zac _ _)
         have HAB:∀ o,Hd (Below w0.heap.size w0 (wr.alloc o)):=fun o=>HBK.o.trans ((Zac _ _).mono HBK.o.size)
         have hwe:=hsz.s10;clear hfc hcell hst hvc hvs hsz
         cases hk1:(x.fields[k].kd == 1) with
         | false=>
          have hk1':(x.fields[k].kd != 1)=true:=by simp [bne,hk1]
          have HE2:Hd (ZaV x.fields V (k+1)=ZaV x.fields V k):=by unfold Hd;rw [HST.o,hk1];simp
          gi_wp2
          go_roundw
          . exact⟨k+1,by go_num,by omega,by rw [HE2.o];exact (HA _).o,(HAB _).o,q3' _,by simp;omega,by simp;omega⟩
          . simp [intOf];omega
         | true=>
          have hk1':(x.fields[k].kd != 1)=false:=by simp [bne,hk1]
          cases hk2:x.fields[k].we.toList.isEmpty with
          | true=>
           have HE2:Hd (ZaV x.fields V (k+1)=ZaV x.fields V k):=by unfold Hd;rw [HST.o,hk1,hk2];simp
           gi_wp2
           go_roundw
           . exact⟨k+1,by go_num,by omega,by rw [HE2.o];exact (HA _).o,(HAB _).o,q3' _,by simp;omega,by simp;omega⟩
           . simp [intOf];omega
          | false=>
           have HE2:Hd (ZaV x.fields V (k+1)=ZaV x.fields V k ++ [(x.fields[k].we,Zi5 V[k])]):=by unfold Hd;rw [HST.o,hk1,hk2];simp
           have hpl:(Zdy kind ++ ZaV x.fields V k).length < V.length+1:=by
            have:=Zgq x.fields V k;have:(Zdy kind).length<=1:=by unfold Zdy;split <;> simp
            rw [List.length_append];omega
           have HP:=Zab hpl;clear hpl;obtain⟨fn,tmps,assign,body,hy,hR⟩:=HY.o _ (x.fields[k].we,Zi5 V[k]) _ (HA (.cells #[.string x.fields[k].nm,.int .i64 x.fields[k].kd,.int .i64 x.fields[k].le,.int .i64 x.fields[k].mo,.slice wa wn wcap,.string x.fields[k].to,.int .i64 x.fields[k].ro,.bool x.fields[k].mu,.bool x.fields[k].fx,.string x.fields[k].df,.string x.fields[k].we] 178)).o HP.o;dsimp only [Ztp] at hy;rw [Zez hwe] at hy;have HR:=Zab hR;clear hR
           gi_wp2_with (refine⟨trivial,?_⟩;gi_at_call 229;refine (callsIn_wide.2 (Zda _ _ hvz)).mono ?_;rintro e w3 ⟨rfl,rfl⟩)
           refine HR.o.mono ?_;rintro e W3 (⟨rfl,hJ3,hk3⟩ | ⟨rfl,hJx3⟩)
           . have HJ3:=Zab hJ3
             have r3:=hk3.cell (q3' (.cells #[.string x.fields[k].nm,.int .i64 x.fields[k].kd,.int .i64 x.fields[k].le,.int .i64 x.fields[k].mo,.slice wa wn wcap,.string x.fields[k].to,.int .i64 x.fields[k].ro,.bool x.fields[k].mu,.bool x.fields[k].fx,.string x.fields[k].df,.string x.fields[k].we] 178)) S2.o;have rB:Hd (Below w0.heap.size w0 W3):=(HAB (.cells #[.string x.fields[k].nm,.int .i64 x.fields[k].kd,.int .i64 x.fields[k].le,.int .i64 x.fields[k].mo,.slice wa wn wcap,.string x.fields[k].to,.int .i64 x.fields[k].ro,.bool x.fields[k].mu,.bool x.fields[k].fx,.string x.fields[k].df,.string x.fields[k].we] 178)).o.trans (hk3.below (HAB _).o.size S0.o hw0);have rz:=hk3.size;simp at rz;clear hk3 hJ3 hy
             gi_wp2
             go_roundw
             . exact⟨k+1,by go_num,by omega,by rw [HE2.o,<- List.append_assoc];exact HJ3.o,rB.o,r3,by omega,by omega⟩
             . simp [intOf];omega
           . have HX3:=Zab hJx3
             clear hJx3 hy
             gi_wp2
             refine bodyPost_ret (results_none rfl _ _ _) rfl ?_;exact⟨⟨_,rfl⟩,.inr ⟨_,trivial,HX3.o⟩⟩
       . have he:k=V.length:=by have:=HL.o;omega
         subst he
         gi_wp2
         go_end0
         exact⟨⟨_,rfl⟩,.inl ⟨_,HE.o.symm,HJK.o⟩⟩
     | false=>
      have hlen:([]:List (Zy_×Int)).length < V.length+1:=by simp
      obtain⟨fn,tmps,assign,body,hy,hR⟩:=HY.o _ (kind,1) _ (HT.o (.cells #[.string x.kind,.slice fa x.fields.length fcap] 131)) hlen;dsimp only [Ztp] at hy;rw [Zez sk] at hy;have HR:=Zab hR;clear hR hlen
      gi_wp2
      refine HR.o.mono ?_;rintro e W3 (⟨rfl,hJ3,hk3⟩ | ⟨rfl,hJx3⟩)
      . have HJT:Hd (J (Zdy kind ++ ZaV x.fields V 0) W3):=by unfold Hd Zdy;rw [hk];exact hJ3
        have HBT0:Below w0.heap.size w0 (w1.alloc (.cells #[.string x.kind,.slice fa x.fields.length fcap] 131)):=H1.o.trans ((Zac _ _).mono H1.o.size);have HBT:Hd (Below w0.heap.size w0 W3):=HBT0.trans (hk3.below HBT0.size S0.o hw0);have hw1:w.heap.size<=w1.heap.size:=Nat.le_trans hw HB1.o.size;have p3:=hk3.cell (o3 (.cells #[.string x.kind,.slice fa x.fields.length fcap] 131)) S2.o;have p4:W3.cell? ⟨w1.heap.size,1,none⟩=some (.slice fa x.fields.length fcap):=hk3.cell (ZaR _ _ _ _ 1 rfl) (S3.o _ hw1);have rz:=hk3.size;simp at rz;have plt:B2 < W3.heap.size:=by have:=HO1.o.lt;omega
        have pw:w.heap.size<=W3.heap.size:=by omega
        clear hk3 hJ3 hy HBT0
        gi_wp2
        gi_loopw [41] (fun i wr=>∃ k:Nat,i=.int .i64 k/\k<=x.fields.length/\J (Zdy kind ++ ZaV x.fields V k) wr/\Below w0.heap.size w0 wr/\wr.cell? ⟨B2,3,none⟩=some (.slice va V.length vcap)/\B2 < wr.heap.size/\w.heap.size<=wr.heap.size)
         (fun i _=>x.fields.length - (intOf i).toNat)
        case atStart=>exact⟨0,rfl,Nat.zero_le _,HJT.o,HBT.o,p3,plt,pw⟩
        case round=>
         obtain⟨k,rfl,hkl,hJk,hBk,q3,qlt,qw⟩:=hrel;have HJK:=Zab hJk;have HBK:=Zab hBk;clear hJk hBk
         by_cases hlt:k < x.fields.length
         . have hlv:k < V.length:=by have:=HL.o;omega
           obtain⟨fb,foff,rfl,hfb,hfc⟩:=HF.o.full' (by omega);obtain⟨hsz,wv,hcell,hst⟩:=hfc k hlt;obtain⟨c0,c1,c2,c3,c4,c5,c6,c7,c8,c9,c10⟩:=hcell.below HBK.o hfb;obtain⟨wa,wn,wcap,rfl⟩:=hst.form;obtain⟨vb,voff,rfl,hvb,hvc,hvs⟩:=HV.o.spread (by omega);have hvk:wr.cell? ⟨vb,voff+k,none⟩=some (.string V[k]):=(HBK.o.cell (p:=⟨vb,voff+k,none⟩) hvb).trans (hvc k hlv);have hvk:∀ o,(wr.alloc o).cell? ⟨vb,voff+k,none⟩=some (.string V[k]):=fun o=>(Zaj _ _ _ _ (Zk_ hvb HBK.o.size)).trans hvk
           have q3':∀ o,(wr.alloc o).cell? ⟨B2,3,none⟩=some (.slice (some ⟨vb,voff,none⟩) V.length vcap):=fun o=>(Zaj _ _ _ _ qlt).trans q3
           have hvz:V[k].size<=maxLen:=hvs _ (List.getElem_mem hlv);have HST:=Zab (ZhP hlt hlv);have HA:∀ o,Hd (J (Zdy kind ++ ZaV x.fields V k) (wr.alloc o)):=fun o=>Zbt HJ.o HJK.o (Zac _ _)
           have HAB:∀ o,Hd (Below w0.heap.size w0 (wr.alloc o)):=fun o=>HBK.o.trans ((Zac _ _).mono HBK.o.size)
           have hwe:=hsz.s10;clear hfc hcell hst hvc hvs hsz
           cases hk1:(x.fields[k].kd == 1) with
           | false=>
            have hk1':(x.fields[k].kd != 1)=true:=by simp [bne,hk1]
            have HE2:Hd (ZaV x.fields V (k+1)=ZaV x.fields V k):=by unfold Hd;rw [HST.o,hk1];simp
            gi_wp2
            go_roundw
            . exact⟨k+1,by go_num,by omega,by rw [HE2.o];exact (HA _).o,(HAB _).o,q3' _,by simp;omega,by simp;omega⟩
            . simp [intOf];omega
           | true=>
            have hk1':(x.fields[k].kd != 1)=false:=by simp [bne,hk1]
            cases hk2:x.fields[k].we.toList.isEmpty with
            | true=>
             have HE2:Hd (ZaV x.fields V (k+1)=ZaV x.fields V k):=by unfold Hd;rw [HST.o,hk1,hk2];simp
             gi_wp2
             go_roundw
             . exact⟨k+1,by go_num,by omega,by rw [HE2.o];exact (HA _).o,(HAB _).o,q3' _,by simp;omega,by simp;omega⟩
             . simp [intOf];omega
            | false=>
             have HE2:Hd (ZaV x.fields V (k+1)=ZaV x.fields V k ++ [(x.fields[k].we,Zi5 V[k])]):=by unfold Hd;rw [HST.o,hk1,hk2];simp
             have hpl:(Zdy kind ++ ZaV x.fields V k).length < V.length+1:=by
              have:=Zgq x.fields V k;have:(Zdy kind).length<=1:=by unfold Zdy;split <;> simp
              rw [List.length_append];omega
             have HP:=Zab hpl;clear hpl;obtain⟨fn,tmps,assign,body,hy,hR⟩:=HY.o _ (x.fields[k].we,Zi5 V[k]) _ (HA (.cells #[.string x.fields[k].nm,.int .i64 x.fields[k].kd,.int .i64 x.fields[k].le,.int .i64 x.fields[k].mo,.slice wa wn wcap,.string x.fields[k].to,.int .i64 x.fields[k].ro,.bool x.fields[k].mu,.bool x.fields[k].fx,.string x.fields[k].df,.string x.fields[k].we] 178)).o HP.o;dsimp only [Ztp] at hy;rw [Zez hwe] at hy;have HR:=Zab hR;clear hR
             gi_wp2_with (refine⟨trivial,?_⟩;gi_at_call 229;refine (callsIn_wide.2 (Zda _ _ hvz)).mono ?_;rintro e w3 ⟨rfl,rfl⟩)
             refine HR.o.mono ?_;rintro e W3 (⟨rfl,hJ3,hk3⟩ | ⟨rfl,hJx3⟩)
             . have HJ3:=Zab hJ3
               have r3:=hk3.cell (q3' (.cells #[.string x.fields[k].nm,.int .i64 x.fields[k].kd,.int .i64 x.fields[k].le,.int .i64 x.fields[k].mo,.slice wa wn wcap,.string x.fields[k].to,.int .i64 x.fields[k].ro,.bool x.fields[k].mu,.bool x.fields[k].fx,.string x.fields[k].df,.string x.fields[k].we] 178)) S2.o;have rB:Hd (Below w0.heap.size w0 W3):=(HAB (.cells #[.string x.fields[k].nm,.int .i64 x.fields[k].kd,.int .i64 x.fields[k].le,.int .i64 x.fields[k].mo,.slice wa wn wcap,.string x.fields[k].to,.int .i64 x.fields[k].ro,.bool x.fields[k].mu,.bool x.fields[k].fx,.string x.fields[k].df,.string x.fields[k].we] 178)).o.trans (hk3.below (HAB _).o.size S0.o hw0);have rz:=hk3.size;simp at rz;clear hk3 hJ3 hy
               gi_wp2
               go_roundw
               . exact⟨k+1,by go_num,by omega,by rw [HE2.o,<- List.append_assoc];exact HJ3.o,rB.o,r3,by omega,by omega⟩
               . simp [intOf];omega
             . have HX3:=Zab hJx3
               clear hJx3 hy
               gi_wp2
               refine bodyPost_ret (results_none rfl _ _ _) rfl ?_;exact⟨⟨_,rfl⟩,.inr ⟨_,trivial,HX3.o⟩⟩
         . have he:k=V.length:=by have:=HL.o;omega
           subst he
           gi_wp2
           go_end0
           exact⟨⟨_,rfl⟩,.inl ⟨_,HE.o.symm,HJK.o⟩⟩
      . have HX3:=Zab hJx3
        clear hJx3 hy
        gi_wp2
        refine bodyPost_ret (results_none rfl _ _ _) rfl ?_;exact⟨⟨_,rfl⟩,.inr ⟨_,trivial,HX3.o⟩⟩
   . have hne:((V.length:Int) != (x.fields.length:Int))=true:=by simp;omega
     have HE:Hd (ZeM Ss kind V=[]):=ZjM fun y hy=>by rw [HSH.o] at hy;cases hy;exact hl
     have HJ2:∀ o,Hd (J [] (w1.alloc o)):=fun o=>Zbt (HJ.o) HJ1.o (Zac _ _)
     gi_wp2
     refine bodyPost_ret (results_none rfl _ _ _) rfl ?_;exact⟨⟨_,rfl⟩,.inl ⟨[],HE.o.symm,(HJ2 _).o⟩⟩
 . have HE:Hd (ZeM Ss kind V=[]):=ZjM fun y hy=>by rw [hno] at hy;cases hy
   have HJ2:∀ o,Hd (J [] (w1.alloc o)):=fun o=>Zbt (HJ.o) HJ1.o (Zac _ _)
   gi_wp2
   refine bodyPost_ret (results_none rfl _ _ _) rfl ?_;exact⟨⟨_,rfl⟩,.inl ⟨[],HE.o.symm,(HJ2 _).o⟩⟩
end
end
section
open Go.RowKit Go.Deep Go.Shelf Go.Maps
attribute [local go_sem] Oper.semAt_some
abbrev Tie:=Nat×Int×Zy_×Zy_
def Zfg (k:Nat) (f:Fd) (s:Zy_):List Tie:=if (f.kd == 4&&!s.toList.isEmpty)=true then [(k,f.ro,f.to,s)] else []
def ZdD (Fs:List Fd) (V:List Zy_):Nat->List Tie
 | 0=>[]
 | k+1=>ZdD Fs V k ++ (match Fs[k]?,V[k]? with | some f,some s=>Zfg k f s | _,_=>[])
theorem ZhK {Fs:List Fd}{V:List Zy_}{k:Nat} (hf:k < Fs.length) (hv:k < V.length):ZdD Fs V (k+1)=ZdD Fs V k ++ Zfg k Fs[k] V[k]:=by
 rw [ZdD];simp [hf,hv]
theorem ZjI (Fs:List Fd) (V:List Zy_) (k:Nat):(ZdD Fs V k).length<=k:=by
 induction k with
 | zero=>simp [ZdD]
 | succ k ih=>
  rw [ZdD,List.length_append]
  split
  . unfold Zfg
    split
    . simp;omega
    . simp;omega
  . simp;omega
abbrev ZtL (x:Tie):Array Value:=#[.agg #[.int .i64 x.1,.int .i64 x.2.1,.string (Zey x.2.2.1),.string (Zey x.2.2.2)]]
section
variable (lo:Nat) (sk:Zy_) (fv:Value) (Fs:List Fd) (kind nm team:Zy_) (vv hv:Value) (en:Bool) (ver:Int) (V Ho:List Zy_) (w:World)
theorem Zql (F:Fence) (n:Nat) (hf:F.fn 190) (hro:F.round=none) (a:Option Addr) (ln cap:Nat) (va:Option Addr) (vn vcap:Nat) (ha:Option Addr) (hn hcap:Nat) :
 CallsIn F n prog 190 #[.agg #[.string sk,.slice a ln cap],.agg #[.string kind,.string nm,.string team,.slice va vn vcap,.bool en,.slice ha hn hcap,.int .i64 ver]] w
  fun e w'=>e=.returned (.func (.func 227) #[] #[.pointer (some ⟨w.heap.size,0,none⟩),.pointer (some ⟨w.heap.size+1,0,none⟩)])/\
   w'=(w.alloc (.cells #[.string sk,.slice a ln cap] 131)).alloc (.cells #[.string kind,.string nm,.string team,.slice va vn vcap,.bool en,.slice ha hn hcap,.int .i64 ver] 128):=by
 refine callsIn_of_wp func190 rfl hf ?_ hro;simp only [ntmps190,List.size_toArray,List.length_cons,List.length_nil,Nat.reduceAdd,Nat.reduceSub,Array.replicate_succ,Array.replicate_zero,List.push_toArray,List.append_toArray,List.nil_append,List.cons_append]
 gi_wp2
 go_ret;exact⟨rfl,rfl⟩
theorem ZiQ (n:Nat) (hn:1<=n) (S:Nat->Prop) (w0:World) (B1 B2:Nat) (h0:Below w0.heap.size w0 w) (hF:Zau lo w0 fv Fs) (hV:Zaf w0 vv V) (hl:Fs.length=V.length) (n1:Fs.length<=1048576)
 (s0:∀ k,k < w0.heap.size->¬ S k) (s2:¬ S B2)
 (hX1:Box w B1 #[.string sk,fv]) (hX2:Box w B2 #[.string kind,.string nm,.string team,vv,.bool en,hv,.int .i64 ver]) :
 SeqStopsK Fence.wide n prog 227 #[.pointer (some ⟨B1,0,none⟩),.pointer (some ⟨B2,0,none⟩)] ZtL (ZaF S w.heap.size) (fun xs=>xs=ZdD Fs V Fs.length) (fun xs=>∃ k,k<=Fs.length/\xs=ZdD Fs V k) Fs.length w:=by
 intro l J Jx W hW hJ hJx hY hJ0;have HF:=Zab hF;have HV:=Zab hV;obtain⟨fa,fcap,rfl⟩:=hF.form;obtain⟨va,vcap,rfl⟩:=hV.form';have H0:=Zab (h0.trans (hW.mono h0.size));have x1:=(hX1.below hW hX1.lt).cell 1;have HO:=Zab (hX2.below hW hX2.lt);have hw:w.heap.size<=W.heap.size:=hW.size;have hw0:w0.heap.size<=w.heap.size:=h0.size;have HJ:=Zab hJ;have HJX:=Zab hJx;have HY:=Zab hY;have HL:=Zab hl;have S0:=Zab s0;have S2:=Zab s2;have HJ0:=Zab hJ0;simp at x1;clear hF hV h0 hW hX1 hX2 hJ hJx hY s0 s2 hJ0 hl;refine callsIn_of_wp func227 rfl trivial ?_ rfl;simp only [ntmps227,List.size_toArray,List.length_cons,List.length_nil,Nat.reduceAdd,Nat.reduceSub,Array.replicate_succ,Array.replicate_zero,List.push_toArray,List.append_toArray,List.nil_append,List.cons_append];have o3:=HO.o.cell 3;have olt:=HO.o.lt;simp at o3
 gi_wp2
 gi_loopw [9] (fun i wr=>∃ k:Nat,i=.int .i64 k/\k<=Fs.length/\J (ZdD Fs V k) wr/\Below w0.heap.size w0 wr/\wr.cell? ⟨B2,3,none⟩=some (.slice va V.length vcap)/\B2 < wr.heap.size/\w.heap.size<=wr.heap.size)
  (fun i _=>Fs.length - (intOf i).toNat)
 case atStart=>exact⟨0,rfl,Nat.zero_le _,HJ0.o,H0.o,o3,olt,hw⟩
 case round=>
  clear o3 olt hw x1;obtain⟨k,rfl,hkl,hJk,hBk,q3,qlt,qw⟩:=hrel;have HJK:=Zab hJk;have HBK:=Zab hBk;clear hJk hBk
  by_cases hlt:k < Fs.length
  . have hlv:k < V.length:=by have:=HL.o;omega
    obtain⟨fb,foff,rfl,hfb,hfc⟩:=HF.o.full' (by omega);obtain⟨hsz,wv,hcell,hst⟩:=hfc k hlt;obtain⟨c0,c1,c2,c3,c4,c5,c6,c7,c8,c9,c10⟩:=hcell.below HBK.o hfb;obtain⟨wa,wn,wcap,rfl⟩:=hst.form;obtain⟨vb,voff,rfl,hvb,hvc,hvs⟩:=HV.o.spread (by omega);have hvk:wr.cell? ⟨vb,voff+k,none⟩=some (.string V[k]):=(HBK.o.cell (p:=⟨vb,voff+k,none⟩) hvb).trans (hvc k hlv);have hvz:V[k].size<=maxLen:=hvs _ (List.getElem_mem hlv);have hto:=hsz.s5;have HST:=Zab (ZhK hlt hlv);have HTO:Hd (Zfg k Fs[k] V[k]=if (Fs[k].kd == 4&&!V[k].toList.isEmpty)=true then [(k,Fs[k].ro,Fs[k].to,V[k])] else []):=rfl;clear hfc hcell hst hvc hvs hsz
    obtain⟨Wb,hWb,hvk',q3',f5,f6,HA,HAB,hzb⟩:∃ Wb,Wb=wr.alloc (.cells #[.string Fs[k].nm,.int .i64 Fs[k].kd,.int .i64 Fs[k].le,.int .i64 Fs[k].mo,.slice wa wn wcap,.string Fs[k].to,.int .i64 Fs[k].ro,.bool Fs[k].mu,.bool Fs[k].fx,.string Fs[k].df,.string Fs[k].we] 178)/\
     Wb.cell? ⟨vb,voff+k,none⟩=some (.string V[k])/\Wb.cell? ⟨B2,3,none⟩=some (.slice (some ⟨vb,voff,none⟩) V.length vcap)/\Wb.cell? ⟨wr.heap.size,5,none⟩=some (.string Fs[k].to)/\Wb.cell? ⟨wr.heap.size,6,none⟩=some (.int .i64 Fs[k].ro)/\
     Hd (J (ZdD Fs V k) Wb)/\Hd (Below w0.heap.size w0 Wb)/\Wb.heap.size=wr.heap.size+1:=by
     refine⟨_,rfl,(Zaj _ _ _ _ (Zk_ hvb HBK.o.size)).trans hvk,(Zaj _ _ _ _ qlt).trans q3,ZaR _ _ _ _ 5 rfl,ZaR _ _ _ _ 6 rfl,Zbt HJ.o HJK.o (Zac _ _),HBK.o.trans ((Zac _ _).mono HBK.o.size),by simp⟩
    cases hk1:(Fs[k].kd == 4) with
    | false=>
     have hk1':(Fs[k].kd != 4)=true:=by simp [bne,hk1]
     have HE2:Hd (ZdD Fs V (k+1)=ZdD Fs V k):=by unfold Hd;rw [HST.o,HTO.o,hk1];simp
     gi_wp2
     rw [<- hWb];clear hWb;go_roundw
     . exact⟨k+1,by go_num,by omega,by rw [HE2.o];exact HA.o,HAB.o,q3',by omega,by omega⟩
     . simp [intOf];omega
    | true=>
     have hk1':(Fs[k].kd != 4)=false:=by simp [bne,hk1]
     cases hk2:V[k].toList.isEmpty with
     | true=>
      have HE2:Hd (ZdD Fs V (k+1)=ZdD Fs V k):=by unfold Hd;rw [HST.o,HTO.o,hk1,hk2];simp
      have hvk2:∀ o,(wr.alloc o).cell? ⟨vb,voff+k,none⟩=some (.string V[k]):=fun o=>(Zaj _ _ _ _ (Zk_ hvb HBK.o.size)).trans hvk
      have q32:∀ o,(wr.alloc o).cell? ⟨B2,3,none⟩=some (.slice (some ⟨vb,voff,none⟩) V.length vcap):=fun o=>(Zaj _ _ _ _ qlt).trans q3
      gi_wp2
      rw [<- hWb];clear hWb;go_roundw
      . exact⟨k+1,by go_num,by omega,by rw [HE2.o];exact HA.o,HAB.o,q3',by omega,by omega⟩
      . simp [intOf];omega
     | false=>
      have HE2:Hd (ZdD Fs V (k+1)=ZdD Fs V k ++ [(k,Fs[k].ro,Fs[k].to,V[k])]):=by unfold Hd;rw [HST.o,HTO.o,hk1,hk2];simp
      have hpl:(ZdD Fs V k).length < Fs.length:=by have:=ZjI Fs V k;omega
      have HAD:Hd (J (ZdD Fs V k) Wb.drew):=Zbt HJ.o HA.o Zb_.drew;obtain⟨fn,tmps,assign,body,hy,hR⟩:=HY.o _ (k,Fs[k].ro,Fs[k].to,V[k]) _ HAD.o hpl;dsimp only [ZtL] at hy;rw [Zez hto,Zez hvz] at hy;have HR:=Zab hR;have hvk2:∀ o,(wr.alloc o).cell? ⟨vb,voff+k,none⟩=some (.string V[k]):=fun o=>(Zaj _ _ _ _ (Zk_ hvb HBK.o.size)).trans hvk
      have q32:∀ o,(wr.alloc o).cell? ⟨B2,3,none⟩=some (.slice (some ⟨vb,voff,none⟩) V.length vcap):=fun o=>(Zaj _ _ _ _ qlt).trans q3
      clear hR hpl
      gi_wp2
      rw [<- hWb];clear hWb hvk2 q32 hvk
      have HR2:Hd (RoundIn Fence.wide (n - 1) prog l fn tmps assign body Wb.drew fun e W'=>∃ r:Bool,e=.returned (.bool r)/\((r=true/\J (ZdD Fs V k ++ [(k,Fs[k].ro,Fs[k].to,V[k])]) W'/\ZaF S w.heap.size Wb.drew W')\/(r=false/\Jx (ZdD Fs V k ++ [(k,Fs[k].ro,Fs[k].to,V[k])]) W'))):=by
       refine HR.o.mono ?_;rintro e W' (⟨rfl,h1,h2⟩ | ⟨rfl,h1⟩)
       . exact⟨true,rfl,.inl ⟨rfl,h1,h2⟩⟩
       . exact⟨false,rfl,.inr ⟨rfl,h1⟩⟩
      have HK0:Hd (k+1<=Fs.length/\ZdD Fs V k ++ [(k,Fs[k].ro,Fs[k].to,V[k])]=ZdD Fs V (k+1)):=⟨by omega,HE2.o.symm⟩
      gi_region_with (refine HR2.o.mono ?_;rintro e W3 ⟨r,rfl,hP⟩)
      all_goals clear HR HR2 hy HY HJ HJX hvk' f5 f6
      all_goals
       rcases hP with ⟨rfl,hJ3,hk3⟩ | ⟨rfl,hJx3⟩
       . have HJ3:=Zab hJ3
         have r3:W3.cell? ⟨B2,3,none⟩=some (.slice (some ⟨vb,voff,none⟩) V.length vcap):=hk3.cell (show Wb.drew.cell? _=_ from q3') S2.o;have rB:Hd (Below w0.heap.size w0 W3):=HAB.o.drew.trans (hk3.below HAB.o.size S0.o hw0);have rz:=hk3.size;have rz':Wb.drew.heap.size=wr.heap.size+1:=hzb;clear hk3 hJ3
         gi_wp2
         go_roundw
         . exact⟨k+1,by go_num,by omega,by rw [HE2.o];exact HJ3.o,rB.o,r3,by omega,by omega⟩
         . simp [intOf];omega
       . have HX3:=Zab hJx3
         clear hJx3
         gi_wp2
         refine bodyPost_ret (results_none rfl _ _ _) rfl ?_;exact⟨⟨_,rfl⟩,.inr ⟨_,⟨k+1,HK0.o.1,HK0.o.2⟩,HX3.o⟩⟩
  . have he:k=Fs.length:=by omega
    subst he
    gi_wp2
    go_end0
    exact⟨⟨_,rfl⟩,.inl ⟨_,rfl,HJK.o⟩⟩
end
end
section
open Go.RowKit Go.Deep
variable {w w' wr w1:World} {b o lo B k:Nat} {vv0 vv1 v:Value}
structure Ob where
 kd:Zy_
 nm:Zy_
 tm:Zy_
 vs:List Zy_
 en:Bool
 hs:List Zy_
 ver:Int
variable {x:Ob} {Xl:List Ob}
structure Zc5 (x:Ob):Prop where
 s0:x.kd.size<=maxLen
 s1:x.nm.size<=maxLen
 s2:x.tm.size<=maxLen
def Zeq (x:Ob):Prop:=x.vs.length<=1048576/\x.hs.length<=1048576
structure Zcf (w:World) (b o:Nat) (x:Ob) (vv0 vv1:Value):Prop where
 c0:w.cell? ⟨b,o,none⟩=some (.string x.kd)
 c1:w.cell? ⟨b,o+1,none⟩=some (.string x.nm)
 c2:w.cell? ⟨b,o+2,none⟩=some (.string x.tm)
 c3:w.cell? ⟨b,o+3,none⟩=some vv0
 c4:w.cell? ⟨b,o+4,none⟩=some (.bool x.en)
 c5:w.cell? ⟨b,o+5,none⟩=some vv1
 c6:w.cell? ⟨b,o+6,none⟩=some (.int .i64 x.ver)
theorem Zcf.below (h:Zcf w b o x vv0 vv1) {m:Nat} (hb:Below m w w') (hlt:b < m):Zcf w' b o x vv0 vv1:=by
 have e:∀ o,w'.cell? ⟨b,o,none⟩=w.cell? ⟨b,o,none⟩:=fun o=>hb.cell (p:=⟨b,o,none⟩) hlt
 exact⟨by rw [e];exact h.c0,by rw [e];exact h.c1,by rw [e];exact h.c2,by rw [e];exact h.c3,by rw [e];exact h.c4,by rw [e];exact h.c5,by rw [e];exact h.c6⟩
theorem Zcf.set (h:Zcf w b o x vv0 vv1) {p:Addr} (hp:b≠p.block) (u:Value):Zcf (w.setCell p u) b o x vv0 vv1:=by
 have e:∀ o,(w.setCell p u).cell? ⟨b,o,none⟩=w.cell? ⟨b,o,none⟩:=fun o=>Zar _ _ _ _ hp
 exact⟨by rw [e];exact h.c0,by rw [e];exact h.c1,by rw [e];exact h.c2,by rw [e];exact h.c3,by rw [e];exact h.c4,by rw [e];exact h.c5,by rw [e];exact h.c6⟩
def Za2 (lo:Nat) (w:World) (v:Value) (Xl:List Ob):Prop:=
 (∃ (a:Option Addr) (cap:Nat),v=.slice a 0 cap/\Xl=[])\/
 ∃ (b off cap:Nat),v=.slice (some ⟨b,off,none⟩) Xl.length cap/\Xl≠[]/\Xl.length<=maxLen/\b < w.heap.size/\lo<=b/\Xl.length<=cap/\
  ∀ i (h:i < Xl.length),Zc5 Xl[i]/\∃ vv0 vv1,Zcf w b (off+i*7) Xl[i] vv0 vv1/\Zaq lo w vv0 Xl[i].vs/\Zaq lo w vv1 Xl[i].hs
theorem Za2.below (h:Za2 lo w v Xl) (hb:Zw_ w w'):Za2 lo w' v Xl:=by
 rcases h with h | ⟨b,off,cap,h1,h2,h3,h4,h5,h6,h7⟩
 . exact Or.inl h
 . refine Or.inr ⟨b,off,cap,h1,h2,h3,Zk_ h4 hb.size,h5,h6,fun i hi=>?_⟩
   obtain⟨hs,vv0,vv1,hc,hv0,hv1⟩:=h7 i hi;exact⟨hs,vv0,vv1,hc.below hb h4,hv0.below hb,hv1.below hb⟩
theorem Za2.mono {lo':Nat} (h:Za2 lo w v Xl) (hl:lo'<=lo):Za2 lo' w v Xl:=by
 rcases h with h | ⟨b,off,cap,h1,h2,h3,h4,h5,h6,h7⟩
 . exact Or.inl h
 . refine Or.inr ⟨b,off,cap,h1,h2,h3,h4,Nat.le_trans hl h5,h6,fun i hi=>?_⟩
   obtain⟨hs,vv0,vv1,hc,hv0,hv1⟩:=h7 i hi;exact⟨hs,vv0,vv1,hc,hv0.mono hl,hv1.mono hl⟩
theorem Za2.set (h:Za2 lo w v Xl) {p:Addr} (hp:p.block < lo) (u:Value):Za2 lo (w.setCell p u) v Xl:=by
 rcases h with h | ⟨b,off,cap,h1,h2,h3,h4,h5,h6,h7⟩
 . exact Or.inl h
 . refine Or.inr ⟨b,off,cap,h1,h2,h3,by simpa [World.setCell] using h4,h5,h6,fun i hi=>?_⟩
   obtain⟨hs,vv0,vv1,hc,hv0,hv1⟩:=h7 i hi;exact⟨hs,vv0,vv1,hc.set (by omega) u,hv0.setCell hp u,hv1.setCell hp u⟩
theorem Za2.form (h:Za2 lo w v Xl):∃ a cap,v=.slice a Xl.length cap:=by
 rcases h with ⟨a,cap,h,rfl⟩ | ⟨b,off,cap,h,_⟩
 . exact⟨a,cap,h⟩
 . exact⟨_,cap,h⟩
theorem Za2.max (h:Za2 lo w v Xl):Xl.length<=maxLen:=by
 rcases h with ⟨a,cap,h,rfl⟩ | ⟨b,off,cap,h,_,h3,_⟩
 . exact Nat.zero_le _
 . exact h3
theorem Za2.full (h:Za2 lo w v Xl) (hne:Xl≠[]):∃ (b off cap:Nat),v=.slice (some ⟨b,off,none⟩) Xl.length cap/\Xl.length<=maxLen/\b < w.heap.size/\Xl.length<=cap/\
 ∀ i (h:i < Xl.length),Zc5 Xl[i]/\∃ vv0 vv1,Zcf w b (off+i*7) Xl[i] vv0 vv1/\Zaq lo w vv0 Xl[i].vs/\Zaq lo w vv1 Xl[i].hs:=by
 rcases h with ⟨_,_,_,h⟩ | ⟨b,off,cap,h1,_,h3,h4,_,h6,h7⟩
 . exact absurd h hne
 . exact⟨b,off,cap,h1,h3,h4,h6,h7⟩
theorem Za2.full' {a:Option Addr}{n cap:Nat} (h:Za2 lo w (.slice a n cap) Xl) (hL:0 < Xl.length) :
 ∃ b off,a=some ⟨b,off,none⟩/\b < w.heap.size/\lo<=b/\∀ i (h:i < Xl.length),Zc5 Xl[i]/\∃ vv0 vv1,Zcf w b (off+i*7) Xl[i] vv0 vv1/\Zaq lo w vv0 Xl[i].vs/\Zaq lo w vv1 Xl[i].hs:=by
 rcases h with ⟨a',cap',h,rfl⟩ | ⟨b',off',cap',h1,h2,h3,h4,h5,h6,h7⟩
 . simp at hL
 . injection h1 with e1 e2 e3
   exact⟨b',off',e1,h4,h5,h7⟩
def Zbl (Xl:List Ob):Prop:=Xl.length<=1048576/\∀ i (h:i < Xl.length),Zeq Xl[i]
def Ztx (Xl:List Ob) (left r:Int):Prop:= -1<=r/\r<=left/\(0<=r->Zbl Xl)
theorem Zry (lo:Nat) (x:Ob) (vv0 vv1:Value) (left:Int) (w:World) (h0:0<=left) (h1:left<=1048576) (hv0:Zaq lo w vv0 x.vs) (hv1:Zaq lo w vv1 x.hs) (hz:Zc5 x) :
 Calls prog 77 #[.agg #[.string x.kd,.string x.nm,.string x.tm,vv0,.bool x.en,vv1,.int .i64 x.ver],.int .i64 left] w
  fun e w'=>∃ r:Int,e=.returned (.int .i64 r)/\Zw_ w w'/\-1<=r/\r<=left/\(0<=r->Zeq x):=by
 refine (Zqc x.kd x.nm x.tm vv0 vv1 x.en x.ver x.vs x.hs w left hv0.at hv1.at h0 h1 hz.s0 hz.s1 hz.s2).mono ?_;rintro e w' ⟨r,he,hb,q0,q1,q2⟩;exact⟨r,he,hb,q0,q1,fun h=>⟨by have:=(q2 h).1;omega,by have:=(q2 h).2;omega⟩⟩
theorem ZrC (lo:Nat) (x:Ob) (vv0 vv1:Value) (w:World) (hv0:Zaq lo w vv0 x.vs) (hv1:Zaq lo w vv1 x.hs) (hn:Zeq x) :
 Calls prog 89 #[.agg #[.string x.kd,.string x.nm,.string x.tm,vv0,.bool x.en,vv1,.int .i64 x.ver]] w
  fun e w'=>∃ z0 z1,e=.returned (.agg #[.string x.kd,.string x.nm,.string x.tm,z0,.bool x.en,z1,.int .i64 x.ver])/\Zw_ w w'/\Zaq w.heap.size w' z0 x.vs/\Zaq w.heap.size w' z1 x.hs:=
 Zqq x.kd x.nm x.tm vv0 vv1 x.en x.ver x.vs x.hs w hv0.at hv1.at hn.1 hn.2
theorem ZoU (lo lo':Nat) (x:Ob) (vv0 vv1 vv0' vv1':Value) (w:World) (hv0:Zaq lo w vv0 x.vs) (hv1:Zaq lo w vv1 x.hs) (hw0:Zaq lo' w vv0' x.vs) (hw1:Zaq lo' w vv1' x.hs) :
 Calls prog 100 #[.agg #[.string x.kd,.string x.nm,.string x.tm,vv0,.bool x.en,vv1,.int .i64 x.ver],.agg #[.string x.kd,.string x.nm,.string x.tm,vv0',.bool x.en,vv1',.int .i64 x.ver]] w fun e w'=>e=.returned (.bool true)/\Zw_ w w':=
 Zm0 x.kd x.nm x.tm vv0 vv1 x.en x.ver x.vs x.hs w vv0' vv1' hv0.at hv1.at hw0.at hw1.at
theorem Zqd (lo:Nat) (v:Value) (Xl:List Ob) (left:Int) (w:World) (h0:0<=left) (h1:left<=1048576) (hv:Za2 lo w v Xl) :
 Calls prog 30 #[v,.int .i64 left] w fun e w'=>∃ r:Int,e=.returned (.int .i64 r)/\Zw_ w w'/\Ztx Xl left r:=by
 rcases hv with ⟨a,cap,rfl,rfl⟩ | ⟨b,off,cap,rfl,hne,hm,hbw,_,_,hc⟩
 . go_enter func30,ntmps30
   go_wp2
   go_loop [1,5] (fun l i=>∃ r:Int,l=.int .i64 r/\0<=r/\r<=left/\i=.int .i64 0) (fun _ _=>0)
   case atStart=>exact⟨_,rfl,by omega,by omega,rfl⟩
   case round=>
    obtain⟨r,rfl,hr0,hr1,rfl⟩:=hrel;go_wp2;go_ret;exact⟨r,rfl,Below.refl _ _,by omega,by omega,fun _=>⟨by simp,fun i h=>by simp at h⟩⟩
 . unfold maxLen at hm
   by_cases hle:(Xl.length:Int)<=left
   . go_enter func30,ntmps30
     go_wp2
     go_loopw [1,5] (fun l i wr=>∃ (r:Int) (k:Nat),l=.int .i64 r/\0<=r/\r<=left/\i=.int .i64 k/\k<=Xl.length/\Zw_ w wr/\∀ j (hj:j < Xl.length),j < k->Zeq Xl[j]) (fun _ i _=>Xl.length - (intOf i).toNat)
     case atStart=>exact⟨_,0,rfl,by omega,by omega,rfl,by omega,Below.refl _ _,fun j _ h=>by omega⟩
     case round=>
      obtain⟨r,k,rfl,hr0,hr1,rfl,hk,hb,hall⟩:=hrel;have HA:=Zab hall;clear hall
      by_cases hlt:k < Xl.length
      . obtain⟨hs,vv0,vv1,hc,hv0,hv1⟩:=hc k hlt
        have HV0:=Zab (hv0.below hb);have HV1:=Zab (hv1.below hb);obtain⟨a0,k0,rfl⟩:=hv0.at.form';obtain⟨a1,k1,rfl⟩:=hv1.at.form';obtain⟨c0,c1,c2,c3,c4,c5,c6⟩:=hc.below hb hbw;clear hc hv0 hv1;go_wp2_with fail;refine (Zry lo _ _ _ _ _ hr0 (by omega) HV0.o HV1.o hs).mono ?_;rintro e w1 ⟨r1,rfl,hb1,q0,q1,q2⟩;have HQ2:=Zab q2;have hB:Hd (Zw_ w w1):=hb.trans (hb1.mono hb.size);clear hb1 c0 c1 c2 c3 c4 c5 c6 hb q2 HV0 HV1
        by_cases hneg:r1 < 0
        . go_wp2
          go_ret;exact⟨-1,rfl,hB.o,by omega,by omega,fun h=>by omega⟩
        . have HL:Hd (Zeq Xl[k]):=HQ2.o (by omega)
          clear HQ2;go_wp2;go_roundw
          case rel=>exact⟨_,k+1,rfl,by omega,by omega,by go_num,by omega,hB.o,fun j hj h=>by
                     by_cases e:j=k
                     . subst e;exact HL.o
                     . exact HA.o j hj (by omega)⟩
          . simp [intOf];omega
      . go_wp2
        go_ret;exact⟨r,rfl,hb,by omega,by omega,fun _=>⟨by omega,fun j hj=>HA.o j hj (by omega)⟩⟩
   . go_enter func30,ntmps30
     go_wp2;go_ret;exact⟨-1,rfl,Below.refl _ _,by omega,by omega,fun h=>by omega⟩
theorem Zm1 (lo lo':Nat) (v v':Value) (Xl:List Ob) (w:World) (hv:Za2 lo w v Xl) (hv':Za2 lo' w v' Xl) :
 Calls prog 48 #[v,v'] w fun e w'=>e=.returned (.bool true)/\Zw_ w w':=by
 by_cases hL:Xl=[]
 . subst hL
   obtain⟨a,cap,rfl⟩:=hv.form;obtain⟨a',cap',rfl⟩:=hv'.form;clear hv hv';go_enter func48,ntmps48;go_wp2
   go_loop [5] (fun i=>i=.int .i64 0) (fun _=>0)
   case atStart=>rfl
   case round=>
    subst hrel;go_wp2;go_ret;exact⟨rfl,Below.refl _ _⟩
 . obtain⟨b,off,cap,rfl,hm,hbw,_,hc⟩:=hv.full hL
   obtain⟨b',off',cap',rfl,_,hbw',_,hc'⟩:=hv'.full hL;clear hv hv';unfold maxLen at hm;go_enter func48,ntmps48;go_wp2
   go_loopw [5] (fun i wr=>∃ k:Nat,i=.int .i64 k/\k<=Xl.length/\Zw_ w wr) (fun i _=>Xl.length - (intOf i).toNat)
   case atStart=>exact⟨0,rfl,by omega,Below.refl _ _⟩
   case round=>
    obtain⟨k,rfl,hk,hb⟩:=hrel
    by_cases hlt:k < Xl.length
    . obtain⟨hs,vv0,vv1,hc,hv0,hv1⟩:=hc k hlt
      obtain⟨ht,vv0',vv1',hd,hw0,hw1⟩:=hc' k hlt;have HV0:=Zab (hv0.below hb);have HW0:=Zab (hw0.below hb);have HV1:=Zab (hv1.below hb);have HW1:=Zab (hw1.below hb);obtain⟨a0,k0,rfl⟩:=hv0.at.form';obtain⟨a1,k1,rfl⟩:=hv1.at.form';obtain⟨e0,g0,rfl⟩:=hw0.at.form';obtain⟨e1,g1,rfl⟩:=hw1.at.form';obtain⟨c0,c1,c2,c3,c4,c5,c6⟩:=hc.below hb hbw;obtain⟨d0,d1,d2,d3,d4,d5,d6⟩:=hd.below hb hbw';clear hc hd hv0 hv1 hw0 hw1 hs ht;have HB:=Zab hb;clear hb;go_wp2
      go_region_with (go_at_call 100;refine (ZoU lo lo' _ _ _ _ _ _ (HV0.o.below (Zb_.drew)) (HV1.o.below (Zb_.drew)) (HW0.o.below (Zb_.drew)) (HW1.o.below (Zb_.drew))).mono ?_;rintro e w1 ⟨rfl,hb1⟩;have hB:Hd (Zw_ w w1):=(HB.o.drew).trans (hb1.mono HB.o.size);clear hb1)
      all_goals go_wp2
      all_goals go_roundw
      all_goals first
       | (case rel=>exact⟨k+1,by go_num,by omega,hB.o⟩)
       | (case measure=>simp [intOf];omega)
    . go_wp2
      go_ret;exact⟨rfl,hb⟩
theorem Tryz.info128:(prog.info? 128).map (fun i=>(i.zero,i.size,i.bytes))=some (some (.agg #[.string ⟨#[]⟩,.string ⟨#[]⟩,.string ⟨#[]⟩,.slice none 0 0,.bool false,.slice none 0 0,.int .i64 0]),7,112):=by kernel_rfl
def ZbY (wr:World) (B:Nat) (Xl:List Ob) (k:Nat):Prop:=
 ∃ f,wr.rowIs B 128 (Xl.length*7) f/\∀ i (h:i < Xl.length),i < k->Zc5 Xl[i]/\∃ vv0 vv1,f (i*7)=.string Xl[i].kd/\f (i*7+1)=.string Xl[i].nm/\f (i*7+2)=.string Xl[i].tm/\f (i*7+3)=vv0/\f (i*7+4)=.bool Xl[i].en/\f (i*7+5)=vv1/\f (i*7+6)=.int .i64 Xl[i].ver/\Zaq (B+1) wr vv0 Xl[i].vs/\Zaq (B+1) wr vv1 Xl[i].hs
theorem ZbY.below (h:ZbY wr B Xl k) (hb:Below wr.heap.size wr w1):ZbY w1 B Xl k:=by
 obtain⟨f,hr,hall⟩:=h;refine⟨f,hr.of_block (hb.block B hr.lt),fun i hi hik=>?_⟩;obtain⟨hz,vv0,vv1,h0,h1,h2,h3,h4,h5,h6,hv0,hv1⟩:=hall i hi hik;exact⟨hz,vv0,vv1,h0,h1,h2,h3,h4,h5,h6,hv0.below hb,hv1.below hb⟩
theorem ZbY.free (h:ZbY wr B Xl k) (i:Nat):wr.frozen? ⟨B,i,none⟩=false:=by
 obtain⟨f,hr,_⟩:=h;exact hr.frozen i
theorem ZbY.there (h:ZbY wr B Xl k) (i:Nat) (hi:i < Xl.length*7):∃ v,wr.cell? ⟨B,i,none⟩=some v:=by
 obtain⟨f,hr,_⟩:=h;exact⟨_,hr.cell hi⟩
theorem ZbY.step (h:ZbY w1 B Xl k) (hk:k < Xl.length) (hz:Zc5 Xl[k]) (hv0:Zaq (B+1) w1 vv0 Xl[k].vs) (hv1:Zaq (B+1) w1 vv1 Xl[k].hs) :
 ZbY (((((((w1.setCell ⟨B,k*7,none⟩ (.string Xl[k].kd)).setCell ⟨B,k*7+1,none⟩ (.string Xl[k].nm)).setCell ⟨B,k*7+2,none⟩ (.string Xl[k].tm)).setCell ⟨B,k*7+3,none⟩ vv0).setCell ⟨B,k*7+4,none⟩ (.bool Xl[k].en)).setCell ⟨B,k*7+5,none⟩ vv1).setCell ⟨B,k*7+6,none⟩ (.int .i64 Xl[k].ver)) B Xl (k+1):=by
 obtain⟨f,hr,hall⟩:=h;refine⟨_,(((((((hr.set _ _).set _ _).set _ _).set _ _).set _ _).set _ _).set _ _),fun i hi hik=>?_⟩
 by_cases e:i=k
 . subst e
   refine⟨hz,vv0,vv1,by simp,by simp,by simp,by simp,by simp,by simp,by simp,?_,?_⟩
   . repeat (refine Zaq.setCell ?_ (by simp only [];omega) _)
     exact hv0
   . repeat (refine Zaq.setCell ?_ (by simp only [];omega) _)
     exact hv1
 . obtain⟨hz',vv0',vv1',h0,h1,h2,h3,h4,h5,h6,hv0',hv1'⟩:=hall i hi (by omega)
   refine⟨hz',vv0',vv1',?_,?_,?_,?_,?_,?_,?_,?_,?_⟩
   . rw [if_neg (by omega),if_neg (by omega),if_neg (by omega),if_neg (by omega),if_neg (by omega),if_neg (by omega),if_neg (by omega)];exact h0
   . rw [if_neg (by omega),if_neg (by omega),if_neg (by omega),if_neg (by omega),if_neg (by omega),if_neg (by omega),if_neg (by omega)];exact h1
   . rw [if_neg (by omega),if_neg (by omega),if_neg (by omega),if_neg (by omega),if_neg (by omega),if_neg (by omega),if_neg (by omega)];exact h2
   . rw [if_neg (by omega),if_neg (by omega),if_neg (by omega),if_neg (by omega),if_neg (by omega),if_neg (by omega),if_neg (by omega)];exact h3
   . rw [if_neg (by omega),if_neg (by omega),if_neg (by omega),if_neg (by omega),if_neg (by omega),if_neg (by omega),if_neg (by omega)];exact h4
   . rw [if_neg (by omega),if_neg (by omega),if_neg (by omega),if_neg (by omega),if_neg (by omega),if_neg (by omega),if_neg (by omega)];exact h5
   . rw [if_neg (by omega),if_neg (by omega),if_neg (by omega),if_neg (by omega),if_neg (by omega),if_neg (by omega),if_neg (by omega)];exact h6
   . repeat (refine Zaq.setCell ?_ (by simp only [];omega) _)
     exact hv0'
   . repeat (refine Zaq.setCell ?_ (by simp only [];omega) _)
     exact hv1'
theorem ZbY.done (h:ZbY wr B Xl k) (hk:Xl.length<=k) (hne:Xl≠[]) (hm:Xl.length<=maxLen):Za2 B wr (.slice (some ⟨B,0,none⟩) Xl.length Xl.length) Xl:=by
 obtain⟨f,hr,hall⟩:=h;refine Or.inr ⟨B,0,Xl.length,rfl,hne,hm,hr.lt,Nat.le_refl _,Nat.le_refl _,fun i hi=>?_⟩;obtain⟨hz,vv0,vv1,h0,h1,h2,h3,h4,h5,h6,hv0,hv1⟩:=hall i hi (by omega);rw [Nat.zero_add];exact⟨hz,vv0,vv1,⟨by rw [hr.cell (by omega),h0],by rw [hr.cell (by omega),h1],by rw [hr.cell (by omega),h2],by rw [hr.cell (by omega),h3],by rw [hr.cell (by omega),h4],by rw [hr.cell (by omega),h5],by rw [hr.cell (by omega),h6]⟩,hv0.mono (by omega),hv1.mono (by omega)⟩
theorem ZbY.new (w:World) (Xl:List Ob) (z:Array Value):ZbY (w.alloc (.cells (madeCells z (Xl.length*7)) 128)) w.heap.size Xl 0:=by
 refine⟨fun i=>(madeCells z (Xl.length*7)).getD i default,?_,fun i _ h=>by omega⟩;have:=World.rowIs_alloc w (madeCells z (Xl.length*7)) 128 (fun i=>(madeCells z (Xl.length*7)).getD i default) (fun i hi=>by simp [Array.getD,hi])
 rwa [size_madeCells] at this
theorem Zqr (lo:Nat) (v:Value) (Xl:List Ob) (w:World) (hv:Za2 lo w v Xl) (hn:Zbl Xl) :
 Calls prog 39 #[v] w fun e w'=>∃ v',e=.returned v'/\Zw_ w w'/\Za2 w.heap.size w' v' Xl:=by
 obtain⟨i0,hi,hz0,hz1,hz2⟩:=info_parts Tryz.info128;have HSM:=Zab hn.2;have hn1:=hn.1;clear hn
 by_cases hL:Xl=[]
 . subst hL
   obtain⟨a,cap,rfl⟩:=hv.form;clear hv
   have hmk:∀ u:World,(Instr.makeSlice 43 (.int .i64 0) (.int .i64 0)).run prog u=.ok (.slice (some ⟨u.heap.size,0,none⟩) 0 0) (u.alloc (.cells (madeCells (Value.cells (.agg #[.string ⟨#[]⟩,.string ⟨#[]⟩,.string ⟨#[]⟩,.slice none 0 0,.bool false,.slice none 0 0,.int .i64 0])) 0) 128)):=fun u=>by
    have h:=run_make (P:=prog) u 43 128 i0 _ underlying43 hi hz0 .i64 .i64 0 0 (by omega) (by omega) (by omega) (by omega)
    simpa [hz1] using h
   go_enter func39,ntmps39;go_wp2
   go_loop [4] (fun i=>i=.int .i64 0) (fun _=>0)
   case atStart=>rfl
   case round=>
    subst hrel;go_wp2;go_ret;exact⟨_,rfl,Zb_.alloc Zl_ _,Or.inl ⟨_,_,rfl,rfl⟩⟩
 . obtain⟨b,off,cap,rfl,hm,hbw,_,hc⟩:=hv.full hL
   clear hv;have HM:Hd (Xl.length<=maxLen):=hm;unfold maxLen at hm
   have hmk:∀ u:World,(Instr.makeSlice 43 (.int .i64 (Xl.length:Int)) (.int .i64 (Xl.length:Int))).run prog u=.ok (.slice (some ⟨u.heap.size,0,none⟩) Xl.length Xl.length) (u.alloc (.cells (madeCells (Value.cells (.agg #[.string ⟨#[]⟩,.string ⟨#[]⟩,.string ⟨#[]⟩,.slice none 0 0,.bool false,.slice none 0 0,.int .i64 0])) (Xl.length*7)) 128)):=fun u=>by
    have h:=run_make (P:=prog) u 43 128 i0 _ underlying43 hi hz0 .i64 .i64 Xl.length Xl.length (by omega) (by omega) (by rw [hz2];omega) (by omega);rw [hz1] at h
    simpa using h
   clear hi hz0 hz1 hz2;go_enter func39,ntmps39;go_wp2;clear hmk
   go_loopw [4] (fun i wr=>∃ k:Nat,i=.int .i64 k/\k<=Xl.length/\Zw_ w wr/\ZbY wr w.heap.size Xl k) (fun i _=>Xl.length - (intOf i).toNat)
   case atStart=>exact⟨0,rfl,by omega,Zb_.alloc Zl_ _,ZbY.new w Xl _⟩
   case round=>
    obtain⟨k,rfl,hk,hb,hf⟩:=hrel
    by_cases hlt:k < Xl.length
    . obtain⟨hs,vv0,vv1,hc,hv0,hv1⟩:=hc k hlt
      have HV0:=Zab (hv0.below hb);have HV1:=Zab (hv1.below hb);obtain⟨a0,k0,rfl⟩:=hv0.at.form';obtain⟨a1,k1,rfl⟩:=hv1.at.form';obtain⟨c0,c1,c2,c3,c4,c5,c6⟩:=hc.below hb hbw
      have hBl:w.heap.size < wr.heap.size:=by
       obtain⟨_,hr,_⟩:=hf;exact hr.lt
      clear hc hv0 hv1;go_wp2_with fail;refine (ZrC lo _ _ _ _ HV0.o HV1.o (HSM.o k hlt)).mono ?_;rintro e w1 ⟨z0,z1,rfl,hb1,hz0,hz1⟩;obtain⟨m0,n0,rfl⟩:=hz0.at.form';obtain⟨m1,n1,rfl⟩:=hz1.at.form';have hf1:=hf.below hb1;have HST:=Zab (hf1.step hlt hs (hz0.mono (by omega)) (hz1.mono (by omega)));have hB:Hd (Zw_ w w1):=hb.trans (hb1.mono hb.size);have hfr:=hf1.free;obtain⟨o0,ho0⟩:=hf1.there (k*7) (by omega);obtain⟨o1,ho1⟩:=hf1.there (k*7+1) (by omega);obtain⟨o2,ho2⟩:=hf1.there (k*7+2) (by omega);obtain⟨o3,ho3⟩:=hf1.there (k*7+3) (by omega);obtain⟨o4,ho4⟩:=hf1.there (k*7+4) (by omega);obtain⟨o5,ho5⟩:=hf1.there (k*7+5) (by omega);obtain⟨o6,ho6⟩:=hf1.there (k*7+6) (by omega);clear hf hf1 hb1 hb c0 c1 c2 c3 c4 c5 c6 hz0 HV0 hz1 HV1;go_wp2;go_roundw
      . 
       exact⟨k+1,by go_num,by omega,(((((((hB.o.setCell Zl_ _).setCell Zl_ _).setCell Zl_ _).setCell Zl_ _).setCell Zl_ _).setCell Zl_ _).setCell Zl_ _),HST.o⟩
      . simp [intOf];omega
    . go_wp2
      go_ret;exact⟨_,rfl,hb,hf.done (by omega) hL HM.o⟩
end
open Go.RowKit Go.Deep
variable {b o c0 c1 lo hi off n lo' hi':Nat} {w w' v wr:World} {x y:Le} {Xl:List Le}
def Zf4 (b o _c0 _c1:Nat) (w:World) (x:Le):Prop:=Zeo x/\ZcN w b o x
theorem Zf4.near {o1 d0 d1:Nat} (h:Zf4 b o c0 c1 w x) (hn:ZbT b o1 4 d0 d1 w w') (ho:o+4<=o1\/o1+4<=o) (hi:c1<=d0\/d1<=c0) (hb:b < c0\/c1<=b):Zf4 b o c0 c1 w' x:=by
 obtain⟨hs,hc⟩:=h;obtain⟨h0,h1,h2,h3⟩:=hc;have e:∀ t,t < 4->w'.cell? ⟨b,o+t,none⟩=w.cell? ⟨b,o+t,none⟩:=fun t ht=>hn.cell _ (by omega)
 have e0:w'.cell? ⟨b,o,none⟩=w.cell? ⟨b,o,none⟩:=hn.cell _ (by omega);exact⟨hs,⟨e0.trans h0,(e 1 (by omega)).trans h1,(e 2 (by omega)).trans h2,(e 3 (by omega)).trans h3⟩⟩
theorem Zf4.touch (h:Zf4 b o c0 c1 w x) (ht:Zag lo hi w w') (hlt:b < w.heap.size) (hb:b < lo\/hi<=b) (_hi:c1<=lo\/hi<=c0):Zf4 b o c0 c1 w' x:=by
 obtain⟨hs,hc⟩:=h;obtain⟨h0,h1,h2,h3⟩:=hc;exact⟨hs,⟨(ht.cell (p:=⟨b,o,none⟩) hlt hb).trans h0,(ht.cell (p:=⟨b,o+1,none⟩) hlt hb).trans h1,(ht.cell (p:=⟨b,o+2,none⟩) hlt hb).trans h2,(ht.cell (p:=⟨b,o+3,none⟩) hlt hb).trans h3⟩⟩
theorem Zf4.below (h:Zf4 b o c0 c1 w x) (ht:Zw_ w w') (hlt:b < w.heap.size):Zf4 b o c0 c1 w' x:=by
 obtain⟨hs,hc⟩:=h;obtain⟨h0,h1,h2,h3⟩:=hc;exact⟨hs,⟨(ht.cell (p:=⟨b,o,none⟩) hlt).trans h0,(ht.cell (p:=⟨b,o+1,none⟩) hlt).trans h1,(ht.cell (p:=⟨b,o+2,none⟩) hlt).trans h2,(ht.cell (p:=⟨b,o+3,none⟩) hlt).trans h3⟩⟩
structure Ze2 (lo hi:Nat) (w:World) (b off n:Nat) (c:Nat->Nat) (X:Nat->Le):Prop where
 lt:b < w.heap.size
 low:lo<=b
 bc:b < c 0
 bh:b < hi
 mono:∀ i,i < n->c i<=c (i+1)
 top:c n<=hi
 frz:∀ i,w.frozen? ⟨b,i,none⟩=false
 row:∀ i,i < n->Zf4 b (off+i*4) (c i) (c (i+1)) w (X i)
theorem Ze2.le {c:Nat->Nat}{X:Nat->Le} (h:Ze2 lo hi w b off n c X) {i:Nat}:∀ {j:Nat},i<=j->j<=n->c i<=c j:=by
 intro j
 induction j with
 | zero=>intro hij _;have:i=0:=by omega
         subst this;exact Nat.le_refl _
 | succ j ih=>
  intro hij hjn
  by_cases e:i=j+1
  . subst e;exact Nat.le_refl _
  . exact Nat.le_trans (ih (by omega) (by omega)) (h.mono j (by omega))
theorem Ze2.near {c:Nat->Nat}{X:Nat->Le} (h:Ze2 lo hi w b off n c X) {j:Nat} (hj:j < n) (hn:ZbT b (off+j*4) 4 (c j) (c (j+1)) w w') {x:Le} (hx:Zf4 b (off+j*4) (c j) (c (j+1)) w' x):Ze2 lo hi w' b off n c (fun i=>if i=j then x else X i):=by
 refine⟨Zk_ h.lt hn.size,h.low,h.bc,h.bh,h.mono,h.top,fun i=>(hn.frz i).trans (h.frz i),fun i hi'=>?_⟩
 by_cases e:i=j
 . subst e;rw [if_pos rfl];exact hx
 . rw [if_neg e]
   have h0:=h.le (Nat.zero_le i) (by omega);have hbc:=h.bc;refine (h.row i hi').near hn (by omega) ?_ (by omega)
   rcases Nat.lt_or_ge i j with hij | hij
   . exact Or.inl (h.le (by omega) (by omega))
   . exact Or.inr (h.le (by omega) (by omega))
theorem Ze2.touch {c:Nat->Nat}{X:Nat->Le} (h:Ze2 lo hi w b off n c X) (ht:Zag lo' hi' w w') (ho:hi<=lo'\/hi'<=lo):Ze2 lo hi w' b off n c X:=by
 have h1:=h.low;have h2:=h.bh;have h3:=h.top;have h4:=h.bc;refine⟨Zk_ h.lt ht.size,h.low,h.bc,h.bh,h.mono,h.top,fun i=>(ht.frozen (p:=⟨b,i,none⟩) h.lt (by simp only [];omega)).trans (h.frz i),fun i hi'=>?_⟩;have h5:=h.le (Nat.zero_le i) (by omega);have h6:=h.le (i:=i+1) (j:=n) (by omega) Zl_;exact (h.row i hi').touch ht h.lt (by omega) (by omega)
theorem Ze2.below {c:Nat->Nat}{X:Nat->Le} (h:Ze2 lo hi w b off n c X) (ht:Zw_ w w'):Ze2 lo hi w' b off n c X:=
 ⟨Zk_ h.lt ht.size,h.low,h.bc,h.bh,h.mono,h.top,fun i=>(ht.frozen (p:=⟨b,i,none⟩) h.lt).trans (h.frz i),fun i hi'=>(h.row i hi').below ht h.lt⟩
theorem Ze2.to {c:Nat->Nat}{X Y:Nat->Le} (h:Ze2 lo hi w b off n c X) (e:∀ i,i < n->X i=Y i):Ze2 lo hi w b off n c Y:=
 ⟨h.lt,h.low,h.bc,h.bh,h.mono,h.top,h.frz,fun i hi'=>e i hi' ▸ h.row i hi'⟩
def Zck (lo hi:Nat) (w:World) (v:Value) (Xl:List Le):Prop:=
 (∃ (a:Option Addr) (cap:Nat),v=.slice a 0 cap/\Xl=[])\/
 ∃ (b off cap:Nat) (c:Nat->Nat) (X:Nat->Le),v=.slice (some ⟨b,off,none⟩) Xl.length cap/\Xl≠[]/\Xl.length<=maxLen/\Xl.length<=cap/\(∀ i (h:i < Xl.length),X i=Xl[i])/\Ze2 lo hi w b off Xl.length c X
theorem Zck.touch {v:Value} (h:Zck lo hi w v Xl) (ht:Zag lo' hi' w w') (ho:hi<=lo'\/hi'<=lo):Zck lo hi w' v Xl:=by
 rcases h with h | ⟨b,off,cap,c,X,h1,h2,h3,h4,h5,h6⟩
 . exact Or.inl h
 . exact Or.inr ⟨b,off,cap,c,X,h1,h2,h3,h4,h5,h6.touch ht ho⟩
theorem Zck.below {v:Value} (h:Zck lo hi w v Xl) (ht:Zw_ w w'):Zck lo hi w' v Xl:=by
 rcases h with h | ⟨b,off,cap,c,X,h1,h2,h3,h4,h5,h6⟩
 . exact Or.inl h
 . exact Or.inr ⟨b,off,cap,c,X,h1,h2,h3,h4,h5,h6.below ht⟩
theorem Zck.form {v:Value} (h:Zck lo hi w v Xl):∃ a cap,v=.slice a Xl.length cap:=by
 rcases h with ⟨a,cap,h,rfl⟩ | ⟨b,off,cap,c,X,h1,_⟩
 . exact⟨a,cap,h⟩
 . exact⟨_,cap,h1⟩
theorem Zck.at {v:Value} (h:Zck lo hi w v Xl):ZbH lo w v Xl:=by
 rcases h with h | ⟨b,off,cap,c,X,h1,h2,h3,h4,h5,h6⟩
 . exact Or.inl h
 . refine Or.inr ⟨b,off,cap,h1,h2,h3,h6.lt,h6.low,h4,fun i hi'=>?_⟩
   have hr:=h6.row i hi';rw [h5 i hi'] at hr;obtain⟨hs,hc⟩:=hr;exact⟨hs,hc⟩
def ZsP (k:Int) (_x:Le):Le:=⟨mtB (k),mtB (k+1),k+1+1,k+1+1+1⟩
def Ztj (_x:Le):Nat:=4
def Zd6 (Xl:List Le) (i:Nat):Nat:=((Xl.take i).map Ztj).sum
def Znu (k:Int) (Xl:List Le):List Le:=Xl.mapIdx (fun i x=>ZsP (k+(Zd6 Xl i:Int)) x)
theorem ZdJ (k:Int) (Xl:List Le):(Znu k Xl).length=Xl.length:=by unfold Znu;simp
theorem ZpC (k:Int) (Xl:List Le) (i:Nat) (h:i < (Znu k Xl).length) (h':i < Xl.length):(Znu k Xl)[i]=ZsP (k+(Zd6 Xl i:Int)) Xl[i]:=List.getElem_mapIdx (f:=fun i x=>ZsP (k+(Zd6 Xl i:Int)) x) (h:=h)
theorem ZiH {i:Nat} (h:i < Xl.length):Zd6 Xl (i+1)=Zd6 Xl i+Ztj Xl[i]:=by
 unfold Zd6;rw [List.take_succ_eq_append_getElem h,List.map_append,List.sum_append];simp
theorem Zms (hn:ZeO Xl):∀ {i:Nat},i<=Xl.length->Zd6 Xl i<=i*3000000:=by
 intro i
 induction i with
 | zero=>intro _;simp [Zd6]
 | succ i ih=>
  intro hi';have h1:=ih (by omega);rw [ZiH (by omega)]
  have h2:Ztj Xl[i]<=3000000:=by
   have hsm:=hn.2 i (by omega);unfold Zg3 at hsm;unfold Ztj
   omega
  omega
structure ZjN (wr:World) (b o c0 c1:Nat) (v:World) (y:Le):Prop where
 near:ZbT b o 4 c0 c1 wr v
 bc:b < c0
 cells:ZcN v b o y
 frz:∀ i,v.frozen? ⟨b,i,none⟩=false
 lt:b < v.heap.size
theorem ZjN.below {v':World} (h:ZjN wr b o c0 c1 v y) (hb:Below v.heap.size v v'):ZjN wr b o c0 c1 v' y:=
 ⟨h.near.trans (ZbT.below hb h.lt),h.bc,h.cells.below hb h.lt,fun i=>(hb.frozen (p:=⟨b,i,none⟩) h.lt).trans (h.frz i),Zk_ h.lt hb.size⟩
theorem ZjN.s0 (h:ZjN wr b o c0 c1 v y) (u:Zy_):ZjN wr b o c0 c1 (v.setCell ⟨b,o,none⟩ (.string u)) { y with tm:=u }:=by
 obtain⟨h0,h1,h2,h3⟩:=h.cells;have ht:Zag b (b+1) v (v.setCell ⟨b,o,none⟩ (.string u)):=Zag.setCell _ _ _ _ _ ⟨Nat.le_refl _,by simp only [];omega⟩;have hbc:=h.bc;exact⟨h.near.trans (ZbT.set _ _ _ _ _ _ _ _ (by omega) (by omega)),h.bc,⟨World.cell?_setCell_same' _ _ _ (by rw [h0];rfl),(cne (by omega)).trans h1,(cne (by omega)).trans h2,(cne (by omega)).trans h3⟩,fun i=>by rw [World.frozen?_setCell];exact h.frz i,by simpa [World.setCell] using h.lt⟩
theorem ZjN.s1 (h:ZjN wr b o c0 c1 v y) (u:Zy_):ZjN wr b o c0 c1 (v.setCell ⟨b,o+1,none⟩ (.string u)) { y with re:=u }:=by
 obtain⟨h0,h1,h2,h3⟩:=h.cells;have ht:Zag b (b+1) v (v.setCell ⟨b,o+1,none⟩ (.string u)):=Zag.setCell _ _ _ _ _ ⟨Nat.le_refl _,by simp only [];omega⟩;have hbc:=h.bc;exact⟨h.near.trans (ZbT.set _ _ _ _ _ _ _ _ (by omega) (by omega)),h.bc,⟨(cne (by omega)).trans h0,World.cell?_setCell_same' _ _ _ (by rw [h1];rfl),(cne (by omega)).trans h2,(cne (by omega)).trans h3⟩,fun i=>by rw [World.frozen?_setCell];exact h.frz i,by simpa [World.setCell] using h.lt⟩
theorem ZjN.s2 (h:ZjN wr b o c0 c1 v y) (u:Int):ZjN wr b o c0 c1 (v.setCell ⟨b,o+2,none⟩ (.int .i64 u)) { y with mo:=u }:=by
 obtain⟨h0,h1,h2,h3⟩:=h.cells;have ht:Zag b (b+1) v (v.setCell ⟨b,o+2,none⟩ (.int .i64 u)):=Zag.setCell _ _ _ _ _ ⟨Nat.le_refl _,by simp only [];omega⟩;have hbc:=h.bc;exact⟨h.near.trans (ZbT.set _ _ _ _ _ _ _ _ (by omega) (by omega)),h.bc,⟨(cne (by omega)).trans h0,(cne (by omega)).trans h1,World.cell?_setCell_same' _ _ _ (by rw [h2];rfl),(cne (by omega)).trans h3⟩,fun i=>by rw [World.frozen?_setCell];exact h.frz i,by simpa [World.setCell] using h.lt⟩
theorem ZjN.s3 (h:ZjN wr b o c0 c1 v y) (u:Int):ZjN wr b o c0 c1 (v.setCell ⟨b,o+3,none⟩ (.int .i64 u)) { y with fr:=u }:=by
 obtain⟨h0,h1,h2,h3⟩:=h.cells;have ht:Zag b (b+1) v (v.setCell ⟨b,o+3,none⟩ (.int .i64 u)):=Zag.setCell _ _ _ _ _ ⟨Nat.le_refl _,by simp only [];omega⟩;have hbc:=h.bc;exact⟨h.near.trans (ZbT.set _ _ _ _ _ _ _ _ (by omega) (by omega)),h.bc,⟨(cne (by omega)).trans h0,(cne (by omega)).trans h1,(cne (by omega)).trans h2,World.cell?_setCell_same' _ _ _ (by rw [h3];rfl)⟩,fun i=>by rw [World.frozen?_setCell];exact h.frz i,by simpa [World.setCell] using h.lt⟩
end Go.Proofs.YtmappejlmapboaaGreat
