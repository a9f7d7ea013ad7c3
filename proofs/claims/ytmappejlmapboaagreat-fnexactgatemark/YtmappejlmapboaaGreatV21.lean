import Derived.Test.YtmappejlmapboaaGreatV20
set_option maxHeartbeats 16000000
set_option maxRecDepth 100000
open Go.Proofs.Tryz
namespace Go.Proofs.YtmappejlmapboaaGreat
open Go.RowKit Go.Deep Go.Shelf Go.Maps
attribute [local go_sem] Oper.semAt_some
abbrev Tie:=Nat×Int×Zy_×Zy_
def Zfs (k:Nat) (f:Fd) (s:Zy_):List Tie:=if (f.kd == 4&&!s.toList.isEmpty)=true then [(k,f.ro,f.to,s)] else []
def Zdw (Fs:List Fd) (V:List Zy_):Nat->List Tie
 | 0=>[]
 | k+1=>Zdw Fs V k ++ (match Fs[k]?,V[k]? with | some f,some s=>Zfs k f s | _,_=>[])
theorem Zg5 {Fs:List Fd}{V:List Zy_}{k:Nat} (hf:k < Fs.length) (hv:k < V.length):Zdw Fs V (k+1)=Zdw Fs V k ++ Zfs k Fs[k] V[k]:=by
 rw [Zdw];simp [hf,hv]
theorem Zgr (Fs:List Fd) (V:List Zy_) (k:Nat):(Zdw Fs V k).length<=k:=by
 induction k with
 | zero=>simp [Zdw]
 | succ k ih=>
  rw [Zdw,List.length_append]
  split
  . unfold Zfs
    split
    . simp;omega
    . simp;omega
  . simp;omega
abbrev Zsm (x:Tie):Array Value:=#[.agg #[.int .i64 x.1,.int .i64 x.2.1,.string (Zd3 x.2.2.1),.string (Zd3 x.2.2.2)]]
section
variable (lo:Nat) (sk:Zy_) (fv:Value) (Fs:List Fd) (kind nm team:Zy_) (vv hv:Value) (en:Bool) (ver:Int) (V Ho:List Zy_) (w:World)
theorem ZoE (F:Fence) (n:Nat) (hf:F.fn 190) (hro:F.round=none) (a:Option Addr) (ln cap:Nat) (va:Option Addr) (vn vcap:Nat) (ha:Option Addr) (hn hcap:Nat) :
 CallsIn F n prog 190 #[.agg #[.string sk,.slice a ln cap],.agg #[.string kind,.string nm,.string team,.slice va vn vcap,.bool en,.slice ha hn hcap,.int .i64 ver]] w
  fun e w'=>e=.returned (.func (.func 227) #[] #[.pointer (some ⟨w.heap.size,0,none⟩),.pointer (some ⟨w.heap.size+1,0,none⟩)])/\
   w'=(w.alloc (.cells #[.string sk,.slice a ln cap] 131)).alloc (.cells #[.string kind,.string nm,.string team,.slice va vn vcap,.bool en,.slice ha hn hcap,.int .i64 ver] 128):=by
 refine callsIn_of_wp func190 rfl hf ?_ hro;simp only [ntmps190,List.size_toArray,List.length_cons,List.length_nil,Nat.reduceAdd,Nat.reduceSub,Array.replicate_succ,Array.replicate_zero,List.push_toArray,List.append_toArray,List.nil_append,List.cons_append]
 gi_wp2
 go_ret;exact⟨rfl,rfl⟩
theorem Zh0 (n:Nat) (hn:1<=n) (S:Nat->Prop) (w0:World) (B1 B2:Nat) (h0:Below w0.heap.size w0 w) (hF:Zau lo w0 fv Fs) (hV:Zaf w0 vv V) (hl:Fs.length=V.length) (n1:Fs.length<=1048576)
 (s0:∀ k,k < w0.heap.size->¬ S k) (s2:¬ S B2)
 (hX1:Box w B1 #[.string sk,fv]) (hX2:Box w B2 #[.string kind,.string nm,.string team,vv,.bool en,hv,.int .i64 ver]) :
 SeqStopsK Fence.wide n prog 227 #[.pointer (some ⟨B1,0,none⟩),.pointer (some ⟨B2,0,none⟩)] Zsm (ZaD S w.heap.size) (fun xs=>xs=Zdw Fs V Fs.length) (fun xs=>∃ k,k<=Fs.length/\xs=Zdw Fs V k) Fs.length w:=by
 intro l J Jx W hW hJ hJx hY hJ0;have HF:=Zab hF;have HV:=Zab hV;obtain⟨fa,fcap,rfl⟩:=hF.form;obtain⟨va,vcap,rfl⟩:=hV.form';have H0:=Zab (h0.trans (hW.mono h0.size));have x1:=(hX1.below hW hX1.lt).cell 1;have HO:=Zab (hX2.below hW hX2.lt);have hw:w.heap.size<=W.heap.size:=hW.size;have hw0:w0.heap.size<=w.heap.size:=h0.size;have HJ:=Zab hJ;have HJX:=Zab hJx;have HY:=Zab hY;have HL:=Zab hl;have S0:=Zab s0;have S2:=Zab s2;have HJ0:=Zab hJ0;simp at x1;clear hF hV h0 hW hX1 hX2 hJ hJx hY s0 s2 hJ0 hl;refine callsIn_of_wp func227 rfl trivial ?_ rfl;simp only [ntmps227,List.size_toArray,List.length_cons,List.length_nil,Nat.reduceAdd,Nat.reduceSub,Array.replicate_succ,Array.replicate_zero,List.push_toArray,List.append_toArray,List.nil_append,List.cons_append];have o3:=HO.o.cell 3;have olt:=HO.o.lt;simp at o3
 gi_wp2
 gi_loopw [9] (fun i wr=>∃ k:Nat,i=.int .i64 k/\k<=Fs.length/\J (Zdw Fs V k) wr/\Below w0.heap.size w0 wr/\wr.cell? ⟨B2,3,none⟩=some (.slice va V.length vcap)/\B2 < wr.heap.size/\w.heap.size<=wr.heap.size)
  (fun i _=>Fs.length - (intOf i).toNat)
 case atStart=>exact⟨0,rfl,Nat.zero_le _,HJ0.o,H0.o,o3,olt,hw⟩
 case round=>
  clear o3 olt hw x1;obtain⟨k,rfl,hkl,hJk,hBk,q3,qlt,qw⟩:=hrel;have HJK:=Zab hJk;have HBK:=Zab hBk;clear hJk hBk
  by_cases hlt:k < Fs.length
  . have hlv:k < V.length:=by have:=HL.o;omega
    obtain⟨fb,foff,rfl,hfb,hfc⟩:=HF.o.full' (by omega);obtain⟨hsz,wv,hcell,hst⟩:=hfc k hlt;obtain⟨c0,c1,c2,c3,c4,c5,c6,c7,c8,c9,c10⟩:=hcell.below HBK.o hfb;obtain⟨wa,wn,wcap,rfl⟩:=hst.form;obtain⟨vb,voff,rfl,hvb,hvc,hvs⟩:=HV.o.spread (by omega);have hvk:wr.cell? ⟨vb,voff+k,none⟩=some (.string V[k]):=(HBK.o.cell (p:=⟨vb,voff+k,none⟩) hvb).trans (hvc k hlv);have hvz:V[k].size<=maxLen:=hvs _ (List.getElem_mem hlv);have hto:=hsz.s5;have HST:=Zab (Zg5 hlt hlv);have HTO:Hd (Zfs k Fs[k] V[k]=if (Fs[k].kd == 4&&!V[k].toList.isEmpty)=true then [(k,Fs[k].ro,Fs[k].to,V[k])] else []):=rfl;clear hfc hcell hst hvc hvs hsz
    obtain⟨Wb,hWb,hvk',q3',f5,f6,HA,HAB,hzb⟩:∃ Wb,Wb=wr.alloc (.cells #[.string Fs[k].nm,.int .i64 Fs[k].kd,.int .i64 Fs[k].le,.int .i64 Fs[k].mo,.slice wa wn wcap,.string Fs[k].to,.int .i64 Fs[k].ro,.bool Fs[k].mu,.bool Fs[k].fx,.string Fs[k].df,.string Fs[k].we] 178)/\
     Wb.cell? ⟨vb,voff+k,none⟩=some (.string V[k])/\Wb.cell? ⟨B2,3,none⟩=some (.slice (some ⟨vb,voff,none⟩) V.length vcap)/\Wb.cell? ⟨wr.heap.size,5,none⟩=some (.string Fs[k].to)/\Wb.cell? ⟨wr.heap.size,6,none⟩=some (.int .i64 Fs[k].ro)/\
     Hd (J (Zdw Fs V k) Wb)/\Hd (Below w0.heap.size w0 Wb)/\Wb.heap.size=wr.heap.size+1:=by
     refine⟨_,rfl,(Zaj _ _ _ _ (Zk_ hvb HBK.o.size)).trans hvk,(Zaj _ _ _ _ qlt).trans q3,Zbb _ _ _ _ 5 rfl,Zbb _ _ _ _ 6 rfl,Zbm HJ.o HJK.o (Zac _ _),HBK.o.trans ((Zac _ _).mono HBK.o.size),by simp⟩
    cases hk1:(Fs[k].kd == 4) with
    | false=>
     have hk1':(Fs[k].kd != 4)=true:=by simp [bne,hk1]
     have HE2:Hd (Zdw Fs V (k+1)=Zdw Fs V k):=by unfold Hd;rw [HST.o,HTO.o,hk1];simp
     gi_wp2
     rw [<- hWb];clear hWb;go_roundw
     . exact⟨k+1,by go_num,by omega,by rw [HE2.o];exact HA.o,HAB.o,q3',by omega,by omega⟩
     . simp [intOf];omega
    | true=>
     have hk1':(Fs[k].kd != 4)=false:=by simp [bne,hk1]
     cases hk2:V[k].toList.isEmpty with
     | true=>
      have HE2:Hd (Zdw Fs V (k+1)=Zdw Fs V k):=by unfold Hd;rw [HST.o,HTO.o,hk1,hk2];simp
      have hvk2:∀ o,(wr.alloc o).cell? ⟨vb,voff+k,none⟩=some (.string V[k]):=fun o=>(Zaj _ _ _ _ (Zk_ hvb HBK.o.size)).trans hvk
      have q32:∀ o,(wr.alloc o).cell? ⟨B2,3,none⟩=some (.slice (some ⟨vb,voff,none⟩) V.length vcap):=fun o=>(Zaj _ _ _ _ qlt).trans q3
      gi_wp2
      rw [<- hWb];clear hWb;go_roundw
      . exact⟨k+1,by go_num,by omega,by rw [HE2.o];exact HA.o,HAB.o,q3',by omega,by omega⟩
      . simp [intOf];omega
     | false=>
      have HE2:Hd (Zdw Fs V (k+1)=Zdw Fs V k ++ [(k,Fs[k].ro,Fs[k].to,V[k])]):=by unfold Hd;rw [HST.o,HTO.o,hk1,hk2];simp
      have hpl:(Zdw Fs V k).length < Fs.length:=by have:=Zgr Fs V k;omega
      have HAD:Hd (J (Zdw Fs V k) Wb.drew):=Zbm HJ.o HA.o Zb_.drew;obtain⟨fn,tmps,assign,body,hy,hR⟩:=HY.o _ (k,Fs[k].ro,Fs[k].to,V[k]) _ HAD.o hpl;dsimp only [Zsm] at hy;rw [Zd5 hto,Zd5 hvz] at hy;have HR:=Zab hR;have hvk2:∀ o,(wr.alloc o).cell? ⟨vb,voff+k,none⟩=some (.string V[k]):=fun o=>(Zaj _ _ _ _ (Zk_ hvb HBK.o.size)).trans hvk
      have q32:∀ o,(wr.alloc o).cell? ⟨B2,3,none⟩=some (.slice (some ⟨vb,voff,none⟩) V.length vcap):=fun o=>(Zaj _ _ _ _ qlt).trans q3
      clear hR hpl
      gi_wp2
      rw [<- hWb];clear hWb hvk2 q32 hvk
      have HR2:Hd (RoundIn Fence.wide (n - 1) prog l fn tmps assign body Wb.drew fun e W'=>∃ r:Bool,e=.returned (.bool r)/\((r=true/\J (Zdw Fs V k ++ [(k,Fs[k].ro,Fs[k].to,V[k])]) W'/\ZaD S w.heap.size Wb.drew W')\/(r=false/\Jx (Zdw Fs V k ++ [(k,Fs[k].ro,Fs[k].to,V[k])]) W'))):=by
       refine HR.o.mono ?_;rintro e W' (⟨rfl,h1,h2⟩ | ⟨rfl,h1⟩)
       . exact⟨true,rfl,.inl ⟨rfl,h1,h2⟩⟩
       . exact⟨false,rfl,.inr ⟨rfl,h1⟩⟩
      have HK0:Hd (k+1<=Fs.length/\Zdw Fs V k ++ [(k,Fs[k].ro,Fs[k].to,V[k])]=Zdw Fs V (k+1)):=⟨by omega,HE2.o.symm⟩
      gi_region_with (refine HR2.o.mono ?_;rintro e W3 ⟨r,rfl,hP⟩)
      all_goals clear HR HR2 hy HY HJ HJX hvk' f5 f6
      all_goals
       rcases hP with ⟨rfl,hJ3,hk3⟩ | ⟨rfl,hJx3⟩
       . have HJ3:=Zab hJ3
         have r3:W3.cell? ⟨B2,3,none⟩=some (.slice (some ⟨vb,voff,none⟩) V.length vcap):=hk3.cell (show Wb.drew.cell? _=_ from q3') S2.o;have rB:Hd (Below w0.heap.size w0 W3):=HAB.o.drew.trans (hk3.below HAB.o.size S0.o hw0);have rz:=hk3.size;have rz':Wb.drew.heap.size=wr.heap.size+1:=hzb;clear hk3 hJ3
         gi_wp2
         go_roundw
         . exact⟨k+1,by go_num,by omega,by rw [HE2.o];exact HJ3.o,rB.o,r3,by omega,by omega⟩
         . simp [intOf];omega
       . have HX3:=Zab hJx3
         clear hJx3
         gi_wp2
         refine bodyPost_ret (results_none rfl _ _ _) rfl ?_;exact⟨⟨_,rfl⟩,.inr ⟨_,⟨k+1,HK0.o.1,HK0.o.2⟩,HX3.o⟩⟩
  . have he:k=Fs.length:=by omega
    subst he
    gi_wp2
    go_end0
    exact⟨⟨_,rfl⟩,.inl ⟨_,rfl,HJK.o⟩⟩
end
end Go.Proofs.YtmappejlmapboaaGreat
