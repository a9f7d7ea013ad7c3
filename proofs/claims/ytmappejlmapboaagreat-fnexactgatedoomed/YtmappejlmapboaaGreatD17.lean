import Derived.Test.YtmappejlmapboaaGreatD16
set_option maxHeartbeats 16000000
set_option maxRecDepth 100000
open Go.Proofs.Tryz
namespace Go.Proofs.YtmappejlmapboaaGreat
section
open Go.RowKit Go.Deep Go.Shelf Go.Maps
attribute [local go_sem] Oper.semAt_some
abbrev Tie:=Nat×Int×Zy_×Zy_
def Zfw (k:Nat) (f:Fd) (s:Zy_):List Tie:=if (f.kd == 4&&!s.toList.isEmpty)=true then [(k,f.ro,f.to,s)] else []
def Zdu (Fs:List Fd) (V:List Zy_):Nat->List Tie
 | 0=>[]
 | k+1=>Zdu Fs V k ++ (match Fs[k]?,V[k]? with | some f,some s=>Zfw k f s | _,_=>[])
theorem Zih {Fs:List Fd}{V:List Zy_}{k:Nat} (hf:k < Fs.length) (hv:k < V.length):Zdu Fs V (k+1)=Zdu Fs V k ++ Zfw k Fs[k] V[k]:=by
 rw [Zdu];simp [hf,hv]
theorem Zgh (Fs:List Fd) (V:List Zy_) (k:Nat):(Zdu Fs V k).length<=k:=by
 induction k with
 | zero=>simp [Zdu]
 | succ k ih=>
  rw [Zdu,List.length_append]
  split
  . unfold Zfw
    split
    . simp;omega
    . simp;omega
  . simp;omega
abbrev Zuy (x:Tie):Array Value:=#[.agg #[.int .i64 x.1,.int .i64 x.2.1,.string (Zc5 x.2.2.1),.string (Zc5 x.2.2.2)]]
section
variable (lo:Nat) (sk:Zy_) (fv:Value) (Fs:List Fd) (kind nm team:Zy_) (vv hv:Value) (en:Bool) (ver:Int) (V Ho:List Zy_) (w:World)
theorem Zri (F:Fence) (n:Nat) (hf:F.fn 190) (hro:F.round=none) (a:Option Addr) (ln cap:Nat) (va:Option Addr) (vn vcap:Nat) (ha:Option Addr) (hn hcap:Nat) :
 CallsIn F n prog 190 #[.agg #[.string sk,.slice a ln cap],.agg #[.string kind,.string nm,.string team,.slice va vn vcap,.bool en,.slice ha hn hcap,.int .i64 ver]] w
  fun e w'=>e=.returned (.func (.func 227) #[] #[.pointer (some ⟨w.heap.size,0,none⟩),.pointer (some ⟨w.heap.size+1,0,none⟩)])/\
   w'=(w.alloc (.cells #[.string sk,.slice a ln cap] 131)).alloc (.cells #[.string kind,.string nm,.string team,.slice va vn vcap,.bool en,.slice ha hn hcap,.int .i64 ver] 128):=by
 refine callsIn_of_wp func190 rfl hf ?_ hro;simp only [ntmps190,List.size_toArray,List.length_cons,List.length_nil,Nat.reduceAdd,Nat.reduceSub,Array.replicate_succ,Array.replicate_zero,List.push_toArray,List.append_toArray,List.nil_append,List.cons_append]
 gi_wp2
 go_ret;exact⟨rfl,rfl⟩
theorem ZgO (n:Nat) (hn:1<=n) (S:Nat->Prop) (w0:World) (B1 B2:Nat) (h0:Below w0.heap.size w0 w) (hF:Zau lo w0 fv Fs) (hV:Zaf w0 vv V) (hl:Fs.length=V.length) (n1:Fs.length<=1048576)
 (s0:∀ k,k < w0.heap.size->¬ S k) (s2:¬ S B2)
 (hX1:Box w B1 #[.string sk,fv]) (hX2:Box w B2 #[.string kind,.string nm,.string team,vv,.bool en,hv,.int .i64 ver]) :
 SeqStopsK Fence.wide n prog 227 #[.pointer (some ⟨B1,0,none⟩),.pointer (some ⟨B2,0,none⟩)] Zuy (Zay S w.heap.size) (fun xs=>xs=Zdu Fs V Fs.length) (fun xs=>∃ k,k<=Fs.length/\xs=Zdu Fs V k) Fs.length w:=by
 intro l J Jx W hW hJ hJx hY hJ0;have HF:=Zab hF;have HV:=Zab hV;obtain⟨fa,fcap,rfl⟩:=hF.form;obtain⟨va,vcap,rfl⟩:=hV.form';have H0:=Zab (h0.trans (hW.mono h0.size));have x1:=(hX1.below hW hX1.lt).cell 1;have HO:=Zab (hX2.below hW hX2.lt);have hw:w.heap.size<=W.heap.size:=hW.size;have hw0:w0.heap.size<=w.heap.size:=h0.size;have HJ:=Zab hJ;have HJX:=Zab hJx;have HY:=Zab hY;have HL:=Zab hl;have S0:=Zab s0;have S2:=Zab s2;have HJ0:=Zab hJ0;simp at x1;clear hF hV h0 hW hX1 hX2 hJ hJx hY s0 s2 hJ0 hl;refine callsIn_of_wp func227 rfl trivial ?_ rfl;simp only [ntmps227,List.size_toArray,List.length_cons,List.length_nil,Nat.reduceAdd,Nat.reduceSub,Array.replicate_succ,Array.replicate_zero,List.push_toArray,List.append_toArray,List.nil_append,List.cons_append];have o3:=HO.o.cell 3;have olt:=HO.o.lt;simp at o3
 gi_wp2
 gi_loopw [9] (fun i wr=>∃ k:Nat,i=.int .i64 k/\k<=Fs.length/\J (Zdu Fs V k) wr/\Below w0.heap.size w0 wr/\wr.cell? ⟨B2,3,none⟩=some (.slice va V.length vcap)/\B2 < wr.heap.size/\w.heap.size<=wr.heap.size)
  (fun i _=>Fs.length - (intOf i).toNat)
 case atStart=>exact⟨0,rfl,Nat.zero_le _,HJ0.o,H0.o,o3,olt,hw⟩
 case round=>
  clear o3 olt hw x1;obtain⟨k,rfl,hkl,hJk,hBk,q3,qlt,qw⟩:=hrel;have HJK:=Zab hJk;have HBK:=Zab hBk;clear hJk hBk
  by_cases hlt:k < Fs.length
  . have hlv:k < V.length:=by have:=HL.o;omega
    obtain⟨fb,foff,rfl,hfb,hfc⟩:=HF.o.full' (by omega);obtain⟨hsz,wv,hcell,hst⟩:=hfc k hlt;obtain⟨c0,c1,c2,c3,c4,c5,c6,c7,c8,c9,c10⟩:=hcell.below HBK.o hfb;obtain⟨wa,wn,wcap,rfl⟩:=hst.form;obtain⟨vb,voff,rfl,hvb,hvc,hvs⟩:=HV.o.spread (by omega);have hvk:wr.cell? ⟨vb,voff+k,none⟩=some (.string V[k]):=(HBK.o.cell (p:=⟨vb,voff+k,none⟩) hvb).trans (hvc k hlv);have hvz:V[k].size<=maxLen:=hvs _ (List.getElem_mem hlv);have hto:=hsz.s5;have HST:=Zab (Zih hlt hlv);have HTO:Hd (Zfw k Fs[k] V[k]=if (Fs[k].kd == 4&&!V[k].toList.isEmpty)=true then [(k,Fs[k].ro,Fs[k].to,V[k])] else []):=rfl;clear hfc hcell hst hvc hvs hsz
    obtain⟨Wb,hWb,hvk',q3',f5,f6,HA,HAB,hzb⟩:∃ Wb,Wb=wr.alloc (.cells #[.string Fs[k].nm,.int .i64 Fs[k].kd,.int .i64 Fs[k].le,.int .i64 Fs[k].mo,.slice wa wn wcap,.string Fs[k].to,.int .i64 Fs[k].ro,.bool Fs[k].mu,.bool Fs[k].fx,.string Fs[k].df,.string Fs[k].we] 178)/\
     Wb.cell? ⟨vb,voff+k,none⟩=some (.string V[k])/\Wb.cell? ⟨B2,3,none⟩=some (.slice (some ⟨vb,voff,none⟩) V.length vcap)/\Wb.cell? ⟨wr.heap.size,5,none⟩=some (.string Fs[k].to)/\Wb.cell? ⟨wr.heap.size,6,none⟩=some (.int .i64 Fs[k].ro)/\
     Hd (J (Zdu Fs V k) Wb)/\Hd (Below w0.heap.size w0 Wb)/\Wb.heap.size=wr.heap.size+1:=by
     refine⟨_,rfl,(Zaj _ _ _ _ (Zk_ hvb HBK.o.size)).trans hvk,(Zaj _ _ _ _ qlt).trans q3,ZaJ _ _ _ _ 5 rfl,ZaJ _ _ _ _ 6 rfl,Zbu HJ.o HJK.o (Zac _ _),HBK.o.trans ((Zac _ _).mono HBK.o.size),by simp⟩
    cases hk1:(Fs[k].kd == 4) with
    | false=>
     have hk1':(Fs[k].kd != 4)=true:=by simp [bne,hk1]
     have HE2:Hd (Zdu Fs V (k+1)=Zdu Fs V k):=by unfold Hd;rw [HST.o,HTO.o,hk1];simp
     gi_wp2
     rw [<- hWb];clear hWb;go_roundw
     . exact⟨k+1,by go_num,by omega,by rw [HE2.o];exact HA.o,HAB.o,q3',by omega,by omega⟩
     . simp [intOf];omega
    | true=>
     have hk1':(Fs[k].kd != 4)=false:=by simp [bne,hk1]
     cases hk2:V[k].toList.isEmpty with
     | true=>
      have HE2:Hd (Zdu Fs V (k+1)=Zdu Fs V k):=by unfold Hd;rw [HST.o,HTO.o,hk1,hk2];simp
      have hvk2:∀ o,(wr.alloc o).cell? ⟨vb,voff+k,none⟩=some (.string V[k]):=fun o=>(Zaj _ _ _ _ (Zk_ hvb HBK.o.size)).trans hvk
      have q32:∀ o,(wr.alloc o).cell? ⟨B2,3,none⟩=some (.slice (some ⟨vb,voff,none⟩) V.length vcap):=fun o=>(Zaj _ _ _ _ qlt).trans q3
      gi_wp2
      rw [<- hWb];clear hWb;go_roundw
      . exact⟨k+1,by go_num,by omega,by rw [HE2.o];exact HA.o,HAB.o,q3',by omega,by omega⟩
      . simp [intOf];omega
     | false=>
      have HE2:Hd (Zdu Fs V (k+1)=Zdu Fs V k ++ [(k,Fs[k].ro,Fs[k].to,V[k])]):=by unfold Hd;rw [HST.o,HTO.o,hk1,hk2];simp
      have hpl:(Zdu Fs V k).length < Fs.length:=by have:=Zgh Fs V k;omega
      have HAD:Hd (J (Zdu Fs V k) Wb.drew):=Zbu HJ.o HA.o Zb_.drew;obtain⟨fn,tmps,assign,body,hy,hR⟩:=HY.o _ (k,Fs[k].ro,Fs[k].to,V[k]) _ HAD.o hpl;dsimp only [Zuy] at hy;rw [ZeO hto,ZeO hvz] at hy;have HR:=Zab hR;have hvk2:∀ o,(wr.alloc o).cell? ⟨vb,voff+k,none⟩=some (.string V[k]):=fun o=>(Zaj _ _ _ _ (Zk_ hvb HBK.o.size)).trans hvk
      have q32:∀ o,(wr.alloc o).cell? ⟨B2,3,none⟩=some (.slice (some ⟨vb,voff,none⟩) V.length vcap):=fun o=>(Zaj _ _ _ _ qlt).trans q3
      clear hR hpl
      gi_wp2
      rw [<- hWb];clear hWb hvk2 q32 hvk
      have HR2:Hd (RoundIn Fence.wide (n - 1) prog l fn tmps assign body Wb.drew fun e W'=>∃ r:Bool,e=.returned (.bool r)/\((r=true/\J (Zdu Fs V k ++ [(k,Fs[k].ro,Fs[k].to,V[k])]) W'/\Zay S w.heap.size Wb.drew W')\/(r=false/\Jx (Zdu Fs V k ++ [(k,Fs[k].ro,Fs[k].to,V[k])]) W'))):=by
       refine HR.o.mono ?_;rintro e W' (⟨rfl,h1,h2⟩ | ⟨rfl,h1⟩)
       . exact⟨true,rfl,.inl ⟨rfl,h1,h2⟩⟩
       . exact⟨false,rfl,.inr ⟨rfl,h1⟩⟩
      have HK0:Hd (k+1<=Fs.length/\Zdu Fs V k ++ [(k,Fs[k].ro,Fs[k].to,V[k])]=Zdu Fs V (k+1)):=⟨by omega,HE2.o.symm⟩
      gi_region_with (refine HR2.o.mono ?_;rintro e W3 ⟨r,rfl,hP⟩)
      all_goals clear HR HR2 hy HY HJ HJX hvk' f5 f6
      all_goals
       rcases hP with ⟨rfl,hJ3,hk3⟩ | ⟨rfl,hJx3⟩
       . have HJ3:=Zab hJ3
         have r3:W3.cell? ⟨B2,3,none⟩=some (.slice (some ⟨vb,voff,none⟩) V.length vcap):=hk3.cell (show Wb.drew.cell? _=_ from q3') S2.o;have rB:Hd (Below w0.heap.size w0 W3):=HAB.o.drew.trans (hk3.below HAB.o.size S0.o hw0);have rz:=hk3.size;have rz':Wb.drew.heap.size=wr.heap.size+1:=hzb;clear hk3 hJ3
         gi_wp2
         go_roundw
         . exact⟨k+1,by go_num,by omega,by rw [HE2.o];exact HJ3.o,rB.o,r3,by omega,by omega⟩
         . simp [intOf];omega
       . have HX3:=Zab hJx3
         clear hJx3
         gi_wp2
         refine bodyPost_ret (results_none rfl _ _ _) rfl ?_;exact⟨⟨_,rfl⟩,.inr ⟨_,⟨k+1,HK0.o.1,HK0.o.2⟩,HX3.o⟩⟩
  . have he:k=Fs.length:=by omega
    subst he
    gi_wp2
    go_end0
    exact⟨⟨_,rfl⟩,.inl ⟨_,rfl,HJK.o⟩⟩
end
end
section
open Go.RowKit Go.Deep
variable {b o c0 c1 lo hi off n lo' hi':Nat} {w w' v wr:World} {x y:Le} {Xl:List Le}
def Zgq (b o _c0 _c1:Nat) (w:World) (x:Le):Prop:=ZeG x/\ZcT w b o x
theorem Zgq.near {o1 d0 d1:Nat} (h:Zgq b o c0 c1 w x) (hn:ZbV b o1 4 d0 d1 w w') (ho:o+4<=o1\/o1+4<=o) (hi:c1<=d0\/d1<=c0) (hb:b < c0\/c1<=b):Zgq b o c0 c1 w' x:=by
 obtain⟨hs,hc⟩:=h;obtain⟨h0,h1,h2,h3⟩:=hc;have e:∀ t,t < 4->w'.cell? ⟨b,o+t,none⟩=w.cell? ⟨b,o+t,none⟩:=fun t ht=>hn.cell _ (by omega)
 have e0:w'.cell? ⟨b,o,none⟩=w.cell? ⟨b,o,none⟩:=hn.cell _ (by omega);exact⟨hs,⟨e0.trans h0,(e 1 (by omega)).trans h1,(e 2 (by omega)).trans h2,(e 3 (by omega)).trans h3⟩⟩
theorem Zgq.touch (h:Zgq b o c0 c1 w x) (ht:Zag lo hi w w') (hlt:b < w.heap.size) (hb:b < lo\/hi<=b) (_hi:c1<=lo\/hi<=c0):Zgq b o c0 c1 w' x:=by
 obtain⟨hs,hc⟩:=h;obtain⟨h0,h1,h2,h3⟩:=hc;exact⟨hs,⟨(ht.cell (p:=⟨b,o,none⟩) hlt hb).trans h0,(ht.cell (p:=⟨b,o+1,none⟩) hlt hb).trans h1,(ht.cell (p:=⟨b,o+2,none⟩) hlt hb).trans h2,(ht.cell (p:=⟨b,o+3,none⟩) hlt hb).trans h3⟩⟩
theorem Zgq.below (h:Zgq b o c0 c1 w x) (ht:Zw_ w w') (hlt:b < w.heap.size):Zgq b o c0 c1 w' x:=by
 obtain⟨hs,hc⟩:=h;obtain⟨h0,h1,h2,h3⟩:=hc;exact⟨hs,⟨(ht.cell (p:=⟨b,o,none⟩) hlt).trans h0,(ht.cell (p:=⟨b,o+1,none⟩) hlt).trans h1,(ht.cell (p:=⟨b,o+2,none⟩) hlt).trans h2,(ht.cell (p:=⟨b,o+3,none⟩) hlt).trans h3⟩⟩
structure Zfh (lo hi:Nat) (w:World) (b off n:Nat) (c:Nat->Nat) (X:Nat->Le):Prop where
 lt:b < w.heap.size
 low:lo<=b
 bc:b < c 0
 bh:b < hi
 mono:∀ i,i < n->c i<=c (i+1)
 top:c n<=hi
 frz:∀ i,w.frozen? ⟨b,i,none⟩=false
 row:∀ i,i < n->Zgq b (off+i*4) (c i) (c (i+1)) w (X i)
theorem Zfh.le {c:Nat->Nat}{X:Nat->Le} (h:Zfh lo hi w b off n c X) {i:Nat}:∀ {j:Nat},i<=j->j<=n->c i<=c j:=by
 intro j
 induction j with
 | zero=>intro hij _;have:i=0:=by omega
         subst this;exact Nat.le_refl _
 | succ j ih=>
  intro hij hjn
  by_cases e:i=j+1
  . subst e;exact Nat.le_refl _
  . exact Nat.le_trans (ih (by omega) (by omega)) (h.mono j (by omega))
theorem Zfh.near {c:Nat->Nat}{X:Nat->Le} (h:Zfh lo hi w b off n c X) {j:Nat} (hj:j < n) (hn:ZbV b (off+j*4) 4 (c j) (c (j+1)) w w') {x:Le} (hx:Zgq b (off+j*4) (c j) (c (j+1)) w' x):Zfh lo hi w' b off n c (fun i=>if i=j then x else X i):=by
 refine⟨Zk_ h.lt hn.size,h.low,h.bc,h.bh,h.mono,h.top,fun i=>(hn.frz i).trans (h.frz i),fun i hi'=>?_⟩
 by_cases e:i=j
 . subst e;rw [if_pos rfl];exact hx
 . rw [if_neg e]
   have h0:=h.le (Nat.zero_le i) (by omega);have hbc:=h.bc;refine (h.row i hi').near hn (by omega) ?_ (by omega)
   rcases Nat.lt_or_ge i j with hij | hij
   . exact Or.inl (h.le (by omega) (by omega))
   . exact Or.inr (h.le (by omega) (by omega))
theorem Zfh.touch {c:Nat->Nat}{X:Nat->Le} (h:Zfh lo hi w b off n c X) (ht:Zag lo' hi' w w') (ho:hi<=lo'\/hi'<=lo):Zfh lo hi w' b off n c X:=by
 have h1:=h.low;have h2:=h.bh;have h3:=h.top;have h4:=h.bc;refine⟨Zk_ h.lt ht.size,h.low,h.bc,h.bh,h.mono,h.top,fun i=>(ht.frozen (p:=⟨b,i,none⟩) h.lt (by simp only [];omega)).trans (h.frz i),fun i hi'=>?_⟩;have h5:=h.le (Nat.zero_le i) (by omega);have h6:=h.le (i:=i+1) (j:=n) (by omega) Zl_;exact (h.row i hi').touch ht h.lt (by omega) (by omega)
theorem Zfh.below {c:Nat->Nat}{X:Nat->Le} (h:Zfh lo hi w b off n c X) (ht:Zw_ w w'):Zfh lo hi w' b off n c X:=
 ⟨Zk_ h.lt ht.size,h.low,h.bc,h.bh,h.mono,h.top,fun i=>(ht.frozen (p:=⟨b,i,none⟩) h.lt).trans (h.frz i),fun i hi'=>(h.row i hi').below ht h.lt⟩
theorem Zfh.to {c:Nat->Nat}{X Y:Nat->Le} (h:Zfh lo hi w b off n c X) (e:∀ i,i < n->X i=Y i):Zfh lo hi w b off n c Y:=
 ⟨h.lt,h.low,h.bc,h.bh,h.mono,h.top,h.frz,fun i hi'=>e i hi' ▸ h.row i hi'⟩
def Zco (lo hi:Nat) (w:World) (v:Value) (Xl:List Le):Prop:=
 (∃ (a:Option Addr) (cap:Nat),v=.slice a 0 cap/\Xl=[])\/
 ∃ (b off cap:Nat) (c:Nat->Nat) (X:Nat->Le),v=.slice (some ⟨b,off,none⟩) Xl.length cap/\Xl≠[]/\Xl.length<=maxLen/\Xl.length<=cap/\(∀ i (h:i < Xl.length),X i=Xl[i])/\Zfh lo hi w b off Xl.length c X
theorem Zco.touch {v:Value} (h:Zco lo hi w v Xl) (ht:Zag lo' hi' w w') (ho:hi<=lo'\/hi'<=lo):Zco lo hi w' v Xl:=by
 rcases h with h | ⟨b,off,cap,c,X,h1,h2,h3,h4,h5,h6⟩
 . exact Or.inl h
 . exact Or.inr ⟨b,off,cap,c,X,h1,h2,h3,h4,h5,h6.touch ht ho⟩
theorem Zco.below {v:Value} (h:Zco lo hi w v Xl) (ht:Zw_ w w'):Zco lo hi w' v Xl:=by
 rcases h with h | ⟨b,off,cap,c,X,h1,h2,h3,h4,h5,h6⟩
 . exact Or.inl h
 . exact Or.inr ⟨b,off,cap,c,X,h1,h2,h3,h4,h5,h6.below ht⟩
theorem Zco.form {v:Value} (h:Zco lo hi w v Xl):∃ a cap,v=.slice a Xl.length cap:=by
 rcases h with ⟨a,cap,h,rfl⟩ | ⟨b,off,cap,c,X,h1,_⟩
 . exact⟨a,cap,h⟩
 . exact⟨_,cap,h1⟩
theorem Zco.at {v:Value} (h:Zco lo hi w v Xl):ZbJ lo w v Xl:=by
 rcases h with h | ⟨b,off,cap,c,X,h1,h2,h3,h4,h5,h6⟩
 . exact Or.inl h
 . refine Or.inr ⟨b,off,cap,h1,h2,h3,h6.lt,h6.low,h4,fun i hi'=>?_⟩
   have hr:=h6.row i hi';rw [h5 i hi'] at hr;obtain⟨hs,hc⟩:=hr;exact⟨hs,hc⟩
def ZtB (k:Int) (_x:Le):Le:=⟨mtB (k),mtB (k+1),k+1+1,k+1+1+1⟩
def Zt6 (_x:Le):Nat:=4
def Zej (Xl:List Le) (i:Nat):Nat:=((Xl.take i).map Zt6).sum
def ZoA (k:Int) (Xl:List Le):List Le:=Xl.mapIdx (fun i x=>ZtB (k+(Zej Xl i:Int)) x)
theorem ZdV (k:Int) (Xl:List Le):(ZoA k Xl).length=Xl.length:=by unfold ZoA;simp
theorem Zqx (k:Int) (Xl:List Le) (i:Nat) (h:i < (ZoA k Xl).length) (h':i < Xl.length):(ZoA k Xl)[i]=ZtB (k+(Zej Xl i:Int)) Xl[i]:=List.getElem_mapIdx (f:=fun i x=>ZtB (k+(Zej Xl i:Int)) x) (h:=h)
theorem Zjg {i:Nat} (h:i < Xl.length):Zej Xl (i+1)=Zej Xl i+Zt6 Xl[i]:=by
 unfold Zej;rw [List.take_succ_eq_append_getElem h,List.map_append,List.sum_append];simp
theorem Znb (hn:Ze4 Xl):∀ {i:Nat},i<=Xl.length->Zej Xl i<=i*3000000:=by
 intro i
 induction i with
 | zero=>intro _;simp [Zej]
 | succ i ih=>
  intro hi';have h1:=ih (by omega);rw [Zjg (by omega)]
  have h2:Zt6 Xl[i]<=3000000:=by
   have hsm:=hn.2 i (by omega);unfold Zhv at hsm;unfold Zt6
   omega
  omega
structure Zko (wr:World) (b o c0 c1:Nat) (v:World) (y:Le):Prop where
 near:ZbV b o 4 c0 c1 wr v
 bc:b < c0
 cells:ZcT v b o y
 frz:∀ i,v.frozen? ⟨b,i,none⟩=false
 lt:b < v.heap.size
theorem Zko.below {v':World} (h:Zko wr b o c0 c1 v y) (hb:Below v.heap.size v v'):Zko wr b o c0 c1 v' y:=
 ⟨h.near.trans (ZbV.below hb h.lt),h.bc,h.cells.below hb h.lt,fun i=>(hb.frozen (p:=⟨b,i,none⟩) h.lt).trans (h.frz i),Zk_ h.lt hb.size⟩
theorem Zko.s0 (h:Zko wr b o c0 c1 v y) (u:Zy_):Zko wr b o c0 c1 (v.setCell ⟨b,o,none⟩ (.string u)) { y with tm:=u }:=by
 obtain⟨h0,h1,h2,h3⟩:=h.cells;have ht:Zag b (b+1) v (v.setCell ⟨b,o,none⟩ (.string u)):=Zag.setCell _ _ _ _ _ ⟨Nat.le_refl _,by simp only [];omega⟩;have hbc:=h.bc;exact⟨h.near.trans (ZbV.set _ _ _ _ _ _ _ _ (by omega) (by omega)),h.bc,⟨World.cell?_setCell_same' _ _ _ (by rw [h0];rfl),(cne (by omega)).trans h1,(cne (by omega)).trans h2,(cne (by omega)).trans h3⟩,fun i=>by rw [World.frozen?_setCell];exact h.frz i,by simpa [World.setCell] using h.lt⟩
theorem Zko.s1 (h:Zko wr b o c0 c1 v y) (u:Zy_):Zko wr b o c0 c1 (v.setCell ⟨b,o+1,none⟩ (.string u)) { y with re:=u }:=by
 obtain⟨h0,h1,h2,h3⟩:=h.cells;have ht:Zag b (b+1) v (v.setCell ⟨b,o+1,none⟩ (.string u)):=Zag.setCell _ _ _ _ _ ⟨Nat.le_refl _,by simp only [];omega⟩;have hbc:=h.bc;exact⟨h.near.trans (ZbV.set _ _ _ _ _ _ _ _ (by omega) (by omega)),h.bc,⟨(cne (by omega)).trans h0,World.cell?_setCell_same' _ _ _ (by rw [h1];rfl),(cne (by omega)).trans h2,(cne (by omega)).trans h3⟩,fun i=>by rw [World.frozen?_setCell];exact h.frz i,by simpa [World.setCell] using h.lt⟩
theorem Zko.s2 (h:Zko wr b o c0 c1 v y) (u:Int):Zko wr b o c0 c1 (v.setCell ⟨b,o+2,none⟩ (.int .i64 u)) { y with mo:=u }:=by
 obtain⟨h0,h1,h2,h3⟩:=h.cells;have ht:Zag b (b+1) v (v.setCell ⟨b,o+2,none⟩ (.int .i64 u)):=Zag.setCell _ _ _ _ _ ⟨Nat.le_refl _,by simp only [];omega⟩;have hbc:=h.bc;exact⟨h.near.trans (ZbV.set _ _ _ _ _ _ _ _ (by omega) (by omega)),h.bc,⟨(cne (by omega)).trans h0,(cne (by omega)).trans h1,World.cell?_setCell_same' _ _ _ (by rw [h2];rfl),(cne (by omega)).trans h3⟩,fun i=>by rw [World.frozen?_setCell];exact h.frz i,by simpa [World.setCell] using h.lt⟩
theorem Zko.s3 (h:Zko wr b o c0 c1 v y) (u:Int):Zko wr b o c0 c1 (v.setCell ⟨b,o+3,none⟩ (.int .i64 u)) { y with fr:=u }:=by
 obtain⟨h0,h1,h2,h3⟩:=h.cells;have ht:Zag b (b+1) v (v.setCell ⟨b,o+3,none⟩ (.int .i64 u)):=Zag.setCell _ _ _ _ _ ⟨Nat.le_refl _,by simp only [];omega⟩;have hbc:=h.bc;exact⟨h.near.trans (ZbV.set _ _ _ _ _ _ _ _ (by omega) (by omega)),h.bc,⟨(cne (by omega)).trans h0,(cne (by omega)).trans h1,(cne (by omega)).trans h2,World.cell?_setCell_same' _ _ _ (by rw [h3];rfl)⟩,fun i=>by rw [World.frozen?_setCell];exact h.frz i,by simpa [World.setCell] using h.lt⟩
end
section
open Go.RowKit Go.Deep
theorem ZkY (lo lm:Nat) (fv mv:Value) (x:Sh) (Ms:List Md) (w:World) (hf:Zau lo w fv x.fields) (hv:Zbe lm w mv Ms) (hn:x.fields.length<=1048576) :
 Calls prog 168 #[.agg #[.string x.kind,fv],mv] w fun e w'=>∃ v R,e=.returned v/\Zw_ w w'/\Zd7 w.heap.size w' v R/\ZrF x Ms R:=by
 obtain⟨i0,hi,hz0,hz1,hz2⟩:=info_parts Tryz.info9;have HF:=Zab hf;have HV:=Zab hv;obtain⟨a,cap,rfl⟩:=hf.form;obtain⟨ma,mcap,rfl⟩:=hv.form;clear hf hv;have HW:∀ o,Hd (Zw_ w (w.alloc o)):=fun o=>Zb_.alloc Zl_ _
 go_enter func168,ntmps168;go_wp2;generalize hW0:w.alloc _=W0;have hz0':W0.heap.size=w.heap.size+1:=by rw [<- hW0];simp
 have HB0:Hd (Zw_ w W0):=by rw [<- hW0];exact (HW _).o
 have g0:∀ i,W0.cell? ⟨w.heap.size,i,none⟩=(#[.string x.kind,.slice a x.fields.length cap]:Array Value)[i]?:=fun i=>by rw [<- hW0];exact ZaJ _ _ _ _ _ rfl
 clear hW0;have HI:=Zab (And.intro hi (And.intro hz0 (And.intro hz1 hz2)));have HG0:=Zab g0;clear g0 hi hz0 hz1 hz2
 go_loopw [5,6] (fun v i wr=>∃ (n:Nat) (R:List Zy_),i=.int .i64 n/\n<=x.fields.length/\Zd7 (w.heap.size+1) wr v R/\Below (w.heap.size+1) W0 wr/\Zc4 (ZaD x.fields) (Zam x.kind Ms) R/\(R.length=n\/Zjy (ZaD x.fields) (Zam x.kind Ms) R)) (fun _ i _=>x.fields.length - (intOf i).toNat)
 case atStart=>exact⟨0,[],rfl,by omega,Zd7.made W0 _ hz0' Zl_,Zb_.alloc (by omega) _,Zc4.nil,Or.inl rfl⟩
 case round=>
  obtain⟨n,R,rfl,hnn,hown,hb,hgood,hcase⟩:=hrel;have HO:=Zab hown;have HB:=Zab hb;have HGD:=Zab hgood;have HC:=Zab hcase;obtain⟨va,vcap,rfl⟩:=hown.form;have q1:wr.cell? ⟨w.heap.size,1,none⟩=some (.slice a x.fields.length cap):=by rw [hb.cell (p:=⟨w.heap.size,1,none⟩) (by simp)];exact HG0.o 1
  clear hown hb hgood hcase
  by_cases hlt:n < x.fields.length
  . go_wp2
    go_loopw [5,7] (fun v i wi=>∃ (k:Nat),v=.slice va R.length vcap/\i=.int .i64 k/\k<=x.fields.length/\Zd7 (w.heap.size+1) wi v R/\Below (w.heap.size+1) W0 wi/\ZeH x.fields (Zam x.kind Ms) R k) (fun _ i _=>x.fields.length - (intOf i).toNat)
    case atStart=>exact⟨0,rfl,rfl,by omega,HO.o,HB.o,fun i _ h=>by omega⟩
    case round=>
     obtain⟨k,rfl,rfl,hk,hown,hb,hny⟩:=hrel;have HOi:=Zab hown;have HBi:=Zab hb;have HN:=Zab hny;have p0:wr.cell? ⟨w.heap.size,0,none⟩=some (.string x.kind):=by rw [hb.cell (p:=⟨w.heap.size,0,none⟩) (by simp)];exact HG0.o 0
     have p1:wr.cell? ⟨w.heap.size,1,none⟩=some (.slice a x.fields.length cap):=by rw [hb.cell (p:=⟨w.heap.size,1,none⟩) (by simp)];exact HG0.o 1
     have HBw:Hd (Zw_ w wr):=HB0.o.trans (hb.mono (by omega));have hzr:w.heap.size+1<=wr.heap.size:=by have:=hb.size;omega
     clear hown hb hny q1
     by_cases hkl:k < x.fields.length
     . obtain⟨fb,fo,rfl,hfb,hfc⟩:=HF.o.full' (by omega)
       obtain⟨hfs,wv,hcell,_⟩:=hfc k hkl;have c0:wr.cell? ⟨fb,fo+k*11,none⟩=some (.string x.fields[k].nm):=by rw [HBw.o.cell (p:=⟨fb,_,none⟩) hfb];exact hcell.c0
       have HSZ:=Zab hfs.s0;clear hcell hfc hfs;go_wp2_with fail;refine (ZeX _ R x.fields[k].nm _ HOi.o.strs).mono ?_;rintro e w1 ⟨rfl,rfl⟩
       cases hh:Ze8 R x.fields[k].nm with
       | true=>
        have HNX:Hd (ZeH x.fields (Zam x.kind Ms) R (k+1)):=HN.o.succ hkl (Or.inl (Zdy.1 hh));go_wp2;go_roundw
        . exact⟨k+1,rfl,by go_num,by omega,HOi.o,HBi.o,HNX.o⟩
        . simp [intOf];omega
       | false=>
        go_wp2_with fail;refine (Zl6 lm _ _ Ms x.kind x.fields[k].nm R _ (HV.o.below HBw.o) HOi.o.strs).mono ?_;rintro e w2 ⟨rfl,hb2⟩;have HO2:=Zab (HOi.o.below hb2);have HB2:Hd (Below (w.heap.size+1) W0 w2):=HBi.o.trans (hb2.mono hzr);have hz2:w.heap.size+1<=w2.heap.size:=by have:=hb2.size;omega
        clear hb2 p0 p1 c0
        cases hrd:Zgc Ms x.kind x.fields[k].nm R with
        | false=>
         have HNX:Hd (ZeH x.fields (Zam x.kind Ms) R (k+1)):=HN.o.succ hkl (Or.inr fun h=>by rw [Zdq.2 h] at hrd;cases hrd);go_wp2;go_roundw
         . exact⟨k+1,rfl,by go_num,by omega,HO2.o,HB2.o,HNX.o⟩
         . simp [intOf];omega
        | true=>
         have HG1:Hd (Zc4 (ZaD x.fields) (Zam x.kind Ms) (R ++ [x.fields[k].nm])):=Zc4.snoc HGD.o (ZcG.2 ⟨k,hkl,rfl⟩) (ZjR hh) (Zdq.1 hrd)
         have HC1:Hd ((R ++ [x.fields[k].nm]).length=n+1\/Zjy (ZaD x.fields) (Zam x.kind Ms) (R ++ [x.fields[k].nm])):=by
          rcases HC.o with h | h
          . exact Or.inl (by rw [List.length_append,h];rfl)
          . exact absurd (Zdq.1 hrd) (h _ (ZcG.2 ⟨k,hkl,rfl⟩) (ZjR hh))
         have HRL:Hd (R.length<=1048576):=Nat.le_trans (ZjQ HGD.o) hn;clear hh hrd;go_wp2_with (at_builtin;refine wpList_append_lies _ rfl (.tmp 42) (.tmp 44) 111 rfl (w.heap.size+1) 9 i0 (.string ⟨#[]⟩) 1 16 underlying111 HI.o.1 HI.o.2.1 HI.o.2.2.1 HI.o.2.2.2 rfl (by decide) _ _ _ rfl (HO2.o.below (Zb_.alloc Zl_ _)).row ⟨w2.heap.size,0,none⟩ 1 1 [.string x.fields[k].nm] rfl rfl (Zf3 _ _ _ _ rfl) (Zeh _) (by decide) (by have:=HRL.o;unfold maxLen;omega) (by have:=HRL.o;omega) (by simp;omega) _ rfl ?_;intro g cap1 w3 hown3 hgrow3 hat3 hlt3);exact⟨⟨n+1,R ++ [x.fields[k].nm],by go_num,by omega,HO2.o.snoc hown3 HSZ.o,(HB2.o.alloc (by omega) _).trans ((HO2.o.below (Zb_.alloc Zl_ _)).grown hgrow3 (by simp;omega)),HG1.o,HC1.o⟩,by simp [intOf];omega⟩
     . go_wp2
       exact⟨⟨n+1,R,by go_num,by omega,HOi.o,HBi.o,HGD.o,Or.inr (HN.o.stuck (by omega))⟩,by simp [intOf];omega⟩
  . go_wp2
    go_ret;exact⟨_,R,rfl,HB0.o.trans (HB.o.mono (by omega)),HO.o.mono (by omega),ZrF.mk' HGD.o (by omega) HC.o⟩
end
open Go.RowKit Go.Deep
theorem Zml (lo hi:Nat) (v:Value) (Xl:List Pu) (k:Int) (w:World) (hv:Zcv lo hi w v Xl) (hn:Ze5 Xl) (h0:0<=k) (hk:k<=2000000000000000000) :
 Calls prog 58 #[v,.int .i64 k] w fun e w'=>e=.returned (.int .i64 (k+(ZeB Xl Xl.length:Int)))/\Zag lo hi w w'/\Zcv lo hi w' v (ZoC k Xl):=by
 rcases hv with ⟨a,cap,rfl,rfl⟩ | ⟨b,off,cap,c,X,rfl,hne,hm,hcap,hX,hR⟩
 . go_enter func58,ntmps58
   go_wp2
   go_loop [5,1] (fun i q=>i=.int .i64 0/\q=.int .i64 k) (fun _ _=>0)
   case atStart=>exact⟨rfl,rfl⟩
   case round=>
    obtain⟨rfl,rfl⟩:=hrel;go_wp2;go_ret;exact⟨by simp [ZeB],Zag.refl _ _ _,Or.inl ⟨_,_,rfl,rfl⟩⟩
 . have hlen:=hn.1
   have HN:=Zab hn;have HX:=Zab hX;have HR0:=Zab hR;have HM:=Zab hm;have HC:=Zab hcap;have HNE:=Zab hne;clear hn hX hR hm hcap hne;go_enter func58,ntmps58;go_wp2
   go_loopw [5,1] (fun i q wr=>∃ j:Nat,i=.int .i64 j/\q=.int .i64 (k+(ZeB Xl j:Int))/\j<=Xl.length/\Zag lo hi w wr/\Zfi lo hi wr b off Xl.length c (fun i=>if i < j then ZtD (k+(ZeB Xl i:Int)) (X i) else X i)) (fun i _ _=>Xl.length - (intOf i).toNat)
   case atStart=>exact⟨0,rfl,by simp [ZeB],by omega,Zag.refl _ _ _,HR0.o.to (fun i _=>by simp)⟩
   case round=>
    obtain⟨j,rfl,rfl,hj,ht,hr⟩:=hrel;have HT:=Zab ht;have HR:=Zab hr;clear ht hr HR0
    by_cases hlt:j < Xl.length
    . have hpos:=Znd HN.o (i:=j) (by omega)
      have HP:=Zab (Zji hlt)
      have hone:Zgs b (off+j*5) (c j) (c (j+1)) wr (X j):=by
       have:=HR.o.row j hlt;simp only [Nat.lt_irrefl,if_false] at this;exact this
      have hxj:X j=Xl[j]:=HX.o j hlt;obtain⟨x,hx⟩:∃ x,x=X j:=⟨_,rfl⟩
      rw [<- hx] at hone;obtain⟨hs,hc⟩:=hone;have HXJ:=Zab hxj;have HXX:=Zab hx;obtain⟨K,hK⟩:∃ K,K=k+(ZeB Xl j:Int):=⟨_,rfl⟩
      rw [<- hK];have hK0:0<=K:=by omega
      have hK1:K<=2500000000000000000:=by omega
      have HK:=Zab hK;have HBC:Hd (b < c j):=Zk_ HR.o.bc (HR.o.le Zz_ (by omega));have HS:Hd (Zio wr b (off+j*5) (c j) (c (j+1)) wr x):=⟨ZbV.refl _ _ _ _ _ _,HBC.o,hc,HR.o.frz,HR.o.lt⟩;clear hpos hxj hx hs hc hK;obtain⟨d0,d1,d2,d3,d4⟩:=HS.o.cells;have fz:=HS.o.frz;go_wp2_with fail;clear d0 d1 d2 d3 d4 fz;refine (Zal _ _ (by omega)).mono ?_;rintro e v1 ⟨rfl,hb⟩;have HS1:=Zab (HS.o.below hb);clear hb HS;obtain⟨d0,d1,d2,d3,d4⟩:=HS1.o.cells;have fz:=HS1.o.frz;go_wp2_with fail;clear d0 d1 d2 d3 d4 fz;obtain⟨v2,hv2,HS2⟩:∃ v',v'=(v1.setCell ⟨b,off+j*5,none⟩ (.string (mtB (K))))/\Hd (Zio wr b (off+j*5) (c j) (c (j+1)) v' ⟨mtB (K),x.tm,x.re,x.am,x.un⟩):=⟨_,rfl,(HS1.o.s0 (mtB (K)))⟩
      rw [<- hv2];clear hv2 HS1;refine (Zal _ _ (by omega)).mono ?_;rintro e v3 ⟨rfl,hb⟩;have HS3:=Zab (HS2.o.below hb);clear hb HS2;obtain⟨d0,d1,d2,d3,d4⟩:=HS3.o.cells;have fz:=HS3.o.frz;go_wp2_with fail;clear d0 d1 d2 d3 d4 fz;obtain⟨v4,hv4,HS4⟩:∃ v',v'=(v3.setCell ⟨b,off+j*5+1,none⟩ (.string (mtB (K+1))))/\Hd (Zio wr b (off+j*5) (c j) (c (j+1)) v' ⟨mtB (K),mtB (K+1),x.re,x.am,x.un⟩):=⟨_,rfl,(HS3.o.s1 (mtB (K+1)))⟩
      rw [<- hv4];clear hv4 HS3;refine (Zal _ _ (by omega)).mono ?_;rintro e v5 ⟨rfl,hb⟩;have HS5:=Zab (HS4.o.below hb);clear hb HS4;obtain⟨d0,d1,d2,d3,d4⟩:=HS5.o.cells;have fz:=HS5.o.frz;go_wp2;clear d0 d1 d2 d3 d4 fz;obtain⟨v6,hv6,HS6⟩:∃ v',v'=(((v5.setCell ⟨b,off+j*5+2,none⟩ (.string (mtB (K+1+1)))).setCell ⟨b,off+j*5+3,none⟩ (.int .i64 (K+1+1+1))).setCell ⟨b,off+j*5+4,none⟩ (.int .i64 (K+1+1+1+1)))/\Hd (Zio wr b (off+j*5) (c j) (c (j+1)) v' ⟨mtB (K),mtB (K+1),mtB (K+1+1),K+1+1+1,K+1+1+1+1⟩):=⟨_,rfl,(((HS5.o.s2 (mtB (K+1+1))).s3 (K+1+1+1)).s4 (K+1+1+1+1))⟩
      rw [<- hv6];clear hv6 HS5;have HW:Hd (Zt8 Xl[j]=5):=by unfold Hd;rw [<- HXJ.o,<- HXX.o];rfl
      have HQ:Hd ((K+1+1+1+1+1:Int)=k+(ZeB Xl (j+1):Int)):=by
       have h1:=HP.o;have h2:=HW.o;have h3:=HK.o;unfold Hd
       omega
      have HRN:=Zab (HR.o.near hlt HS6.o.near (show Zgs b (off+j*5) (c j) (c (j+1)) v6 (ZtD K x) from ⟨⟨Zb4 _ (by omega),Zb4 _ (by omega),Zb4 _ (by omega)⟩,HS6.o.cells⟩));have HTN:=Zab (HS6.o.near.wide HR.o.lt (lo':=lo) (hi':=hi) (by have:=HBC.o;have:=HR.o.low;omega) (Nat.le_trans (HR.o.le (by omega) Zl_) HR.o.top) ⟨HR.o.low,HR.o.bh⟩);go_roundw
      . 
       refine⟨j+1,by go_num,congrArg (Value.int .i64) HQ.o,by omega,HT.o.trans HTN.o,HRN.o.to (fun i hi'=>?_)⟩
       by_cases e:i=j
       . subst e
         rw [if_pos rfl,if_pos (by omega),<- HK.o,HXX.o]
       . rw [if_neg e]
         by_cases e2:i < j
         . rw [if_pos e2,if_pos (by omega)]
         . rw [if_neg e2,if_neg (by omega)]
      . simp [intOf];omega
    . have e:j=Xl.length:=by omega
      subst e;go_wp2;go_ret;refine⟨rfl,HT.o,Or.inr ⟨b,off,cap,c,fun i=>ZtD (k+(ZeB Xl i:Int)) (X i),by rw [ZdX],?_,by rw [ZdX];exact HM.o,by rw [ZdX];exact HC.o,fun i h=>?_,?_⟩⟩
      . intro e
        have:=congrArg List.length e;rw [ZdX] at this;exact HNE.o (List.length_eq_zero_iff.1 (by simpa using this))
      . have h':i < Xl.length:=by rw [ZdX] at h;exact h
        rw [Zqz _ _ _ _ h',<- HX.o i h']
      . rw [ZdX]
        exact HR.o.to (fun i hi'=>by rw [if_pos hi'])
end Go.Proofs.YtmappejlmapboaaGreat
