import Derived.Test.YtbdhbihhgfpnnaaGreatV10
import Derived.Test.YtbdhbihhgfpnnaaGreatV11
import Derived.ChangeSlices
set_option maxHeartbeats 16000000
set_option maxRecDepth 100000
open Go.Proofs.Tryz
namespace Go.Proofs.YtbdhbihhgfpnnaaGreat
section
open Go.RowKit Go.Deep
variable {L:List Int} {k:Nat}
def vAt (L:List Int) (i:Nat):Bool:=match L[i]? with
 | none=>false
 | some v=>inB 1 5 v&&(i == 0 || decide ((L[i - 1]?).getD 0 < v))
def ZmZ (L:List Int):Bool:=decide (0 < L.length)&&(List.range L.length).all (vAt L)
theorem Zfi (h:0 < L.length):vAt L 0=inB 1 5 L[0]:=by unfold vAt;rw [List.getElem?_eq_getElem h];simp
theorem Zct {j:Nat} (h:j+1 < L.length):vAt L (j+1)=(inB 1 5 L[j+1]&&decide (L[j] < L[j+1])):=by
 unfold vAt;rw [List.getElem?_eq_getElem h,Nat.add_sub_cancel,List.getElem?_eq_getElem (by omega)];simp
theorem ZhT (h:k < L.length) (hb:inB 1 5 L[k]=false):vAt L k=false:=by
 unfold vAt;rw [List.getElem?_eq_getElem h];simp [hb]
theorem Zeb (hk:k < L.length) (h:vAt L k=false):ZmZ L=false:=by
 unfold ZmZ;rw [ZaC hk h];simp
theorem Zg4 (hk:L.length<=k) (hall:∀ i,i < k->vAt L i=true):ZmZ L=decide (0 < L.length):=by
 unfold ZmZ;rw [ZaH (fun i hi=>hall i (by omega))];simp
def ZaT (r:Ru):Bool:=ZmZ r.vb&&Zag r.kd&&Zag r.tm&&decide ((r.pf.size:Int)<=16)&&Zey Zam r.pf
end
section
open Go.RowKit Go.Deep
theorem ZoG {L:List Int} (h:vAt L 0=true):∀ i,i < 1->vAt L i=true:=fun i hi=>by
 have e:i=0:=by omega
 subst e;exact h
theorem ZkQ (lo:Nat) (v:Value) (L:List Int) (w:World) (hv:Zax lo w v L) :
 Calls prog 121 #[v] w fun e w'=>e=.returned (.bool (ZmZ L))/\w'=w:=by
 by_cases hL:L=[]
 . subst hL
   obtain⟨a,cap,rfl⟩:=hv.form;clear hv;go_enter func121,ntmps121;go_wp2
   go_loop [7] (fun i=>i=.int .i64 0) (fun _=>0)
   case atStart=>rfl
   case round=>
    subst hrel;go_wp2;go_ret;exact⟨rfl,rfl⟩
 . obtain⟨b,off,cap,rfl,hm,hbw,hc⟩:=hv.full hL
   clear hv;unfold maxLen at hm;go_enter func121,ntmps121;go_wp2
   go_loop [7] (fun i=>∃ k:Nat,i=.int .i64 k/\k<=L.length/\∀ i,i < k->vAt L i=true) (fun i=>L.length - (intOf i).toNat)
   case atStart=>exact⟨0,rfl,by omega,fun i h=>by omega⟩
   case round=>
    obtain⟨k,rfl,hk,hall⟩:=hrel;have HA:=Zab hall;clear hall
    by_cases hlt:k < L.length
    . have c0:=hc k hlt
      by_cases h1:L[k] < 1
      . have HR:Hd (ZmZ L=false):=Zeb hlt (ZhT hlt (by unfold inB;simp;omega))
        go_wp2;go_ret;exact⟨Zaa HR.o.symm,rfl⟩
      by_cases h5:5 < L[k]
      . have HR:Hd (ZmZ L=false):=Zeb hlt (ZhT hlt (by unfold inB;simp;omega))
        go_wp2;go_ret;exact⟨Zaa HR.o.symm,rfl⟩
      have HI:Hd (inB 1 5 L[k]=true):=by unfold Hd inB;simp;omega
      cases k with
      | zero=>
       have c0:w.cell? ⟨b,off,none⟩=some (.int .i64 L[0]):=by simpa using c0
       have HX:Hd (vAt L 0=true):=by unfold Hd;rw [Zfi hlt];exact HI.o
       go_wp2
       go_round
       . exact⟨1,by go_num,by omega,ZoG HX.o⟩
       . simp [intOf];omega
      | succ j=>
       have cj:=hc j (by omega)
       by_cases hls:L[j] < L[j+1]
       . have HX:Hd (vAt L (j+1)=true):=by unfold Hd;rw [Zct hlt,HI.o,decide_eq_true hls];rfl
         go_wp2
         go_round
         case rel=>exact⟨j+2,by go_num,by omega,fun i hi=>by
                    by_cases e:i=j+1
                    . subst e;exact HX.o
                    . exact HA.o i (by omega)⟩
         . simp [intOf];omega
       . have HR:Hd (ZmZ L=false):=Zeb hlt (by rw [Zct hlt,decide_eq_false hls];simp)
         go_wp2;go_ret;exact⟨Zaa HR.o.symm,rfl⟩
    . have HR:Hd (ZmZ L=decide (0 < L.length)):=Zg4 (by omega) HA.o
      have hpos:0 < L.length:=List.length_pos_iff.2 hL
      have HT:Hd (decide (0 < L.length)=true):=by unfold Hd;simpa using hpos
      go_wp2;go_ret;exact⟨Zaa (by rw [HR.o,HT.o]),rfl⟩
theorem Zd6 (lo:Nat) (r:Ru) (vv:Value) (w:World) (hv:Zax lo w vv r.vb) (hz:ZeX r) :
 Calls prog 69 #[.agg #[vv,.string r.kd,.string r.tm,.string r.pf]] w fun e w'=>e=.returned (.bool (ZaT r))/\Zw_ w w':=by
 have HV:=Zab hv;have HZ:=Zab hz;obtain⟨a,cap,rfl⟩:=hv.form;clear hv hz;have hsz:=HZ.o.s3;unfold maxLen at hsz;go_enter func69,ntmps69;go_wp2_with fail;generalize hWa:w.alloc _=Wa;have HBa:Hd (Zw_ w Wa):=by rw [<- hWa];exact Zac _ _
 have FA:Hd (Box Wa w.heap.size #[.slice a r.vb.length cap,.string r.kd,.string r.tm,.string r.pf]):=by rw [<- hWa];exact Box.new _ _ _ _ rfl
 clear hWa;refine (ZkQ lo _ r.vb _ (HV.o.below HBa.o)).mono ?_;rintro e w1 ⟨rfl,rfl⟩;have a1:w1.cell? ⟨w.heap.size,1,none⟩=some (.string r.kd):=FA.o.cell 1;have a2:w1.cell? ⟨w.heap.size,2,none⟩=some (.string r.tm):=FA.o.cell 2;have a3:w1.cell? ⟨w.heap.size,3,none⟩=some (.string r.pf):=FA.o.cell 3
 cases q1:ZmZ r.vb with
 | false=>
  have HR:Hd (ZaT r=false):=by unfold Hd ZaT;rw [q1];rfl
  go_wp2;go_ret;exact⟨Zaa HR.o.symm,HBa.o⟩
 | true=>
  go_wp2_with fail;refine (ZbA r.kd _ HZ.o.s1).mono ?_;rintro e w2 ⟨rfl,rfl⟩
  cases q2:Zag r.kd with
  | false=>
   have HR:Hd (ZaT r=false):=by unfold Hd ZaT;rw [q1,q2];rfl
   go_wp2;go_ret;exact⟨Zaa HR.o.symm,HBa.o⟩
  | true=>
   go_wp2_with fail;refine (ZbA r.tm _ HZ.o.s2).mono ?_;rintro e w3 ⟨rfl,rfl⟩
   cases q3:Zag r.tm with
   | false=>
    have HR:Hd (ZaT r=false):=by unfold Hd ZaT;rw [q1,q2,q3];rfl
    go_wp2;go_ret;exact⟨Zaa HR.o.symm,HBa.o⟩
   | true=>
    by_cases q4:(r.pf.size:Int)<=16
    . have HR:Hd (ZaT r=Zey Zam r.pf):=by unfold Hd ZaT;rw [q1,q2,q3,decide_eq_true q4];rfl
      go_wp2_with fail;refine (ZdF r.pf _ HZ.o.s3).mono ?_;rintro e w4 ⟨rfl,rfl⟩;generalize Zey Zam r.pf=Q at*;go_wp2;go_ret;exact⟨Zaa HR.o.symm,HBa.o⟩
    . have HR:Hd (ZaT r=false):=by unfold Hd ZaT;rw [decide_eq_false q4];simp
      go_wp2;go_ret;exact⟨Zaa HR.o.symm,HBa.o⟩
end
section
open Go.RowKit Go.Deep Go.Shelf
variable {F:Fence} {n:Nat} {P:Program}
theorem ZdA {md:Region.Mode}{ops:Array Oper}{Q:Exit->Act->World->Prop} (l:Nat) (hnd:∀ (i:Nat) (o:Oper),ops[i]?=some o->∀ c,o.op≠.defer c) :
 ∀ (fuel:Nat) (listed:Array Bool) (a:Act) (w:World),wpAnyIn F n P md ops Q fuel listed a w->wpAnyIn (F.inRound l) n P md ops Q fuel listed a w
 | 0,_,_,_,h=>h
 | fuel+1,listed,a,w,⟨h0,h1⟩=>⟨h0,fun i hi=>by
  have h2:=h1 i hi;unfold wpOpIn at h2 |-
  split
  . rename_i e
    rw [e] at h2;exact ZdA l hnd fuel _ _ _ h2
  . rename_i o e
    rw [e] at h2;simp only at h2
    split
    . rename_i hw
      rw [if_pos hw] at h2;have h3:=Oper.wpIn_mono (fun a w h=>ZdA l hnd fuel _ a w h) h2;obtain⟨g1,g2⟩:=h3;refine⟨g1,?_⟩;rw [Oper.semAt_plain _ _ _ (hnd i o e)] at g2 |-;exact g2
    . rename_i hw
      rw [if_neg hw] at h2;exact⟨h2.1,ZdA l hnd fuel _ _ _ h2.2⟩⟩
theorem ZjI {id l:Nat}{ops:Array Oper}{Q:Exit->Act->World->Prop}{a:Act}{w:World} (hm:P.follows .mixedOrders=true) (hnd:ops.all (fun o=>match o.op with | .defer _=>false | _=>true)=true)
 (h:wpAnyIn F n P .any ops Q ops.size (Array.replicate ops.size false) a w.drew):(Code.region id ops true).wpIn (F.inRound l) n P Q a w:=by
 refine wpIn_region_any hm (ZdA l (fun i o e c hc=>?_) _ _ _ _ h);have:=Array.all_eq_true_iff_forall_mem.1 hnd o (Array.mem_of_getElem? e);rw [hc] at this
 cases this
end
section
open Go.RowKit Go.Deep
theorem Zju (lo lm:Nat) (fv mv:Value) (x:Sh) (Ms:List Md) (w:World) (hf:ZaU lo w fv x.fields) (hv:ZbY lm w mv Ms) (hn:x.fields.length<=1048576) :
 Calls prog 150 #[.agg #[.string x.kind,fv],mv] w fun e w'=>∃ v R,e=.returned v/\Zw_ w w'/\Zdw w.heap.size w' v R/\ZoR x Ms R:=by
 obtain⟨i0,hi,hz0,hz1,hz2⟩:=info_parts Tryz.info9;have HF:=Zab hf;have HV:=Zab hv;obtain⟨a,cap,rfl⟩:=hf.form;obtain⟨ma,mcap,rfl⟩:=hv.form;clear hf hv;have HW:∀ o,Hd (Zw_ w (w.alloc o)):=fun o=>Zb_.alloc Zl_ _
 go_enter func150,ntmps150;go_wp2;generalize hW0:w.alloc _=W0;have hz0':W0.heap.size=w.heap.size+1:=by rw [<- hW0];simp
 have HB0:Hd (Zw_ w W0):=by rw [<- hW0];exact (HW _).o
 have g0:∀ i,W0.cell? ⟨w.heap.size,i,none⟩=(#[.string x.kind,.slice a x.fields.length cap]:Array Value)[i]?:=fun i=>by rw [<- hW0];exact ZbJ _ _ _ _ _ rfl
 clear hW0;have HI:=Zab (And.intro hi (And.intro hz0 (And.intro hz1 hz2)));have HG0:=Zab g0;clear g0 hi hz0 hz1 hz2
 go_loopw [5,6] (fun v i wr=>∃ (n:Nat) (R:List Zy_),i=.int .i64 n/\n<=x.fields.length/\Zdw (w.heap.size+1) wr v R/\Below (w.heap.size+1) W0 wr/\ZcF (ZaG x.fields) (Zao x.kind Ms) R/\(R.length=n\/Zh4 (ZaG x.fields) (Zao x.kind Ms) R)) (fun _ i _=>x.fields.length - (intOf i).toNat)
 case atStart=>exact⟨0,[],rfl,by omega,Zdw.made W0 _ hz0' Zl_,Zb_.alloc (by omega) _,ZcF.nil,Or.inl rfl⟩
 case round=>
  obtain⟨n,R,rfl,hnn,hown,hb,hgood,hcase⟩:=hrel;have HO:=Zab hown;have HB:=Zab hb;have HGD:=Zab hgood;have HC:=Zab hcase;obtain⟨va,vcap,rfl⟩:=hown.form;have q1:wr.cell? ⟨w.heap.size,1,none⟩=some (.slice a x.fields.length cap):=by rw [hb.cell (p:=⟨w.heap.size,1,none⟩) (by simp)];exact HG0.o 1
  clear hown hb hgood hcase
  by_cases hlt:n < x.fields.length
  . go_wp2
    go_loopw [5,7] (fun v i wi=>∃ (k:Nat),v=.slice va R.length vcap/\i=.int .i64 k/\k<=x.fields.length/\Zdw (w.heap.size+1) wi v R/\Below (w.heap.size+1) W0 wi/\ZdU x.fields (Zao x.kind Ms) R k) (fun _ i _=>x.fields.length - (intOf i).toNat)
    case atStart=>exact⟨0,rfl,rfl,by omega,HO.o,HB.o,fun i _ h=>by omega⟩
    case round=>
     obtain⟨k,rfl,rfl,hk,hown,hb,hny⟩:=hrel;have HOi:=Zab hown;have HBi:=Zab hb;have HN:=Zab hny;have p0:wr.cell? ⟨w.heap.size,0,none⟩=some (.string x.kind):=by rw [hb.cell (p:=⟨w.heap.size,0,none⟩) (by simp)];exact HG0.o 0
     have p1:wr.cell? ⟨w.heap.size,1,none⟩=some (.slice a x.fields.length cap):=by rw [hb.cell (p:=⟨w.heap.size,1,none⟩) (by simp)];exact HG0.o 1
     have HBw:Hd (Zw_ w wr):=HB0.o.trans (hb.mono (by omega));have hzr:w.heap.size+1<=wr.heap.size:=by have:=hb.size;omega
     clear hown hb hny q1
     by_cases hkl:k < x.fields.length
     . obtain⟨fb,fo,rfl,hfb,hfc⟩:=HF.o.full' (by omega)
       obtain⟨hfs,wv,hcell,_⟩:=hfc k hkl;have c0:wr.cell? ⟨fb,fo+k*11,none⟩=some (.string x.fields[k].nm):=by rw [HBw.o.cell (p:=⟨fb,_,none⟩) hfb];exact hcell.c0
       have HSZ:=Zab hfs.s0;clear hcell hfc hfs;go_wp2_with fail;refine (ZcV _ R x.fields[k].nm _ HOi.o.strs).mono ?_;rintro e w1 ⟨rfl,rfl⟩
       cases hh:ZdC R x.fields[k].nm with
       | true=>
        have HNX:Hd (ZdU x.fields (Zao x.kind Ms) R (k+1)):=HN.o.succ hkl (Or.inl (Zc9.1 hh));go_wp2;go_roundw
        . exact⟨k+1,rfl,by go_num,by omega,HOi.o,HBi.o,HNX.o⟩
        . simp [intOf];omega
       | false=>
        go_wp2_with fail;refine (Zks lm _ _ Ms x.kind x.fields[k].nm R _ (HV.o.below HBw.o) HOi.o.strs).mono ?_;rintro e w2 ⟨rfl,hb2⟩;have HO2:=Zab (HOi.o.below hb2);have HB2:Hd (Below (w.heap.size+1) W0 w2):=HBi.o.trans (hb2.mono hzr);have hz2:w.heap.size+1<=w2.heap.size:=by have:=hb2.size;omega
        clear hb2 p0 p1 c0
        cases hrd:Zfb Ms x.kind x.fields[k].nm R with
        | false=>
         have HNX:Hd (ZdU x.fields (Zao x.kind Ms) R (k+1)):=HN.o.succ hkl (Or.inr fun h=>by rw [Zc0.2 h] at hrd;cases hrd);go_wp2;go_roundw
         . exact⟨k+1,rfl,by go_num,by omega,HO2.o,HB2.o,HNX.o⟩
         . simp [intOf];omega
        | true=>
         have HG1:Hd (ZcF (ZaG x.fields) (Zao x.kind Ms) (R ++ [x.fields[k].nm])):=ZcF.snoc HGD.o (Zcp.2 ⟨k,hkl,rfl⟩) (Zij hh) (Zc0.1 hrd)
         have HC1:Hd ((R ++ [x.fields[k].nm]).length=n+1\/Zh4 (ZaG x.fields) (Zao x.kind Ms) (R ++ [x.fields[k].nm])):=by
          rcases HC.o with h | h
          . exact Or.inl (by rw [List.length_append,h];rfl)
          . exact absurd (Zc0.1 hrd) (h _ (Zcp.2 ⟨k,hkl,rfl⟩) (Zij hh))
         have HRL:Hd (R.length<=1048576):=Nat.le_trans (Zii HGD.o) hn;clear hh hrd;go_wp2_with (at_builtin;refine wpList_append_lies _ rfl (.tmp 42) (.tmp 44) 107 rfl (w.heap.size+1) 9 i0 (.string ⟨#[]⟩) 1 16 underlying107 HI.o.1 HI.o.2.1 HI.o.2.2.1 HI.o.2.2.2 rfl (by decide) _ _ _ rfl (HO2.o.below (Zb_.alloc Zl_ _)).row ⟨w2.heap.size,0,none⟩ 1 1 [.string x.fields[k].nm] rfl rfl (Ze1 _ _ _ _ rfl) (ZdG _) (by decide) (by have:=HRL.o;unfold maxLen;omega) (by have:=HRL.o;omega) (by simp;omega) _ rfl ?_;intro g cap1 w3 hown3 hgrow3 hat3 hlt3);exact⟨⟨n+1,R ++ [x.fields[k].nm],by go_num,by omega,HO2.o.snoc hown3 HSZ.o,(HB2.o.alloc (by omega) _).trans ((HO2.o.below (Zb_.alloc Zl_ _)).grown hgrow3 (by simp;omega)),HG1.o,HC1.o⟩,by simp [intOf];omega⟩
     . go_wp2
       exact⟨⟨n+1,R,by go_num,by omega,HOi.o,HBi.o,HGD.o,Or.inr (HN.o.stuck (by omega))⟩,by simp [intOf];omega⟩
  . go_wp2
    go_ret;exact⟨_,R,rfl,HB0.o.trans (HB.o.mono (by omega)),HO.o.mono (by omega),ZoR.mk' HGD.o (by omega) HC.o⟩
end
section
open Go.ChangeShapes Go.WideShapes Go.ChangeAt Go.RowKit Go.Deep
variable {fuel:Nat}
theorem Tryz.cells85:prog.cellsOf 85=2:=by kernel_rfl
section
variable {H:Type} {enc:TypeId×Value->H} {W:World}
theorem Zrn {cs:List Value}{x:DataW H×List MemPlace} (h:DataW.trod enc prog W 0 (fun _=>true) true fuel 85 cs=some x) :
 ∃ (m:Tm),cs=[.string m.nm,.string m.ov]/\ZdX m:=by
 obtain⟨xs,n,_,_,hl,hlen,hfld⟩:=DataW.trod_struct underlying85 h;obtain⟨c0,c1,rfl⟩:=ZsI (hl.trans Tryz.cells85);simp only [Array.size,List.length_cons,List.length_nil] at hlen;have g0:DataW.trod enc prog W 0 (fun _=>true) true n 9 ((([c0,c1]:List Value).drop 0).take (prog.cellsOf 9))=xs[0]?:=hfld 0 _ rfl;have g1:DataW.trod enc prog W 0 (fun _=>true) true n 9 ((([c0,c1]:List Value).drop 1).take (prog.cellsOf 9))=xs[1]?:=hfld 1 _ rfl;simp only [Tryz.cells9,List.drop_succ_cons,List.drop_zero,List.take_succ_cons,List.take_zero] at g0 g1;rw [List.getElem?_eq_getElem (by omega)] at g0 g1;obtain⟨k,e0,_,s0⟩:=DataW.trod_string underlying9 g0;obtain⟨f,e1,_,s1⟩:=DataW.trod_string underlying9 g1;simp only [List.cons.injEq,and_true] at e0 e1;subst e0 e1;exact⟨⟨k,f⟩,rfl,⟨s0,s1⟩⟩
theorem Zpk {c:Value}{x:DataW H×List MemPlace} (h:DataW.trod enc prog W 0 (fun _=>true) true fuel 22 [c]=some x):∃ Ts,ZaZ 0 W c Ts:=by
 rcases open_slice underlying22 h with ⟨hcs,_⟩ | ⟨a,len,cap,m,n,D,Pl,hcs,_,hl,hm,hmm,_,hx⟩
 . simp only [List.cons.injEq,and_true] at hcs
   exact⟨[],Or.inl ⟨_,_,hcs,rfl⟩⟩
 . simp only [List.cons.injEq,and_true] at hcs
   simp only [if_true] at hmm;subst hmm;rw [Tryz.cells85] at hx
   by_cases h0:len=0
   . subst h0
     exact⟨[],Or.inl ⟨_,_,hcs,rfl⟩⟩
   . obtain⟨Ts,hF,hall⟩:=Zbz (p:=fun i (m:Tm)=>ZdX m/\W.cells? 0 (a.add (i*2)) 2=some [.string m.nm,.string m.ov]) len (fun i hi=>by
      obtain⟨cs',h1,h2⟩:=hx i (by omega);obtain⟨md,e,hz⟩:=Zrn h2;rw [e] at h1;exact⟨md,hz,h1⟩)
     obtain⟨b,off,spot⟩:=a
     have hspot:spot=none:=by
      obtain⟨_,h1⟩:=hall 0 (by omega);have:=(World.cells?_some h1).2.2 0 (by omega);rw [Nat.zero_mul] at this;have e0:((⟨b,off,spot⟩:Addr).add 0).add 0=⟨b,off,spot⟩:=by simp [Addr.add]
      rw [e0] at this
      simpa using World.cell?_spot (by simpa using this)
     subst hspot
     have hcell:∀ i (hi:i < Ts.length),W.cells? 0 ((⟨b,off,none⟩:Addr).add (i*2)) 2=some [.string Ts[i].nm,.string Ts[i].ov]->ZdW W b (off+i*2) Ts[i]:=fun i hi h1=>by
      obtain⟨_,_,hc⟩:=World.cells?_some h1;rw [add_plain] at hc;have q:=fun j (hj:j < 2)=>(add_plain b (off+i*2) j) ▸ hc j hj
      exact⟨by simpa using q 0 (by omega),by simpa using q 1 (by omega)⟩
     have hbw:b < W.heap.size:=by
      obtain⟨_,h1⟩:=hall 0 (by omega);exact World.block_lt_of_cell? W _ (hcell 0 (by omega) h1).c0
     refine⟨Ts,Or.inr ⟨b,off,m,by rw [hcs,hF],?_,by omega,hbw,Nat.zero_le _,by omega,fun i hi=>?_⟩⟩
     . intro e;rw [e] at hF;simp at hF;omega
     . obtain⟨hz,h1⟩:=hall i hi
       exact⟨hz,hcell i hi h1⟩
end
end
open Go.ChangeShapes Go.WideShapes Go.ChangeAt Go.RowKit Go.Deep
variable {fuel:Nat}
theorem Tryz.cells89:prog.cellsOf 89=4:=by kernel_rfl
theorem Tryz.cells87:prog.cellsOf 87=1:=by kernel_rfl
theorem ZsJ {l:List Value} (h:l.length=4):∃ c0 c1 c2 c3,l=[c0,c1,c2,c3]:=by
 match l,h with
 | [c0,c1,c2,c3],_=>exact⟨c0,c1,c2,c3,rfl⟩
section
variable {H:Type} {enc:TypeId×Value->H} {W:World}
theorem Zpl {c:Value}{x:DataW H×List MemPlace} (h:DataW.trod enc prog W 0 (fun _=>true) true fuel 87 [c]=some x):∃ L,Zax 0 W c L:=by
 rcases Go.ChangeShapes.open_ints underlying87 underlying3 Tryz.cells3 h with ⟨hcs,_⟩ | ⟨a,len,cap,zs,hcs,_,hl,hm,hzs,_,hcell,_⟩
 . simp only [List.cons.injEq,and_true] at hcs
   exact⟨[],Or.inl ⟨_,_,hcs,rfl⟩⟩
 . simp only [List.cons.injEq,and_true] at hcs
   simp only [if_true] at hzs
   by_cases h0:len=0
   . subst h0
     exact⟨[],Or.inl ⟨_,_,hcs,rfl⟩⟩
   . obtain⟨b,off,spot⟩:=a
     have hspot:spot=none:=by simpa [Addr.add] using World.cell?_spot (hcell 0 (by omega))
     subst hspot;have hlen:(zs.take len).length=len:=by rw [List.length_take];omega
     refine⟨zs.take len,Or.inr ⟨b,off,cap,by rw [hcs,hlen],?_,by omega,?_,Nat.zero_le _,?_⟩⟩
     . intro e;rw [e] at hlen;simp at hlen;omega
     . exact World.block_lt_of_cell? W _ (hcell 0 (by omega))
     . intro i hi
       have:=hcell i (by omega);rw [add_plain] at this;rw [this,List.getElem_take,List.getD_eq_getElem?_getD,List.getElem?_eq_getElem (by omega)]
       rfl
theorem Zpj {cs:List Value}{x:DataW H×List MemPlace} (h:DataW.trod enc prog W 0 (fun _=>true) true fuel 89 cs=some x) :
 ∃ (r:Ru) (vv:Value),cs=[vv,.string r.kd,.string r.tm,.string r.pf]/\Zax 0 W vv r.vb/\ZeX r:=by
 obtain⟨xs,n,_,_,hl,hlen,hfld⟩:=DataW.trod_struct underlying89 h;obtain⟨c0,c1,c2,c3,rfl⟩:=ZsJ (hl.trans Tryz.cells89);simp only [Array.size,List.length_cons,List.length_nil] at hlen;have g0:DataW.trod enc prog W 0 (fun _=>true) true n 87 ((([c0,c1,c2,c3]:List Value).drop 0).take (prog.cellsOf 87))=xs[0]?:=hfld 0 _ rfl;have g1:DataW.trod enc prog W 0 (fun _=>true) true n 9 ((([c0,c1,c2,c3]:List Value).drop 1).take (prog.cellsOf 9))=xs[1]?:=hfld 1 _ rfl;have g2:DataW.trod enc prog W 0 (fun _=>true) true n 9 ((([c0,c1,c2,c3]:List Value).drop 2).take (prog.cellsOf 9))=xs[2]?:=hfld 2 _ rfl;have g3:DataW.trod enc prog W 0 (fun _=>true) true n 9 ((([c0,c1,c2,c3]:List Value).drop 3).take (prog.cellsOf 9))=xs[3]?:=hfld 3 _ rfl;simp only [Tryz.cells9,Tryz.cells87,List.drop_succ_cons,List.drop_zero,List.take_succ_cons,List.take_zero] at g0 g1 g2 g3
 rw [List.getElem?_eq_getElem (by omega)] at g0 g1 g2 g3;obtain⟨L,hL⟩:=Zpl g0;obtain⟨k,e1,_,s1⟩:=DataW.trod_string underlying9 g1;obtain⟨t,e2,_,s2⟩:=DataW.trod_string underlying9 g2;obtain⟨p,e3,_,s3⟩:=DataW.trod_string underlying9 g3;simp only [List.cons.injEq,and_true] at e1 e2 e3;subst e1 e2 e3;exact⟨⟨L,k,t,p⟩,c0,rfl,hL,⟨s1,s2,s3⟩⟩
end
end Go.Proofs.YtbdhbihhgfpnnaaGreat
