import Derived.Test.YtcfjmagkinpaeaaGreatGTB
import Derived.Test.YtcfjmagkinpaeaaGreatGNN
set_option maxHeartbeats 16000000
set_option maxRecDepth 100000
open Go.Proofs.Tryz
namespace Go.Proofs.YtcfjmagkinpaeaaGreat
open Go.RowKit Go.Deep
structure In (C:World→Prop) where
 w:World
 h:C w
theorem Zae {P:Program} {id:Nat} {Q:Exit→Act→World→Prop} {a:Act} {w:World} {l:List Oper} (C:World→Prop) (hm:P.follows .mixedOrders=true) (hB:Region.lexB .any l.toArray=true) (hC:C w.drew)
 (h:wpQuiet P l.toArray (fun w'=>∃ X:In C,w'=X.w) (fun a'=>∀ w',(∃ X:In C,w'=X.w)→Q .normal a' w') l a):(Code.region id l.toArray true).wp P Q a w:=
 wp_region_quiet (C:=fun w'=>∃ X:In C,w'=X.w) hm hB ⟨⟨_,hC⟩,rfl⟩ (by simpa using h)
theorem ZcH {C:World→Prop} (X:In C):(∃ Y:In C,X.w=Y.w)=True:=eq_true ⟨X,rfl⟩
structure Cls (W0:World) (b1:Nat) (cs1:Array Value) (b2:Nat) (cs2:Array Value) (W:World):Prop where
 on:Below W0.heap.size W0 W
 x1:Box W0 b1 cs1
 x2:Box W0 b2 cs2
theorem Cls.c1 {W0:World} {b1:Nat} {cs1:Array Value} {b2:Nat} {cs2:Array Value} (X:In (Cls W0 b1 cs1 b2 cs2)) (i:Nat):X.w.cell? ⟨b1,i,none⟩=cs1[i]?:=(X.h.x1.on X.h.on).cell i
theorem Cls.c2 {W0:World} {b1:Nat} {cs1:Array Value} {b2:Nat} {cs2:Array Value} (X:In (Cls W0 b1 cs1 b2 cs2)) (i:Nat):X.w.cell? ⟨b2,i,none⟩=cs2[i]?:=(X.h.x2.on X.h.on).cell i
theorem Cls.next {W0:World} {b1:Nat} {cs1:Array Value} {b2:Nat} {cs2:Array Value} (X:In (Cls W0 b1 cs1 b2 cs2)) {W':World} (h:Below X.w.heap.size X.w W'):∃ Y:In (Cls W0 b1 cs1 b2 cs2),W'=Y.w:=
 ⟨⟨W',⟨X.h.on.trans (h.mono X.h.on.size),X.h.x1,X.h.x2⟩⟩,rfl⟩
theorem ZcK {a b:Int} (h:a=b):Ending.returned (.int .u8 a)=.returned (.int .u8 b):=by rw [h]
def ZqP (b1 b2 b3 b4 b5:Bool):Int:=(if b1 then 2 else 0)+(if b2 then 4 else 0)+(if b3 then 8 else 0)+(if b4 then 16 else 0)+(if b5 then 32 else 0)
theorem ZrC:∀ a1 a2 a3 a4 a5 c1 c2 c3 c4 c5:Bool,bits .or .u8 (ZqP a1 a2 a3 a4 a5) (ZqP c1 c2 c3 c4 c5)=ZqP (a1 || c1) (a2 || c2) (a3 || c3) (a4 || c4) (a5 || c5):=by decide +kernel
theorem Zks:∀ a1 a2 a3 a4 a5 c1 c2 c3 c4 c5:Bool,bits .andNot .u8 (ZqP a1 a2 a3 a4 a5) (ZqP c1 c2 c3 c4 c5)=ZqP (a1&&!c1) (a2&&!c2) (a3&&!c3) (a4&&!c4) (a5&&!c5):=by decide +kernel
theorem ZnJ:∀ a1 a2 a3 a4 a5:Bool,(ZqP a1 a2 a3 a4 a5 == 0)=(!a1&&!a2&&!a3&&!a4&&!a5):=by decide +kernel
def num (p:Int→Bool):Int:=ZqP (p 1) (p 2) (p 3) (p 4) (p 5)
theorem ZsI (p q:Int→Bool):bits .or .u8 (num p) (num q)=num (fun v=>p v || q v):=ZrC _ _ _ _ _ _ _ _ _ _
theorem Zme (p q:Int→Bool):bits .andNot .u8 (num p) (num q)=num (fun v=>p v&&!q v):=Zks _ _ _ _ _ _ _ _ _ _
theorem ZiA:num (fun _=>false)=0:=rfl
theorem Zc8 {p q:Int→Bool} (h:∀ v,1≤v→v≤5→p v=q v):num p=num q:=by
 unfold num;rw [h 1 (by omega) (by omega),h 2 (by omega) (by omega),h 3 (by omega) (by omega),h 4 (by omega) (by omega),h 5 (by omega) (by omega)]
def ZeM (L:List Int) (v:Int):Bool:=L.any fun x=>x == v
theorem Znx (L:List Int) (x v:Int):ZeM (L ++ [x]) v=(ZeM L v || v == x):=by
 unfold ZeM;rw [List.any_append,List.any_cons,List.any_nil,Bool.or_false]
 have e:(x == v)=(v == x):=by
  rw [Bool.eq_iff_iff,beq_iff_eq,beq_iff_eq];exact eq_comm
 rw [e]
theorem Zoy {L:List Int} {k:Nat} (h:k < L.length):L.take (k+1)=L.take k ++ [L[k]]:=by rw [List.take_succ_eq_append_getElem h]
theorem Zny {L:List Int} {v:Int} {k:Nat} (h:k < L.length) (hp:(L[k] == v)=true):ZeM L v=true:=by
 unfold ZeM;rw [List.any_eq_true];exact⟨L[k],List.getElem_mem h,hp⟩
theorem Zrn {L:List Int} {v:Int} (hall:∀ i (h:i < L.length),(L[i] == v)=false):ZeM L v=false:=by
 unfold ZeM;rw [List.any_eq_false];intro x hx;obtain⟨i,hi,rfl⟩:=List.getElem_of_mem hx;simp [hall i hi]
theorem Zfg {L:List Int} {v:Int}:ZeM L v=true↔v ∈ L:=by
 unfold ZeM;rw [List.any_eq_true]
 constructor
 · rintro⟨x,hx,h⟩;rw [beq_iff_eq] at h;subst h;exact hx
 · exact fun h=>⟨v,h,by simp⟩
def Zbb (s p:Zy_):Bool:=decide ((p.size:Int)≤s.size)&&((s.extract 0 p.size).toList == p.toList)
def vAt (L:List Int) (i:Nat):Bool:=match L[i]? with
 | none=>false
 | some v=>inB 1 5 v&&(i == 0 || decide ((L[i - 1]?).getD 0 < v))
def ZkO (L:List Int):Bool:=decide (0 < L.length)&&(List.range L.length).all (vAt L)
theorem Zfq {L:List Int} (h:0 < L.length):vAt L 0=inB 1 5 L[0]:=by unfold vAt;rw [List.getElem?_eq_getElem h];simp
theorem Zcu {L:List Int} {j:Nat} (h:j+1 < L.length):vAt L (j+1)=(inB 1 5 L[j+1]&&decide (L[j] < L[j+1])):=by
 unfold vAt;rw [List.getElem?_eq_getElem h,Nat.add_sub_cancel,List.getElem?_eq_getElem (by omega)];simp
theorem ZhU {L:List Int} {k:Nat} (h:k < L.length) (hb:inB 1 5 L[k]=false):vAt L k=false:=by
 unfold vAt;rw [List.getElem?_eq_getElem h];simp [hb]
theorem Zek {L:List Int} {k:Nat} (hk:k < L.length) (h:vAt L k=false):ZkO L=false:=by
 unfold ZkO;rw [ZaW hk h];simp
theorem Zg3 {L:List Int} {k:Nat} (hk:L.length≤k) (hall:∀ i,i < k→vAt L i=true):ZkO L=decide (0 < L.length):=by
 unfold ZkO;rw [Za0 (fun i hi=>hall i (by omega))];simp
def ZaS (r:Ru):Bool:=ZkO r.vb&&Zak r.kd&&Zak r.tm&&decide ((r.pf.size:Int)≤16)&&Zfs Zas r.pf
def ZgI (Ts:List Tm) (r:Ru) (kind team name:Zy_):Bool:=
 (r.kd.toList.isEmpty || r.kd.toList == kind.toList)&&(r.tm.toList.isEmpty || ZaA Ts team r.tm)&&Zbb name r.pf
def ZbH (Ts:List Tm) (r:Ru) (kind team name:Zy_) (v:Int):Bool:=ZgI Ts r kind team name&&ZeM r.vb v
theorem ZdO {Ts:List Tm} {r:Ru} {kind team name:Zy_} (h:ZgI Ts r kind team name=false):num (ZbH Ts r kind team name)=0:=by
 rw [← ZiA];exact Zc8 fun v _ _=>by unfold ZbH;rw [h];rfl
theorem Zfe {Ts:List Tm} {r:Ru} {kind team name:Zy_} (h:ZgI Ts r kind team name=true):num (ZbH Ts r kind team name)=num (ZeM r.vb):=
 Zc8 fun v _ _=>by unfold ZbH;rw [h];rfl
theorem ZqX {L:List Int} (h:ZkO L=true) {v:Int} (hv:ZeM L v=true):1≤v∧v≤5:=by
 unfold ZkO at h;rw [Bool.and_eq_true] at h;obtain⟨k,hk,rfl⟩:=List.getElem_of_mem (Zfg.1 hv);have:=ZiD hk h.2;unfold vAt at this;rw [List.getElem?_eq_getElem hk] at this;simp [inB] at this
 omega
theorem Zln {r:Ru} (h:ZaS r=true):ZkO r.vb=true:=by
 unfold ZaS at h;simp only [Bool.and_eq_true] at h;exact h.1.1.1.1
theorem Zqz (v:Int) (w:World):Calls prog 149 #[.int .i64 v] w fun e w'=>e=.returned (.int .u8 (num fun u=>u == v))∧w'=w:=by
 by_cases h1:v < 1
 · have HR:Hid (num (fun u=>u == v)=0):=by
    unfold Hid;rw [← ZiA];exact Zc8 fun u _ _=>by simp;omega
   go_enter func149,ntmps149;go_wp2;go_ret;exact⟨ZcK HR.out.symm,rfl⟩
 by_cases h5:5 < v
 · have HR:Hid (num (fun u=>u == v)=0):=by
    unfold Hid;rw [← ZiA];exact Zc8 fun u _ _=>by simp;omega
   go_enter func149,ntmps149;go_wp2;go_ret;exact⟨ZcK HR.out.symm,rfl⟩
 have hc:v=1∨v=2∨v=3∨v=4∨v=5:=by omega
 clear h1 h5
 rcases hc with rfl | rfl | rfl | rfl | rfl
 all_goals
  go_enter func149,ntmps149;go_wp2;go_ret;exact⟨ZcK (by decide +kernel),rfl⟩
theorem Zdf (lo:Nat) (v:Value) (L:List Int) (w:World) (hv:Zap lo w v L) :
 Calls prog 90 #[v] w fun e w'=>e=.returned (.int .u8 (num (ZeM L)))∧w'=w:=by
 by_cases hL:L=[]
 · subst hL
   obtain⟨a,cap,rfl⟩:=hv.form;clear hv;go_enter func90,ntmps90;go_wp2
   go_loop [3,8] (fun x i=>x=.int .u8 0∧i=.int .i64 0) (fun _ _=>0)
   case atStart=>exact⟨rfl,rfl⟩
   case round=>
    obtain⟨rfl,rfl⟩:=hrel;go_wp2;go_ret;exact⟨rfl,rfl⟩
 · obtain⟨b,off,cap,rfl,hm,hbw,hc⟩:=hv.full hL
   clear hv;unfold maxLen at hm;go_enter func90,ntmps90;go_wp2
   go_loop [3,8] (fun x i=>∃ k:Nat,x=.int .u8 (num (ZeM (L.take k)))∧i=.int .i64 k∧k≤L.length) (fun _ i=>L.length - (intOf i).toNat)
   case atStart=>exact⟨0,rfl,rfl,by omega⟩
   case round=>
    obtain⟨k,rfl,rfl,hk⟩:=hrel
    by_cases hlt:k < L.length
    · have c0:=hc k hlt
      have HN:Hid (bits .or .u8 (num (ZeM (L.take k))) (num fun u=>u == L[k])=num (ZeM (L.take (k+1)))):=by
       unfold Hid;rw [ZsI];exact Zc8 fun u _ _=>by rw [Zoy hlt,Znx]
      generalize hx:num (ZeM (L.take k))=x at*;go_wp2_with fail;refine (Zqz _ _).mono ?_;rintro e w1 ⟨rfl,rfl⟩;generalize hy:num (fun u=>u == L[k])=y at*;go_wp2
      go_round
      case rel=>exact⟨k+1,by rw [HN.out],by go_num,by omega⟩
      case measure=>simp [intOf];omega
    · have HN:Hid (num (ZeM (L.take k))=num (ZeM L)):=by unfold Hid;rw [List.take_of_length_le (by omega)]
      generalize hx:num (ZeM (L.take k))=x at*;go_wp2;go_ret;exact⟨ZcK HN.out,rfl⟩
theorem Zbt (s p:Zy_) (w:World):Calls prog 79 #[.string s,.string p] w fun e w'=>e=.returned (.bool (Zbb s p))∧w'=w:=by
 by_cases h:(p.size:Int)≤s.size
 · have HR:Hid (Zbb s p=((s.extract 0 p.size).toList == p.toList)):=by unfold Hid Zbb;rw [decide_eq_true h];rfl
   go_enter func79,ntmps79;go_wp2;go_ret;exact⟨Zaa HR.out.symm,rfl⟩
 · have HR:Hid (Zbb s p=false):=by unfold Hid Zbb;rw [decide_eq_false h];rfl
   go_enter func79,ntmps79;go_wp2;go_ret;exact⟨Zaa HR.out.symm,rfl⟩
theorem Zhi (s p:Zy_) (w:World):Calls prog 231 #[.string s,.string p] w fun e w'=>e=.returned (.bool (Zbb s p))∧w'=w:=by
 by_cases h:(p.size:Int)≤s.size
 · have HR:Hid (Zbb s p=((s.extract 0 p.size).toList == p.toList)):=by unfold Hid Zbb;rw [decide_eq_true h];rfl
   go_enter func231,ntmps231;go_wp2;go_ret;exact⟨Zaa HR.out.symm,rfl⟩
 · have HR:Hid (Zbb s p=false):=by unfold Hid Zbb;rw [decide_eq_false h];rfl
   go_enter func231,ntmps231;go_wp2;go_ret;exact⟨Zaa HR.out.symm,rfl⟩
theorem ZcR (s p:Zy_) (w:World):Calls prog 194 #[.string s,.string p] w fun e w'=>e=.returned (.bool (Zbb s p))∧w'=w:=by
 go_enter func194,ntmps194;go_wp2_with fail;refine (Zhi s p _).mono ?_;rintro e w1 ⟨rfl,rfl⟩;go_wp2;go_ret;exact⟨rfl,rfl⟩
theorem ZoW {L:List Int} (h:vAt L 0=true):∀ i,i < 1→vAt L i=true:=fun i hi=>by
 have e:i=0:=by omega
 subst e;exact h
theorem ZkP (lo:Nat) (v:Value) (L:List Int) (w:World) (hv:Zap lo w v L) :
 Calls prog 190 #[v] w fun e w'=>e=.returned (.bool (ZkO L))∧w'=w:=by
 by_cases hL:L=[]
 · subst hL
   obtain⟨a,cap,rfl⟩:=hv.form;clear hv;go_enter func190,ntmps190;go_wp2
   go_loop [7] (fun i=>i=.int .i64 0) (fun _=>0)
   case atStart=>rfl
   case round=>
    subst hrel;go_wp2;go_ret;exact⟨rfl,rfl⟩
 · obtain⟨b,off,cap,rfl,hm,hbw,hc⟩:=hv.full hL
   clear hv;unfold maxLen at hm;go_enter func190,ntmps190;go_wp2
   go_loop [7] (fun i=>∃ k:Nat,i=.int .i64 k∧k≤L.length∧∀ i,i < k→vAt L i=true) (fun i=>L.length - (intOf i).toNat)
   case atStart=>exact⟨0,rfl,by omega,fun i h=>by omega⟩
   case round=>
    obtain⟨k,rfl,hk,hall⟩:=hrel;have HA:=Zab hall;clear hall
    by_cases hlt:k < L.length
    · have c0:=hc k hlt
      by_cases h1:L[k] < 1
      · have HR:Hid (ZkO L=false):=Zek hlt (ZhU hlt (by unfold inB;simp;omega))
        go_wp2;go_ret;exact⟨Zaa HR.out.symm,rfl⟩
      by_cases h5:5 < L[k]
      · have HR:Hid (ZkO L=false):=Zek hlt (ZhU hlt (by unfold inB;simp;omega))
        go_wp2;go_ret;exact⟨Zaa HR.out.symm,rfl⟩
      have HI:Hid (inB 1 5 L[k]=true):=by unfold Hid inB;simp;omega
      cases k with
      | zero=>
       have c0:w.cell? ⟨b,off,none⟩=some (.int .i64 L[0]):=by simpa using c0
       have HX:Hid (vAt L 0=true):=by unfold Hid;rw [Zfq hlt];exact HI.out
       go_wp2
       go_round
       case rel=>exact⟨1,by go_num,by omega,ZoW HX.out⟩
       case measure=>simp [intOf];omega
      | succ j=>
       have cj:=hc j (by omega)
       by_cases hls:L[j] < L[j+1]
       · have HX:Hid (vAt L (j+1)=true):=by unfold Hid;rw [Zcu hlt,HI.out,decide_eq_true hls];rfl
         go_wp2
         go_round
         case rel=>exact⟨j+2,by go_num,by omega,fun i hi=>by
                    by_cases e:i=j+1
                    · subst e;exact HX.out
                    · exact HA.out i (by omega)⟩
         case measure=>simp [intOf];omega
       · have HR:Hid (ZkO L=false):=Zek hlt (by rw [Zcu hlt,decide_eq_false hls];simp)
         go_wp2;go_ret;exact⟨Zaa HR.out.symm,rfl⟩
    · have HR:Hid (ZkO L=decide (0 < L.length)):=Zg3 (by omega) HA.out
      have hpos:0 < L.length:=List.length_pos_iff.2 hL
      have HT:Hid (decide (0 < L.length)=true):=by unfold Hid;simpa using hpos
      go_wp2;go_ret;exact⟨Zaa (by rw [HR.out,HT.out]),rfl⟩
theorem ZfO (lo:Nat) (r:Ru) (vv:Value) (w:World) (hv:Zap lo w vv r.vb) (hz:Zdk r) :
 Calls prog 140 #[.agg #[vv,.string r.kd,.string r.tm,.string r.pf]] w fun e w'=>e=.returned (.bool (ZaS r))∧Zw_ w w':=by
 have HV:=Zab hv;have HZ:=Zab hz;obtain⟨a,cap,rfl⟩:=hv.form;clear hv hz;have hsz:=HZ.out.s3;unfold maxLen at hsz;go_enter func140,ntmps140;go_wp2_with fail;generalize hWa:w.alloc _=Wa;have HBa:Hid (Zw_ w Wa):=by rw [← hWa];exact Zac _ _
 have FA:Hid (Box Wa w.heap.size #[.slice a r.vb.length cap,.string r.kd,.string r.tm,.string r.pf]):=by rw [← hWa];exact Box.new _ _ _ _ rfl
 clear hWa;refine (ZkP lo _ r.vb _ (HV.out.below HBa.out)).mono ?_;rintro e w1 ⟨rfl,rfl⟩;have a1:w1.cell? ⟨w.heap.size,1,none⟩=some (.string r.kd):=FA.out.cell 1;have a2:w1.cell? ⟨w.heap.size,2,none⟩=some (.string r.tm):=FA.out.cell 2;have a3:w1.cell? ⟨w.heap.size,3,none⟩=some (.string r.pf):=FA.out.cell 3
 cases q1:ZkO r.vb with
 | false=>
  have HR:Hid (ZaS r=false):=by unfold Hid ZaS;rw [q1];rfl
  go_wp2;go_ret;exact⟨Zaa HR.out.symm,HBa.out⟩
 | true=>
  go_wp2_with fail;refine (ZbF r.kd _ HZ.out.s1).mono ?_;rintro e w2 ⟨rfl,rfl⟩
  cases q2:Zak r.kd with
  | false=>
   have HR:Hid (ZaS r=false):=by unfold Hid ZaS;rw [q1,q2];rfl
   go_wp2;go_ret;exact⟨Zaa HR.out.symm,HBa.out⟩
  | true=>
   go_wp2_with fail;refine (ZbF r.tm _ HZ.out.s2).mono ?_;rintro e w3 ⟨rfl,rfl⟩
   cases q3:Zak r.tm with
   | false=>
    have HR:Hid (ZaS r=false):=by unfold Hid ZaS;rw [q1,q2,q3];rfl
    go_wp2;go_ret;exact⟨Zaa HR.out.symm,HBa.out⟩
   | true=>
    by_cases q4:(r.pf.size:Int)≤16
    · have HR:Hid (ZaS r=Zfs Zas r.pf):=by unfold Hid ZaS;rw [q1,q2,q3,decide_eq_true q4];rfl
      go_wp2_with fail;refine (Zfk r.pf _ HZ.out.s3).mono ?_;rintro e w4 ⟨rfl,rfl⟩;generalize Zfs Zas r.pf=Q at*;go_wp2;go_ret;exact⟨Zaa HR.out.symm,HBa.out⟩
    · have HR:Hid (ZaS r=false):=by unfold Hid ZaS;rw [decide_eq_false q4];simp
      go_wp2;go_ret;exact⟨Zaa HR.out.symm,HBa.out⟩
end Go.Proofs.YtcfjmagkinpaeaaGreat
namespace Go.Proofs.YtcfjmagkinpaeaaGreat
open Go.ChangeShapes Go.WideShapes Go.ChangeAt Go.RowKit Go.Deep
theorem Tryz.cells111:prog.cellsOf 111=2:=by kernel_rfl
section
variable {H:Type} {enc:TypeId×Value→H} {W:World}
theorem ZrN {fuel:Nat} {cs:List Value} {x:DataW H×List MemPlace} (h:DataW.trod enc prog W 0 (fun _=>true) true fuel 111 cs=some x) :
 ∃ (m:Tm),cs=[.string m.nm,.string m.ov]∧Zgh m:=by
 obtain⟨xs,n,_,_,hl,hlen,hfld⟩:=DataW.trod_struct underlying111 h;obtain⟨c0,c1,rfl⟩:=ZsD (hl.trans Tryz.cells111);simp only [Array.size,List.length_cons,List.length_nil] at hlen;have g0:DataW.trod enc prog W 0 (fun _=>true) true n 9 ((([c0,c1]:List Value).drop 0).take (prog.cellsOf 9))=xs[0]?:=hfld 0 _ rfl;have g1:DataW.trod enc prog W 0 (fun _=>true) true n 9 ((([c0,c1]:List Value).drop 1).take (prog.cellsOf 9))=xs[1]?:=hfld 1 _ rfl;simp only [Tryz.cells9,List.drop_succ_cons,List.drop_zero,List.take_succ_cons,List.take_zero] at g0 g1;rw [List.getElem?_eq_getElem (by omega)] at g0 g1;obtain⟨k,e0,_,s0⟩:=DataW.trod_string underlying9 g0;obtain⟨f,e1,_,s1⟩:=DataW.trod_string underlying9 g1;simp only [List.cons.injEq,and_true] at e0 e1;subst e0 e1;exact⟨⟨k,f⟩,rfl,⟨s0,s1⟩⟩
theorem ZpR {fuel:Nat} {c:Value} {x:DataW H×List MemPlace} (h:DataW.trod enc prog W 0 (fun _=>true) true fuel 24 [c]=some x):∃ Ts,Zbd 0 W c Ts:=by
 rcases open_slice underlying24 h with ⟨hcs,_⟩ | ⟨a,len,cap,m,n,D,Pl,hcs,_,hl,hm,hmm,_,hx⟩
 · simp only [List.cons.injEq,and_true] at hcs
   exact⟨[],Or.inl ⟨_,_,hcs,rfl⟩⟩
 · simp only [List.cons.injEq,and_true] at hcs
   simp only [if_true] at hmm;subst hmm;rw [Tryz.cells111] at hx
   by_cases h0:len=0
   · subst h0
     exact⟨[],Or.inl ⟨_,_,hcs,rfl⟩⟩
   · obtain⟨Ts,hF,hall⟩:=Za7 (p:=fun i (m:Tm)=>Zgh m∧W.cells? 0 (a.add (i*2)) 2=some [.string m.nm,.string m.ov]) len (fun i hi=>by
      obtain⟨cs',h1,h2⟩:=hx i (by omega);obtain⟨md,e,hz⟩:=ZrN h2;rw [e] at h1;exact⟨md,hz,h1⟩)
     obtain⟨b,off,spot⟩:=a
     have hspot:spot=none:=by
      obtain⟨_,h1⟩:=hall 0 (by omega);have:=(World.cells?_some h1).2.2 0 (by omega);rw [Nat.zero_mul] at this;have e0:((⟨b,off,spot⟩:Addr).add 0).add 0=⟨b,off,spot⟩:=by simp [Addr.add]
      rw [e0] at this
      simpa using World.cell?_spot (by simpa using this)
     subst hspot
     have hcell:∀ i (hi:i < Ts.length),W.cells? 0 ((⟨b,off,none⟩:Addr).add (i*2)) 2=some [.string Ts[i].nm,.string Ts[i].ov]→ZeT W b (off+i*2) Ts[i]:=fun i hi h1=>by
      obtain⟨_,_,hc⟩:=World.cells?_some h1;rw [add_plain] at hc;have q:=fun j (hj:j < 2)=>(add_plain b (off+i*2) j) ▸ hc j hj
      exact⟨by simpa using q 0 (by omega),by simpa using q 1 (by omega)⟩
     have hbw:b < W.heap.size:=by
      obtain⟨_,h1⟩:=hall 0 (by omega);exact World.block_lt_of_cell? W _ (hcell 0 (by omega) h1).c0
     refine⟨Ts,Or.inr ⟨b,off,m,by rw [hcs,hF],?_,by omega,hbw,Nat.zero_le _,by omega,fun i hi=>?_⟩⟩
     · intro e;rw [e] at hF;simp at hF;omega
     · obtain⟨hz,h1⟩:=hall i hi
       exact⟨hz,hcell i hi h1⟩
end
end Go.Proofs.YtcfjmagkinpaeaaGreat
