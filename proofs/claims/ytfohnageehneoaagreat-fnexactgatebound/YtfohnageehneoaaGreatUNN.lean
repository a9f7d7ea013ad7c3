import Derived.Test.YtfohnageehneoaaGreatUPP
import Derived.ProofKit
import Derived.Deep.Strs
import Derived.Deep.RegionHeld
set_option maxHeartbeats 16000000
set_option maxRecDepth 100000
open Go.Proofs.Tryz
namespace Go.Proofs.YtfohnageehneoaaGreat
open Go.RowKit Go.Deep
variable {w w' wr w1:World} {lo lo' n k base B hi fuel:Nat} {v c:Value} {Ms:List Md} {Fs:List Fd} {l cs:List Value}
structure Ze3 (w:World) (b o:Nat) (m:Md):Prop where
 c0:w.cell? ⟨b,o,none⟩=some (.string m.kind)
 c1:w.cell? ⟨b,o+1,none⟩=some (.string m.field)
 c2:w.cell? ⟨b,o+2,none⟩=some (.string m.wh)
 c3:w.cell? ⟨b,o+3,none⟩=some (.string m.is)
 c4:w.cell? ⟨b,o+4,none⟩=some (.string m.put)
 c5:w.cell? ⟨b,o+5,none⟩=some (.string m.fr)
structure Zea (m:Md):Prop where
 s0:m.kind.size<=maxLen
 s1:m.field.size<=maxLen
 s2:m.wh.size<=maxLen
 s3:m.is.size<=maxLen
 s4:m.put.size<=maxLen
 s5:m.fr.size<=maxLen
theorem Ze3.below {b o:Nat}{m:Md} (h:Ze3 w b o m) (hb:Zw_ w w') (hlt:b < w.heap.size):Ze3 w' b o m:=by
 have e:∀ o,w'.cell? ⟨b,o,none⟩=w.cell? ⟨b,o,none⟩:=fun o=>hb.cell (p:=⟨b,o,none⟩) hlt
 exact⟨by rw [e];exact h.c0,by rw [e];exact h.c1,by rw [e];exact h.c2,by rw [e];exact h.c3,by rw [e];exact h.c4,by rw [e];exact h.c5⟩
def Zbg (lo:Nat) (w:World) (v:Value) (Ms:List Md):Prop:=
 (∃ (a:Option Addr) (cap:Nat),v=.slice a 0 cap/\Ms=[])\/
 ∃ (b off cap:Nat),v=.slice (some ⟨b,off,none⟩) Ms.length cap/\Ms≠[]/\Ms.length<=maxLen/\b < w.heap.size/\lo<=b/\Ms.length<=cap/\
  ∀ i (h:i < Ms.length),Zea Ms[i]/\Ze3 w b (off+i*6) Ms[i]
theorem Zbg.below (h:Zbg lo w v Ms) (hb:Zw_ w w'):Zbg lo w' v Ms:=by
 rcases h with h | ⟨b,off,cap,h1,h2,h3,h4,h5,h6,h7⟩
 . exact Or.inl h
 . refine Or.inr ⟨b,off,cap,h1,h2,h3,Zk_ h4 hb.size,h5,h6,fun i hi=>?_⟩
   obtain⟨hs,hc⟩:=h7 i hi;exact⟨hs,hc.below hb h4⟩
theorem Zbg.mono (h:Zbg lo w v Ms) (hl:lo'<=lo):Zbg lo' w v Ms:=by
 rcases h with h | ⟨b,off,cap,h1,h2,h3,h4,h5,h6,h7⟩
 . exact Or.inl h
 . exact Or.inr ⟨b,off,cap,h1,h2,h3,h4,Nat.le_trans hl h5,h6,h7⟩
theorem Zbg.form (h:Zbg lo w v Ms):∃ a cap,v=.slice a Ms.length cap:=by
 rcases h with ⟨a,cap,h,rfl⟩ | ⟨b,off,cap,h,_⟩
 . exact⟨a,cap,h⟩
 . exact⟨_,cap,h⟩
theorem Zbg.full (h:Zbg lo w v Ms) (hne:Ms≠[]):∃ (b off cap:Nat),v=.slice (some ⟨b,off,none⟩) Ms.length cap/\Ms.length<=maxLen/\b < w.heap.size/\Ms.length<=cap/\
 ∀ i (h:i < Ms.length),Zea Ms[i]/\Ze3 w b (off+i*6) Ms[i]:=by
 rcases h with ⟨_,_,_,h⟩ | ⟨b,off,cap,h1,_,h3,h4,_,h6,h7⟩
 . exact absurd h hne
 . exact⟨b,off,cap,h1,h3,h4,h6,h7⟩
theorem Zbg.full' {a:Option Addr}{cap:Nat} (h:Zbg lo w (.slice a n cap) Ms) (hL:0 < Ms.length) :
 ∃ b off,a=some ⟨b,off,none⟩/\b < w.heap.size/\∀ i (h:i < Ms.length),Zea Ms[i]/\Ze3 w b (off+i*6) Ms[i]:=by
 rcases h with ⟨a',cap',h,rfl⟩ | ⟨b',off',cap',h1,h2,h3,h4,h5,h6,h7⟩
 . simp at hL
 . injection h1 with e1 e2 e3
   exact⟨b',off',e1,h4,h7⟩
theorem Zmn (k f h i p r:Zy_) (left:Int) (w:World) (h0:0<=left) (h1:left<=1048576)
 (s0:k.size<=maxLen) (s1:f.size<=maxLen) (s2:h.size<=maxLen) (s3:i.size<=maxLen) (s4:p.size<=maxLen) (s5:r.size<=maxLen) :
 Calls prog 87 #[.agg #[.string k,.string f,.string h,.string i,.string p,.string r],.int .i64 left] w
  fun e w'=>∃ r:Int,e=.returned (.int .i64 r)/\Zw_ w w'/\-1<=r/\r<=left:=by
 unfold maxLen at s0 s1 s2 s3 s4 s5;have HW:∀ o,Hd (Zw_ w (w.alloc o)):=fun o=>Zb_.alloc Zl_ _
 go_enter func87,ntmps87;go_wp2
 all_goals go_ret
 all_goals exact⟨_,rfl,(HW _).o,by omega,by omega⟩
theorem Zo9 (lo:Nat) (v:Value) (Ms:List Md) (left:Int) (w:World) (h0:0<=left) (h1:left<=1048576) (hv:Zbg lo w v Ms) :
 Calls prog 28 #[v,.int .i64 left] w fun e w'=>∃ r:Int,e=.returned (.int .i64 r)/\Zw_ w w'/\Zsb Ms.length left r:=by
 rcases hv with ⟨a,cap,rfl,rfl⟩ | ⟨b,off,cap,rfl,hne,hm,hbw,_,_,hc⟩
 . go_enter func28,ntmps28
   go_wp2
   go_loop [1,5] (fun l i=>∃ r:Int,l=.int .i64 r/\0<=r/\r<=left/\i=.int .i64 0) (fun _ _=>0)
   case atStart=>exact⟨_,rfl,by omega,by omega,rfl⟩
   case round=>
    obtain⟨r,rfl,hr0,hr1,rfl⟩:=hrel;go_wp2;go_ret;exact⟨r,rfl,Below.refl _ _,by omega,by omega,fun _=>by simp;omega⟩
 . unfold maxLen at hm
   by_cases hle:(Ms.length:Int)<=left
   . go_enter func28,ntmps28
     go_wp2
     go_loopw [1,5] (fun l i wr=>∃ (r:Int) (k:Nat),l=.int .i64 r/\0<=r/\r<=left/\i=.int .i64 k/\k<=Ms.length/\Zw_ w wr) (fun _ i _=>Ms.length - (intOf i).toNat)
     case atStart=>exact⟨_,0,rfl,by omega,by omega,rfl,by omega,Below.refl _ _⟩
     case round=>
      obtain⟨r,k,rfl,hr0,hr1,rfl,hk,hb⟩:=hrel
      by_cases hlt:k < Ms.length
      . obtain⟨hsz,hcell⟩:=hc k hlt
        obtain⟨c0,c1,c2,c3,c4,c5⟩:=hcell.below hb hbw;go_wp2_with fail;refine (Zmn _ _ _ _ _ _ _ _ hr0 (by omega) hsz.s0 hsz.s1 hsz.s2 hsz.s3 hsz.s4 hsz.s5).mono ?_;rintro e w1 ⟨r1,rfl,hb1,q0,q1⟩;have hB:Hd (Zw_ w w1):=hb.trans (hb1.mono hb.size);clear hb1 c0 c1 c2 c3 c4 c5 hb;go_wp2
        all_goals first
         | (go_roundw
            . exact⟨_,k+1,rfl,by omega,by omega,by go_num,by omega,hB.o⟩
            . simp [intOf];omega)
         | (go_ret
            exact⟨-1,rfl,hB.o,by omega,by omega,fun h=>by omega⟩)
      . go_wp2
        go_ret;exact⟨r,rfl,hb,by omega,by omega,fun _=>hle⟩
   . go_enter func28,ntmps28
     go_wp2;go_ret;exact⟨-1,rfl,Below.refl _ _,by omega,by omega,fun h=>by omega⟩
theorem Zno (k f h i p r:Zy_) (w:World) :
 Calls prog 101 #[.agg #[.string k,.string f,.string h,.string i,.string p,.string r]] w
  fun e w'=>e=.returned (.agg #[.string k,.string f,.string h,.string i,.string p,.string r])/\Zw_ w w':=by
 go_enter func101,ntmps101;go_wp2;refine bodyPost_ret (v:=.agg #[.string k,.string f,.string h,.string i,.string p,.string r]) (by simp [results,results101,go_sem]) rfl ⟨rfl,?_⟩
 repeat (refine Below.setCell ?_ (by dsimp;omega) _)
 exact ((Zb_.alloc Zl_ _).alloc (by simp) _).alloc (by simp;omega) _
theorem Zlg (k f h i p r:Zy_) (w:World) :
 Calls prog 119 #[.agg #[.string k,.string f,.string h,.string i,.string p,.string r],.agg #[.string k,.string f,.string h,.string i,.string p,.string r]] w
  fun e w'=>e=.returned (.bool true)/\Zw_ w w':=by
 go_enter func119,ntmps119;go_wp2;go_ret;exact⟨rfl,(Zb_.alloc Zl_ _).alloc (by simp) _⟩
theorem Znr (lo lo':Nat) (v v':Value) (Ms:List Md) (w:World) (hv:Zbg lo w v Ms) (hv':Zbg lo' w v' Ms) :
 Calls prog 56 #[v,v'] w fun e w'=>e=.returned (.bool true)/\Zw_ w w':=by
 by_cases hL:Ms=[]
 . subst hL
   obtain⟨a,cap,rfl⟩:=hv.form;obtain⟨a',cap',rfl⟩:=hv'.form;clear hv hv';go_enter func56,ntmps56;go_wp2
   go_loop [5] (fun i=>i=.int .i64 0) (fun _=>0)
   case atStart=>rfl
   case round=>
    subst hrel;go_wp2;go_ret;exact⟨rfl,Below.refl _ _⟩
 . obtain⟨b,off,cap,rfl,hm,hbw,_,hc⟩:=hv.full hL
   obtain⟨b',off',cap',rfl,_,hbw',_,hc'⟩:=hv'.full hL;clear hv hv';unfold maxLen at hm;go_enter func56,ntmps56;go_wp2
   go_loopw [5] (fun i wr=>∃ k:Nat,i=.int .i64 k/\k<=Ms.length/\Zw_ w wr) (fun i _=>Ms.length - (intOf i).toNat)
   case atStart=>exact⟨0,rfl,by omega,Below.refl _ _⟩
   case round=>
    obtain⟨k,rfl,hk,hb⟩:=hrel
    by_cases hlt:k < Ms.length
    . obtain⟨_,hcell⟩:=hc k hlt
      obtain⟨_,hcell'⟩:=hc' k hlt;obtain⟨c0,c1,c2,c3,c4,c5⟩:=hcell.below hb hbw;obtain⟨d0,d1,d2,d3,d4,d5⟩:=hcell'.below hb hbw';clear hcell hcell';have HB:=Zab hb;clear hb;go_wp2
      go_region_with (go_at_call 119;refine (Zlg _ _ _ _ _ _ _).mono ?_;rintro e w1 ⟨rfl,hb1⟩;have hB:Hd (Zw_ w w1):=(HB.o.drew).trans (hb1.mono HB.o.size);clear hb1)
      all_goals go_wp2
      all_goals go_roundw
      all_goals first
       | (case rel=>exact⟨k+1,by go_num,by omega,hB.o⟩)
       | (case measure=>simp [intOf];omega)
    . go_wp2
      go_ret;exact⟨rfl,hb⟩
def Zch (Fs:List Fd) (s:Zy_):Int:=if ZaS Fs s < Fs.length then (ZaS Fs s:Int) else -1
theorem Zid {s:Zy_} (hk:k < Fs.length) (h:(Fs[k].nm.toList == s.toList)=true) (hall:∀ i (h:i < Fs.length),i < k->(Fs[i].nm.toList == s.toList)=false):Zch Fs s=k:=by
 unfold Zch;rw [Zn8 hk h hall,if_pos hk]
theorem Zkr {s:Zy_} (hall:∀ i (h:i < Fs.length),(Fs[i].nm.toList == s.toList)=false):Zch Fs s= -1:=by
 unfold Zch;rw [ZrE hall,if_neg (Nat.lt_irrefl _)]
theorem ZbI {s:Zy_} (h:ZaS Fs s < Fs.length):Zch Fs s=ZaS Fs s:=if_pos h
theorem Zj5 {s:Zy_} (h:¬ ZaS Fs s < Fs.length):Zch Fs s= -1:=if_neg h
theorem Zbl (lo:Nat) (v:Value) (Fs:List Fd) (s:Zy_) (w:World) (hv:Zav lo w v Fs) :
 Calls prog 221 #[v,.string s] w fun e w'=>e=.returned (.int .i64 (Zch Fs s))/\w'=w:=by
 by_cases hL:Fs=[]
 . subst hL
   obtain⟨a,cap,rfl⟩:=Zdt hv;clear hv;go_enter func221,ntmps221;go_wp2
   go_loop [5] (fun i=>i=.int .i64 0) (fun _=>0)
   case atStart=>rfl
   case round=>
    subst hrel;go_wp2;go_ret;exact⟨rfl,rfl⟩
 . obtain⟨b,off,cap,rfl,hm,hbw,_,hc⟩:=hv.full hL
   clear hv;unfold maxLen at hm;go_enter func221,ntmps221;go_wp2
   go_loop [5] (fun i=>∃ k:Nat,i=.int .i64 k/\k<=Fs.length/\∀ i (h:i < Fs.length),i < k->(Fs[i].nm.toList == s.toList)=false) (fun i=>Fs.length - (intOf i).toNat)
   case atStart=>exact⟨0,rfl,by omega,fun i _ h=>by omega⟩
   case round=>
    obtain⟨k,rfl,hk,hall⟩:=hrel;have HA:=Zab hall;clear hall
    by_cases hlt:k < Fs.length
    . obtain⟨_,wv,hcell,_⟩:=hc k hlt
      have c0:=hcell.c0;clear hcell
      by_cases he:(Fs[k].nm.toList == s.toList)=true
      . go_wp2
        go_ret;exact⟨by rw [Zid hlt he HA.o];rfl,rfl⟩
      . have he':(Fs[k].nm.toList == s.toList)=false:=by simpa using he
        clear he;go_wp2
        go_round
        case rel=>exact⟨k+1,by go_num,by omega,fun i h h'=>by
                   by_cases e:i=k
                   . subst e;exact he'
                   . exact HA.o i h (by omega)⟩
        . simp [intOf];omega
    . go_wp2
      go_ret;exact⟨by rw [Zkr fun i h=>HA.o i h (by omega)];rfl,rfl⟩
theorem Zd5 (lo:Nat) (v:Value) (Fs:List Fd) (s:Zy_) (w:World) (hv:Zav lo w v Fs) :
 Calls prog 220 #[v,.string s] w fun e w'=>e=.returned (.bool (Zbh Fs s))/\w'=w:=by
 have HV:=Zab hv
 by_cases hp:ZaS Fs s < Fs.length
 . obtain⟨b,off,cap,rfl,hm,hbw,_,hc⟩:=hv.full (by intro e;rw [e] at hp;simp at hp)
   clear hv;unfold maxLen at hm;obtain⟨_,wv,hcell,_⟩:=hc _ hp;have c1:=hcell.c1;have HQ:Hd (Zbh Fs s=!(Fs[ZaS Fs s].kd == 4)):=ZlU hp;have HP:Hd (Zch Fs s=ZaS Fs s):=ZbI hp;clear hcell hc;go_enter func220,ntmps220;go_wp2_with fail;refine (Zbl lo _ Fs s _ HV.o).mono ?_;rintro e w1 ⟨rfl,rfl⟩;rw [HP.o]
   cases hk:(Fs[ZaS Fs s].kd == 4) with
   | true=>
    have HQ2:Hd (Zbh Fs s=false):=by unfold Hd;rw [HQ.o,hk];rfl
    have e4:Fs[ZaS Fs s].kd=4:=by simpa using hk
    rw [e4] at c1;clear e4 hk HQ HP;go_wp2;go_ret;exact⟨Zaa HQ2.o.symm,rfl⟩
   | false=>
    have HQ2:Hd (Zbh Fs s=true):=by unfold Hd;rw [HQ.o,hk];rfl
    have e4:¬ Fs[ZaS Fs s].kd=4:=by simpa using hk
    clear hk HQ HP;go_wp2;go_ret;exact⟨Zaa (by rw [HQ2.o];simp [e4]),rfl⟩
 . obtain⟨a,cap,rfl⟩:=hv.form
   clear hv;have HQ:Hd (Zbh Fs s=false):=Zl1 hp;have HP:Hd (Zch Fs s= -1):=Zj5 hp;go_enter func220,ntmps220;go_wp2_with fail;refine (Zbl lo _ Fs s _ HV.o).mono ?_;rintro e w1 ⟨rfl,rfl⟩;rw [HP.o];clear HP hp;go_wp2;go_ret;exact⟨Zaa HQ.o.symm,rfl⟩
theorem Zdw {L:List Zy_}{s:Zy_}:ZeJ L s=true↔s ∈ L:=by
 unfold ZeJ;rw [List.any_eq_true]
 constructor
 . rintro⟨x,hx,h⟩;rw [ZaU] at h;subst h;exact hx
 . exact fun h=>⟨s,h,Zdb _⟩
theorem Ziu {L:List Zy_}{s:Zy_} (h:ZeJ L s=false):s ∉ L:=fun hm=>by rw [Zdw.2 hm] at h;cases h
def Zfj (Ms:List Md) (kind field:Zy_) (row:List Zy_):Bool:=(Zap kind Ms field).all (ZeJ row)
theorem Zdm {kind field:Zy_}{row:List Zy_}:Zfj Ms kind field row=true↔∀ r ∈ Zap kind Ms field,r ∈ row:=by
 unfold Zfj;rw [List.all_eq_true];exact⟨fun h r hr=>Zdw.1 (h r hr),fun h r hr=>Zdw.2 (h r hr)⟩
def Zjk (kind field:Zy_) (row:List Zy_) (m:Md):Bool:=!Zdg kind field m || ((m.wh.toList.isEmpty || ZeJ row m.wh)&&(m.fr.toList.isEmpty || ZeJ row m.fr))
theorem ZqZ {kind field:Zy_}{row:List Zy_} (h:∀ i (h:i < Ms.length),Zjk kind field row Ms[i]=true):Zfj Ms kind field row=true:=by
 rw [Zdm];intro r hr;obtain⟨m,hm,hf,hrd⟩:=ZdY.1 hr;obtain⟨i,hi,rfl⟩:=List.getElem_of_mem hm;have:=h i hi;unfold Zjk at this;rw [hf] at this;simp only [Bool.not_true,Bool.false_or,Bool.and_eq_true,Bool.or_eq_true] at this;unfold ZiH at hrd
 rcases List.mem_append.1 hrd with h1 | h1
 . by_cases he:Ms[i].wh.toList.isEmpty=true
   . rw [if_pos he] at h1;cases h1
   . rw [if_neg he] at h1
     rw [List.mem_singleton.1 h1]
     rcases this.1 with h2 | h2
     . exact absurd h2 he
     . exact Zdw.1 h2
 . by_cases he:Ms[i].fr.toList.isEmpty=true
   . rw [if_pos he] at h1;cases h1
   . rw [if_neg he] at h1
     rw [List.mem_singleton.1 h1]
     rcases this.2 with h2 | h2
     . exact absurd h2 he
     . exact Zdw.1 h2
theorem Zhi {kind field:Zy_}{row:List Zy_}{i:Nat} (hi:i < Ms.length) (h:Zjk kind field row Ms[i]=false):Zfj Ms kind field row=false:=by
 cases hr:Zfj Ms kind field row with
 | false=>rfl
 | true=>
  rw [Zdm] at hr
  have hf:Zdg kind field Ms[i]=true:=by
   cases hf:Zdg kind field Ms[i] with
   | true=>rfl
   | false=>unfold Zjk at h;rw [hf] at h;cases h
  have key:∀ r ∈ ZiH Ms[i],ZeJ row r=true:=fun r hrr=>Zdw.2 (hr r (ZdY.2 ⟨Ms[i],List.getElem_mem hi,hf,hrr⟩))
  have hx:Zjk kind field row Ms[i]=true:=by
   unfold Zjk;simp only [hf,Bool.not_true,Bool.false_or,Bool.and_eq_true,Bool.or_eq_true];refine⟨?_,?_⟩
   . cases hw:Ms[i].wh.toList.isEmpty with
     | true=>exact Or.inl rfl
     | false=>exact Or.inr (key _ (Zsr hw))
   . cases hw:Ms[i].fr.toList.isEmpty with
     | true=>exact Or.inl rfl
     | false=>exact Or.inr (key _ (ZsP hw))
  rw [hx] at h;cases h
theorem ZkP (lo:Nat) (v rv:Value) (Ms:List Md) (kind field:Zy_) (row:List Zy_) (w:World) (hv:Zbg lo w v Ms) (hr:Zag w rv row) :
 Calls prog 223 #[v,.string kind,.string field,rv] w fun e w'=>e=.returned (.bool (Zfj Ms kind field row))/\Zw_ w w':=by
 have HR:=Zab hr;obtain⟨ra,rn,rcap,rfl⟩:=hr.form;clear hr
 by_cases hL:Ms=[]
 . subst hL
   obtain⟨a,cap,rfl⟩:=hv.form;clear hv;have HQ:Hd (Zfj [] kind field row=true):=rfl;go_enter func223,ntmps223;go_wp2
   go_loop [9] (fun i=>i=.int .i64 0) (fun _=>0)
   case atStart=>rfl
   case round=>
    subst hrel;go_wp2;go_ret;exact⟨Zaa HQ.o.symm,Below.refl _ _⟩
 obtain⟨b,off,cap,rfl,hm,hbw,_,hc⟩:=hv.full hL;clear hv;unfold maxLen at hm;go_enter func223,ntmps223;go_wp2
 go_loopw [9] (fun i wr=>∃ k:Nat,i=.int .i64 k/\k<=Ms.length/\Zw_ w wr/\∀ i (h:i < Ms.length),i < k->Zjk kind field row Ms[i]=true) (fun i _=>Ms.length - (intOf i).toNat)
 case atStart=>exact⟨0,rfl,by omega,Below.refl _ _,fun i _ h=>by omega⟩
 case round=>
  obtain⟨k,rfl,hk,hb,hall⟩:=hrel;have HA:=Zab hall;have HB:=Zab hb;clear hall hb
  by_cases hlt:k < Ms.length
  . obtain⟨_,hcell⟩:=hc k hlt
    obtain⟨c0,c1,c2,c3,c4,c5⟩:=hcell.below HB.o hbw;clear hcell;have HB1:∀ o,Hd (Zw_ w (wr.alloc o)):=fun o=>HB.o.alloc HB.o.size _
    have HNX:Hd (Zjk kind field row Ms[k]=true->∀ i (h:i < Ms.length),i < k+1->Zjk kind field row Ms[i]=true):=fun h i hi hik=>by
     by_cases e:i=k
     . subst e;exact h
     . exact HA.o i hi (by omega)
    cases hk1:(Ms[k].kind.toList == kind.toList) with
    | false=>
     go_wp2;go_roundw
     . exact⟨k+1,by go_num,by omega,(HB1 _).o,HNX.o (by unfold Zjk Zdg;simp [hk1])⟩
     . simp [intOf];omega
    | true=>
     cases hf1:(Ms[k].field.toList == field.toList) with
     | false=>
      go_wp2;go_roundw
      . exact⟨k+1,by go_num,by omega,(HB1 _).o,HNX.o (by unfold Zjk Zdg;simp [hk1,hf1])⟩
      . simp [intOf];omega
     | true=>
      cases hwe:Ms[k].wh.toList.isEmpty with
      | true=>
       cases hfe:Ms[k].fr.toList.isEmpty with
       | true=>
        go_wp2;go_roundw
        . exact⟨k+1,by go_num,by omega,(HB1 _).o,HNX.o (by unfold Zjk Zdg;simp [hk1,hf1,hwe,hfe])⟩
        . simp [intOf];omega
       | false=>
        go_wp2_with fail;refine (Zek _ row Ms[k].fr _ (HR.o.below (HB1 _).o)).mono ?_;rintro e w1 ⟨rfl,rfl⟩
        cases hfh:ZeJ row Ms[k].fr with
        | true=>
         go_wp2;go_roundw
         . exact⟨k+1,by go_num,by omega,(HB1 _).o,HNX.o (by unfold Zjk Zdg;simp [hk1,hf1,hwe,hfe,hfh])⟩
         . simp [intOf];omega
        | false=>
         go_wp2;go_ret;exact⟨Zaa (Zhi hlt (by unfold Zjk Zdg;simp [hk1,hf1,hwe,hfe,hfh])).symm,(HB1 _).o⟩
      | false=>
       go_wp2_with fail;refine (Zek _ row Ms[k].wh _ (HR.o.below (HB1 _).o)).mono ?_;rintro e w1 ⟨rfl,rfl⟩
       cases hwh:ZeJ row Ms[k].wh with
       | false=>
        go_wp2;go_ret;exact⟨Zaa (Zhi hlt (by unfold Zjk Zdg;simp [hk1,hf1,hwe,hwh])).symm,(HB1 _).o⟩
       | true=>
        cases hfe:Ms[k].fr.toList.isEmpty with
        | true=>
         go_wp2;go_roundw
         . exact⟨k+1,by go_num,by omega,(HB1 _).o,HNX.o (by unfold Zjk Zdg;simp [hk1,hf1,hwe,hwh,hfe])⟩
         . simp [intOf];omega
        | false=>
         go_wp2_with fail;refine (Zek _ row Ms[k].fr _ (HR.o.below (HB1 _).o)).mono ?_;rintro e w1 ⟨rfl,rfl⟩
         cases hfh:ZeJ row Ms[k].fr with
         | true=>
          go_wp2;go_roundw
          . exact⟨k+1,by go_num,by omega,(HB1 _).o,HNX.o (by unfold Zjk Zdg;simp [hk1,hf1,hwe,hwh,hfe,hfh])⟩
          . simp [intOf];omega
         | false=>
          go_wp2;go_ret;exact⟨Zaa (Zhi hlt (by unfold Zjk Zdg;simp [hk1,hf1,hwe,hwh,hfe,hfh])).symm,(HB1 _).o⟩
  . go_wp2
    go_ret;exact⟨Zaa (ZqZ fun i h=>HA.o i h (by omega)).symm,HB.o⟩
structure ZdU (base:Nat) (W:World) (v:Value) (R:List Zy_):Prop where
 row:W.ownsRow base 9 1 v R.length (R.map Value.string)
 sz:∀ s ∈ R,s.size<=maxLen
theorem ZdU.form {W:World}{R:List Zy_} (h:ZdU base W v R):∃ a cap,v=.slice a R.length cap:=by
 rcases h.row.2 with ⟨hv,hn⟩ | ⟨g,cap,cur,hv,_⟩
 . rw [hn];exact⟨_,_,hv⟩
 . exact⟨_,_,hv⟩
theorem ZdU.below {W W':World}{R:List Zy_} (h:ZdU base W v R) (hb:Below W.heap.size W W'):ZdU base W' v R:=by
 refine⟨⟨h.row.1,?_⟩,h.sz⟩
 rcases h.row.2 with hv | ⟨g,cap,cur,hv,h1,h2,h3⟩
 . exact Or.inl hv
 . have hg:g < W.heap.size:=by
    rcases Nat.lt_or_ge g W.heap.size with h | h
    . exact h
    . rw [Array.getElem?_eq_none h] at h2;cases h2
   exact Or.inr ⟨g,cap,cur,hv,h1,by rw [hb.block g hg];exact h2,h3⟩
theorem ZdU.strs {W:World}{R:List Zy_} (h:ZdU base W v R):Zag W v R:=by
 rcases h.row.2 with ⟨hv,hn⟩ | ⟨g,cap,cur,hv,h1,h2,h3,h4,h5,h6⟩
 . exact Or.inl ⟨none,0,hv,List.length_eq_zero_iff.1 hn⟩
 . by_cases hR:R=[]
   . subst hR;exact Or.inl ⟨_,_,hv,rfl⟩
   . have hg:g < W.heap.size:=by
      rcases Nat.lt_or_ge g W.heap.size with h | h
      . exact h
      . rw [Array.getElem?_eq_none h] at h2;cases h2
     refine Or.inr ⟨g,0,cap,hv,hR,Nat.le_trans h3 h4,hg,fun i hi=>?_,h.sz⟩;rw [Nat.zero_add,cell_of_row W g i cur 9 (0,0) h2];have:(cur.toList.take (R.length*1))[i]?=(R.map Value.string)[i]?:=by rw [h6]
     rw [List.getElem?_take_of_lt (by omega)] at this
     simpa [hi] using this
theorem ZdU.mono {base':Nat}{W:World}{R:List Zy_} (h:ZdU base W v R) (hb:base'<=base):ZdU base' W v R:=by
 refine⟨⟨h.row.1,?_⟩,h.sz⟩
 rcases h.row.2 with hv | ⟨g,cap,cur,hv,h1,h2⟩
 . exact Or.inl hv
 . exact Or.inr ⟨g,cap,cur,hv,Nat.le_trans hb h1,h2⟩
theorem ZdU.nil (base:Nat) (W:World):ZdU base W (.slice none 0 0) []:=⟨World.ownsRow_nil _ _ _ _,fun s h=>by simp at h⟩
theorem ZdU.made (W:World) (g:Nat) (hg:W.heap.size=g) (hb:base<=g):ZdU base (W.alloc (.cells #[] 9)) (.slice (some ⟨g,0,none⟩) 0 0) []:=by
 subst hg;exact⟨World.ownsRow_made (base:=base) (e:=9) (size:=1) W #[] 0 hb Zz_ (by simp),fun s h=>by simp at h⟩
theorem ZdU.grown {W:World}{R:List Zy_} (h:ZdU base W v R) (hg:W.grownBy w' v.ownBlock) (hb:base<=W.heap.size):Below base W w':=by
 refine⟨hg.os,hg.tape,hg.output,hg.size,fun k hk=>hg.block k (by omega) ?_⟩
 rcases h.row.2 with ⟨hv,_⟩ | ⟨g,cap,cur,hv,h1,_⟩
 . rw [hv];intro e;cases e
 . rw [hv];intro e
   have:k=g:=by simpa [Value.ownBlock] using e
   omega
theorem ZdU.snoc {W:World}{v':Value}{R:List Zy_}{s:Zy_} (h:ZdU base W v R) (hown:w'.ownsRow base 9 1 v' (R.length+1) (R.map Value.string ++ [.string s])) (hs:s.size<=maxLen):ZdU base w' v' (R ++ [s]):=by
 refine⟨by rw [List.length_append,List.map_append];exact hown,fun t ht=>?_⟩
 rcases List.mem_append.1 ht with h1 | h1
 . exact h.sz t h1
 . rw [List.mem_singleton.1 h1];exact hs
theorem Zfx (X:World) (g:Nat) (u:Value) (t:TypeId) (hg:X.heap.size=g):∀ j x,[u][j]?=some x->(X.alloc (.cells #[u] t)).cell? ((⟨g,0,none⟩:Addr).add j)=some x:=by
 subst hg;intro j x hj;rw [Go.WideShapes.add_plain,Nat.zero_add]
 cases j with
 | zero=>simp at hj;subst hj;simp
 | succ j=>simp at hj
theorem Zd1 (s:Zy_):∀ u ∈ [Value.string s],u.oneCell'=true:=fun u hu=>by rw [List.mem_singleton.1 hu];rfl
def Zet (Fs:List Fd) (rd:Zy_->List Zy_) (R:List Zy_) (k:Nat):Prop:=∀ i (h:i < Fs.length),i < k->Fs[i].nm ∈ R\/¬ ∀ r ∈ rd Fs[i].nm,r ∈ R
theorem Zet.stuck {rd:Zy_->List Zy_}{R:List Zy_} (h:Zet Fs rd R k) (hk:Fs.length<=k):ZiQ (ZaD Fs) rd R:=by
 intro x hx hn;obtain⟨i,hi,rfl⟩:=ZcE.1 hx
 rcases h i hi (by omega) with h1 | h1
 . exact absurd h1 hn
 . exact h1
theorem Zet.succ {rd:Zy_->List Zy_}{R:List Zy_} (h:Zet Fs rd R k) (hk:k < Fs.length) (hx:Fs[k].nm ∈ R\/¬ ∀ r ∈ rd Fs[k].nm,r ∈ R):Zet Fs rd R (k+1):=by
 intro i hi hik
 by_cases e:i=k
 . subst e;exact hx
 . exact h i hi (by omega)
theorem Zev (Fs:List Fd):(ZaD Fs).length=Fs.length:=by simp [ZaD]
theorem Zix {rd:Zy_->List Zy_}{R:List Zy_} (h:Zc8 (ZaD Fs) rd R):R.length<=Fs.length:=by
 have:=List.Nodup.length_le_of_subset h.nodup h.sub
 rwa [Zev] at this
def Zqc (x:Sh) (Ms:List Md) (R:List Zy_):Prop:=
 Zc8 (ZaD x.fields) (Zap x.kind Ms) R/\R.length<=x.fields.length/\(R.length=x.fields.length↔Zbt Ms x=true)
theorem Zqc.mk' {x:Sh}{R:List Zy_} (hg:Zc8 (ZaD x.fields) (Zap x.kind Ms) R) (hn:x.fields.length<=n) (h:R.length=n\/ZiQ (ZaD x.fields) (Zap x.kind Ms) R):Zqc x Ms R:=by
 have hl:=Zix hg;refine⟨hg,hl,fun e=>Zl2 hg (by rw [Zev];omega),fun hb=>?_⟩
 rcases h with h | h
 . omega
 . rcases Nat.lt_or_ge R.length x.fields.length with hlt | hge
   . unfold Zbt at hb
     rw [ZnZ h (by rw [Zev];exact hlt)] at hb;cases hb
   . omega
theorem Tryz.info166:(prog.info? 166).map (fun i=>(i.zero,i.size,i.bytes))=some (some (.agg #[.string ⟨#[]⟩,.string ⟨#[]⟩,.string ⟨#[]⟩,.string ⟨#[]⟩,.string ⟨#[]⟩,.string ⟨#[]⟩]),6,96):=by kernel_rfl
theorem Zbg.setCell (h:Zbg lo w v Ms) {p:Addr} (hp:p.block < lo) (u:Value):Zbg lo (w.setCell p u) v Ms:=by
 rcases h with h | ⟨b,off,cap,h1,h2,h3,h4,h5,h6,h7⟩
 . exact Or.inl h
 . refine Or.inr ⟨b,off,cap,h1,h2,h3,by simpa [World.setCell] using h4,h5,h6,fun i hi=>?_⟩
   obtain⟨hs,hc⟩:=h7 i hi;have e:∀ o,(w.setCell p u).cell? ⟨b,o,none⟩=w.cell? ⟨b,o,none⟩:=fun o=>Zas _ _ _ _ (by show b≠p.block;omega)
   exact⟨hs,by rw [e];exact hc.c0,by rw [e];exact hc.c1,by rw [e];exact hc.c2,by rw [e];exact hc.c3,by rw [e];exact hc.c4,by rw [e];exact hc.c5⟩
def ZbD (wr:World) (B:Nat) (Ms:List Md) (k:Nat):Prop:=
 ∃ f,wr.rowIs B 166 (Ms.length*6) f/\∀ i (h:i < Ms.length),i < k->Zea Ms[i]/\f (i*6)=.string Ms[i].kind/\f (i*6+1)=.string Ms[i].field/\f (i*6+2)=.string Ms[i].wh/\f (i*6+3)=.string Ms[i].is/\f (i*6+4)=.string Ms[i].put/\f (i*6+5)=.string Ms[i].fr
theorem ZbD.below (h:ZbD wr B Ms k) (hb:Below wr.heap.size wr w1):ZbD w1 B Ms k:=by
 obtain⟨f,hr,hall⟩:=h;exact⟨f,hr.of_block (hb.block B hr.lt),hall⟩
theorem ZbD.free (h:ZbD wr B Ms k) (i:Nat):wr.frozen? ⟨B,i,none⟩=false:=by
 obtain⟨f,hr,_⟩:=h;exact hr.frozen i
theorem ZbD.there (h:ZbD wr B Ms k) (i:Nat) (hi:i < Ms.length*6):∃ v,wr.cell? ⟨B,i,none⟩=some v:=by
 obtain⟨f,hr,_⟩:=h;exact⟨_,hr.cell hi⟩
theorem ZbD.lt (h:ZbD wr B Ms k):B < wr.heap.size:=by
 obtain⟨f,hr,_⟩:=h;exact hr.lt
theorem ZbD.step (h:ZbD w1 B Ms k) (hk:k < Ms.length) (hz:Zea Ms[k]) :
 ZbD ((((((w1.setCell ⟨B,k*6,none⟩ (.string Ms[k].kind)).setCell ⟨B,k*6+1,none⟩ (.string Ms[k].field)).setCell ⟨B,k*6+2,none⟩ (.string Ms[k].wh)).setCell ⟨B,k*6+3,none⟩ (.string Ms[k].is)).setCell ⟨B,k*6+4,none⟩ (.string Ms[k].put)).setCell ⟨B,k*6+5,none⟩ (.string Ms[k].fr)) B Ms (k+1):=by
 obtain⟨f,hr,hall⟩:=h;refine⟨_,((((((hr.set _ _).set _ _).set _ _).set _ _).set _ _).set _ _),fun i hi hik=>?_⟩
 by_cases e:i=k
 . subst e
   exact⟨hz,by simp,by simp,by simp,by simp,by simp,by simp⟩
 . obtain⟨hz',h0,h1,h2,h3,h4,h5⟩:=hall i hi (by omega)
   refine⟨hz',?_,?_,?_,?_,?_,?_⟩
   . rw [if_neg (by omega),if_neg (by omega),if_neg (by omega),if_neg (by omega),if_neg (by omega),if_neg (by omega)];exact h0
   . rw [if_neg (by omega),if_neg (by omega),if_neg (by omega),if_neg (by omega),if_neg (by omega),if_neg (by omega)];exact h1
   . rw [if_neg (by omega),if_neg (by omega),if_neg (by omega),if_neg (by omega),if_neg (by omega),if_neg (by omega)];exact h2
   . rw [if_neg (by omega),if_neg (by omega),if_neg (by omega),if_neg (by omega),if_neg (by omega),if_neg (by omega)];exact h3
   . rw [if_neg (by omega),if_neg (by omega),if_neg (by omega),if_neg (by omega),if_neg (by omega),if_neg (by omega)];exact h4
   . rw [if_neg (by omega),if_neg (by omega),if_neg (by omega),if_neg (by omega),if_neg (by omega),if_neg (by omega)];exact h5
def Zp0 (lo hi:Nat) (w:World) (v:Value) (n:Nat):Prop:=
 (∃ (a:Option Addr) (cap:Nat),v=.slice a 0 cap/\n=0)\/
 ∃ (b off cap:Nat),v=.slice (some ⟨b,off,none⟩) n cap/\0 < n/\n<=maxLen/\lo<=b/\b < hi/\b < w.heap.size/\(∀ i,i < n*6->(w.cell? ⟨b,off+i,none⟩).isSome=true)/\∀ i,w.frozen? ⟨b,i,none⟩=false
theorem Zp0.kept {hi':Nat} (h:Zp0 lo hi w v n) (k:ZbU lo' hi' w w'):Zp0 lo hi w' v n:=by
 rcases h with h | ⟨b,off,cap,h1,h2,h3,h4,h5,h6,h7,h8⟩
 . exact Or.inl h
 . exact Or.inr ⟨b,off,cap,h1,h2,h3,h4,h5,Zk_ h6 k.touch.size,fun i hi'=>k.there _ h6 (h7 i hi'),fun i=>(k.frz _ h6).trans (h8 i)⟩
theorem Zp0.below (h:Zp0 lo hi w v n) (hb:Zw_ w w'):Zp0 lo hi w' v n:=h.kept (ZbU.below (lo:=0) (hi:=0) hb)
theorem ZbD.done (h:ZbD wr B Ms k) (hk:Ms.length<=k) (hne:Ms≠[]) (hm:Ms.length<=maxLen):Zbg B wr (.slice (some ⟨B,0,none⟩) Ms.length Ms.length) Ms/\Zp0 B wr.heap.size wr (.slice (some ⟨B,0,none⟩) Ms.length Ms.length) Ms.length:=by
 refine⟨?_,Or.inr ⟨B,0,Ms.length,rfl,List.length_pos_iff.2 hne,hm,Nat.le_refl _,h.lt,h.lt,fun i hi=>?_,h.free⟩⟩
 . obtain⟨f,hr,hall⟩:=h
   refine Or.inr ⟨B,0,Ms.length,rfl,hne,hm,hr.lt,Nat.le_refl _,Nat.le_refl _,fun i hi=>?_⟩;obtain⟨hz,h0,h1,h2,h3,h4,h5⟩:=hall i hi (by omega);rw [Nat.zero_add];exact⟨hz,by rw [hr.cell (by omega),h0],by rw [hr.cell (by omega),h1],by rw [hr.cell (by omega),h2],by rw [hr.cell (by omega),h3],by rw [hr.cell (by omega),h4],by rw [hr.cell (by omega),h5]⟩
 . obtain⟨v,hv⟩:=h.there i hi;rw [Nat.zero_add,hv];rfl
theorem ZbD.new (w:World) (Ms:List Md) (z:Array Value):ZbD (w.alloc (.cells (madeCells z (Ms.length*6)) 166)) w.heap.size Ms 0:=by
 refine⟨fun i=>(madeCells z (Ms.length*6)).getD i default,?_,fun i _ h=>by omega⟩;have:=World.rowIs_alloc w (madeCells z (Ms.length*6)) 166 (fun i=>(madeCells z (Ms.length*6)).getD i default) (fun i hi=>by simp [Array.getD,hi])
 rwa [size_madeCells] at this
theorem ZhT (lo:Nat) (v:Value) (Ms:List Md) (w:World) (hv:Zbg lo w v Ms) (hn:Ms.length<=1048576) :
 Calls prog 42 #[v] w fun e w'=>∃ v',e=.returned v'/\Zw_ w w'/\Zbg w.heap.size w' v' Ms/\Zp0 w.heap.size w'.heap.size w' v' Ms.length:=by
 obtain⟨i0,hi,hz0,hz1,hz2⟩:=info_parts Tryz.info166
 by_cases hL:Ms=[]
 . subst hL
   obtain⟨a,cap,rfl⟩:=hv.form;clear hv
   have hmk:∀ u:World,(Instr.makeSlice 44 (.int .i64 0) (.int .i64 0)).run prog u=.ok (.slice (some ⟨u.heap.size,0,none⟩) 0 0) (u.alloc (.cells (madeCells (Value.cells (.agg #[.string ⟨#[]⟩,.string ⟨#[]⟩,.string ⟨#[]⟩,.string ⟨#[]⟩,.string ⟨#[]⟩,.string ⟨#[]⟩])) 0) 166)):=fun u=>by
    have h:=run_make (P:=prog) u 44 166 i0 _ underlying44 hi hz0 .i64 .i64 0 0 (by omega) (by omega) (by omega) (by omega)
    simpa [hz1] using h
   go_enter func42,ntmps42;go_wp2
   go_loop [4] (fun i=>i=.int .i64 0) (fun _=>0)
   case atStart=>rfl
   case round=>
    subst hrel;go_wp2;go_ret;exact⟨_,rfl,Zb_.alloc Zl_ _,Or.inl ⟨_,_,rfl,rfl⟩,Or.inl ⟨_,_,rfl,rfl⟩⟩
 . obtain⟨b,off,cap,rfl,hm,hbw,_,hc⟩:=hv.full hL
   clear hv;have HM:Hd (Ms.length<=maxLen):=hm;unfold maxLen at hm
   have hmk:∀ u:World,(Instr.makeSlice 44 (.int .i64 (Ms.length:Int)) (.int .i64 (Ms.length:Int))).run prog u=.ok (.slice (some ⟨u.heap.size,0,none⟩) Ms.length Ms.length) (u.alloc (.cells (madeCells (Value.cells (.agg #[.string ⟨#[]⟩,.string ⟨#[]⟩,.string ⟨#[]⟩,.string ⟨#[]⟩,.string ⟨#[]⟩,.string ⟨#[]⟩])) (Ms.length*6)) 166)):=fun u=>by
    have h:=run_make (P:=prog) u 44 166 i0 _ underlying44 hi hz0 .i64 .i64 Ms.length Ms.length (by omega) (by omega) (by rw [hz2];omega) (by omega);rw [hz1] at h
    simpa using h
   clear hi hz0 hz1 hz2;go_enter func42,ntmps42;go_wp2;clear hmk
   go_loopw [4] (fun i wr=>∃ k:Nat,i=.int .i64 k/\k<=Ms.length/\Zw_ w wr/\ZbD wr w.heap.size Ms k) (fun i _=>Ms.length - (intOf i).toNat)
   case atStart=>exact⟨0,rfl,by omega,Zb_.alloc Zl_ _,ZbD.new w Ms _⟩
   case round=>
    obtain⟨k,rfl,hk,hb,hf⟩:=hrel
    by_cases hlt:k < Ms.length
    . obtain⟨hsz,hcell⟩:=hc k hlt
      obtain⟨c0,c1,c2,c3,c4,c5⟩:=hcell.below hb hbw;clear hcell;go_wp2_with fail;refine (Zno _ _ _ _ _ _ _).mono ?_;rintro e w1 ⟨rfl,hb1⟩;have hf1:=hf.below hb1;have HST:=Zab (hf1.step hlt hsz);have hB:Hd (Zw_ w w1):=hb.trans (hb1.mono hb.size);have hfr:=hf1.free;obtain⟨o0,ho0⟩:=hf1.there (k*6) (by omega);obtain⟨o1,ho1⟩:=hf1.there (k*6+1) (by omega);obtain⟨o2,ho2⟩:=hf1.there (k*6+2) (by omega);obtain⟨o3,ho3⟩:=hf1.there (k*6+3) (by omega);obtain⟨o4,ho4⟩:=hf1.there (k*6+4) (by omega);obtain⟨o5,ho5⟩:=hf1.there (k*6+5) (by omega);clear hf hf1 hb1 hb c0 c1 c2 c3 c4 c5;go_wp2;go_roundw
      . 
       exact⟨k+1,by go_num,by omega,((((((hB.o.setCell Zl_ _).setCell Zl_ _).setCell Zl_ _).setCell Zl_ _).setCell Zl_ _).setCell Zl_ _),HST.o⟩
      . simp [intOf];omega
    . go_wp2
      go_ret;have hd:=hf.done (by omega) hL HM.o;exact⟨_,rfl,hb,hd.1,hd.2⟩
theorem Zk0 (lo hi:Nat) (v:Value) (n:Nat) (k:Int) (w:World) (hv:Zp0 lo hi w v n) (h0:0<=k) (hn:n<=1048576) (hk:k<=1500000000000000000) :
 Calls prog 59 #[v,.int .i64 k] w fun e w'=>∃ r:Int,e=.returned (.int .i64 r)/\k<=r/\r<=1600000000000000000/\ZbU lo hi w w':=by
 rcases hv with ⟨a,cap,rfl,rfl⟩ | ⟨b,off,cap,rfl,hne,hm,hlo,hhi,hbw,hcs,hfr⟩
 . go_enter func59,ntmps59
   go_wp2
   go_loop [5,1] (fun i q=>i=.int .i64 0/\q=.int .i64 k) (fun _ _=>0)
   case atStart=>exact⟨rfl,rfl⟩
   case round=>
    obtain⟨rfl,rfl⟩:=hrel;go_wp2;go_ret;exact⟨k,rfl,by omega,by omega,ZbU.refl _ _ _⟩
 . unfold maxLen at hm
   have HC:=Zab hcs;have HFR:=Zab hfr;clear hcs hfr
   have hput:∀ (W:World) (j c:Nat) (u:Value),ZbU lo hi w W->j < n->c < 6->ZbU lo hi w (W.setCell ⟨b,off+j*6+c,none⟩ u):=fun W j c u hW hj hc=>
    hW.trans (ZbU.setCell lo hi W _ u ⟨hlo,hhi⟩ (hW.there _ hbw (by rw [Nat.add_assoc];exact HC.o _ (by omega))))
   have hput0:∀ (W:World) (j:Nat) (u:Value),ZbU lo hi w W->j < n->ZbU lo hi w (W.setCell ⟨b,off+j*6,none⟩ u):=fun W j u hW hj=>hput W j 0 u hW hj (by omega)
   have hget:∀ (W:World) (j c:Nat),ZbU lo hi w W->j < n->c < 6->∃ u,W.cell? ⟨b,off+j*6+c,none⟩=some u:=fun W j c hW hj hc=>
    Option.isSome_iff_exists.1 (hW.there _ hbw (by rw [Nat.add_assoc];exact HC.o _ (by omega)))
   have hfree:∀ (W:World),ZbU lo hi w W->∀ i,W.frozen? ⟨b,i,none⟩=false:=fun W hW i=>(hW.frz _ hbw).trans (HFR.o i)
   have HP:=Zab hput;have HP0:=Zab hput0;have HG:=Zab hget;have HF:=Zab hfree;clear hput hput0 hget hfree;go_enter func59,ntmps59;go_wp2
   go_loopw [5,1] (fun i q wr=>∃ (j:Nat),i=.int .i64 j/\q=.int .i64 (k+j*6)/\j<=n/\ZbU lo hi w wr) (fun i _ _=>n - (intOf i).toNat)
   case atStart=>exact⟨0,rfl,by simp,by omega,ZbU.refl _ _ _⟩
   case round=>
    obtain⟨j,rfl,rfl,hj,hkp⟩:=hrel;have HK:=Zab hkp;clear hkp
    by_cases hlt:j < n
    . go_wp2_with fail
      refine (Zah _ _ (by omega)).mono ?_;rintro e w1 ⟨rfl,hb1⟩;have HK1:=Zab (HK.o.trans (ZbU.below hb1));clear hb1 HK;obtain⟨u0,g0⟩:=HG.o w1 j 0 HK1.o hlt (by omega);rw [Nat.add_zero] at g0;have gf:=HF.o w1 HK1.o;go_wp2_with fail;have HX1:=Zab (HP0.o w1 j (.string (mtB (k+j*6))) HK1.o hlt);clear g0 gf HK1;refine (Zah _ _ (by omega)).mono ?_;rintro e w2 ⟨rfl,hb2⟩;have HK2:=Zab (HX1.o.trans (ZbU.below hb2));clear hb2 HX1;obtain⟨u1,g1⟩:=HG.o w2 j 1 HK2.o hlt (by omega);have gf:=HF.o w2 HK2.o;go_wp2_with fail;have HX2:=Zab (HP.o w2 j 1 (.string (mtB (k+j*6+1))) HK2.o hlt (by omega));clear g1 gf HK2;refine (Zah _ _ (by omega)).mono ?_;rintro e w3 ⟨rfl,hb3⟩;have HK3:=Zab (HX2.o.trans (ZbU.below hb3));clear hb3 HX2;obtain⟨u2,g2⟩:=HG.o w3 j 2 HK3.o hlt (by omega);have gf:=HF.o w3 HK3.o;go_wp2_with fail
      have HX3:=Zab (HP.o w3 j 2 (.string (mtB (k+j*6+1+1))) HK3.o hlt (by omega));clear g2 gf HK3;refine (Zah _ _ (by omega)).mono ?_;rintro e w4 ⟨rfl,hb4⟩;have HK4:=Zab (HX3.o.trans (ZbU.below hb4));clear hb4 HX3;obtain⟨u3,g3⟩:=HG.o w4 j 3 HK4.o hlt (by omega);have gf:=HF.o w4 HK4.o;go_wp2_with fail;have HX4:=Zab (HP.o w4 j 3 (.string (mtB (k+j*6+1+1+1))) HK4.o hlt (by omega));clear g3 gf HK4;refine (Zah _ _ (by omega)).mono ?_;rintro e w5 ⟨rfl,hb5⟩;have HK5:=Zab (HX4.o.trans (ZbU.below hb5));clear hb5 HX4;obtain⟨u4,g4⟩:=HG.o w5 j 4 HK5.o hlt (by omega);have gf:=HF.o w5 HK5.o;go_wp2_with fail;have HX5:=Zab (HP.o w5 j 4 (.string (mtB (k+j*6+1+1+1+1))) HK5.o hlt (by omega));clear g4 gf HK5;refine (Zah _ _ (by omega)).mono ?_;rintro e w6 ⟨rfl,hb6⟩;have HK6:=Zab (HX5.o.trans (ZbU.below hb6));clear hb6 HX5
      obtain⟨u5,g5⟩:=HG.o w6 j 5 HK6.o hlt (by omega);have gf:=HF.o w6 HK6.o;have HX6:=Zab (HP.o w6 j 5 (.string (mtB (k+j*6+1+1+1+1+1))) HK6.o hlt (by omega));go_wp2;go_roundw
      . exact⟨j+1,by go_num,by go_num,by omega,HX6.o⟩
      . simp [intOf];omega
    . have e:j=n:=by omega
      subst e;go_wp2;go_ret;exact⟨_,rfl,by omega,by omega,HK.o⟩
open Go.ChangeShapes Go.WideShapes Go.ChangeAt Go.RowKit Go.Deep
open Go.ChangeMaps (open_string shut_string)
theorem Tryz.own:ownKnob prog.godebug=none:=by kernel_rfl
theorem Tryz.laidOut:laidOutB prog=true:=by kernel_rfl
theorem Tryz.cells9:prog.cellsOf 9=1:=by kernel_rfl
theorem Tryz.cells3:prog.cellsOf 3=1:=by kernel_rfl
theorem Tryz.cells4:prog.cellsOf 4=1:=by kernel_rfl
theorem Tryz.cells59:prog.cellsOf 59=1:=by kernel_rfl
theorem Tryz.cells255:prog.cellsOf 255=11:=by kernel_rfl
section
variable {H:Type} {enc:TypeId×Value->H} {W:World}
theorem ZfW {x:DataW H×List MemPlace} (h:DataW.trod enc prog W 0 (fun _=>true) true fuel 59 [c]=some x):∃ L,Zag W c L:=by
 rcases open_strs underlying59 underlying9 Tryz.cells9 h with ⟨hcs,_⟩ | ⟨a,len,cap,m,Sx,hcs,_,hl,hm,hmm,_,hcell⟩
 . simp only [List.cons.injEq,and_true] at hcs
   exact⟨[],Or.inl ⟨_,_,hcs,rfl⟩⟩
 . simp only [List.cons.injEq,and_true] at hcs
   simp only [if_true] at hmm;subst hmm
   by_cases h0:len=0
   . subst h0
     exact⟨[],Or.inl ⟨_,_,hcs,rfl⟩⟩
   . obtain⟨b,off,spot⟩:=a
     have hspot:spot=none:=by simpa [Addr.add] using World.cell?_spot (hcell 0 (by omega)).1
     subst hspot;refine⟨(List.range len).map Sx,Or.inr ⟨b,off,m,?_,?_,?_,?_,?_,?_⟩⟩
     . rw [hcs];simp
     . intro e;simp at e;exact h0 e
     . simp;omega
     . exact World.block_lt_of_cell? W _ (hcell 0 (by omega)).1
     . intro i hi
       simp at hi;have:=(hcell i (by omega)).1;rw [add_plain] at this
       simpa using this
     . intro s hs
       obtain⟨i,hi,rfl⟩:=List.mem_map.1 hs;exact (hcell i (by have:=List.mem_range.1 hi;omega)).2
end
theorem Tryz.cells135:prog.cellsOf 135=1:=by kernel_rfl
theorem Tryz.cells137:prog.cellsOf 137=2:=by kernel_rfl
theorem ZbO {α:Type}{p:Nat->α->Prop} (n:Nat):(∀ i,i < n->∃ x,p i x)->∃ L:List α,L.length=n/\∀ i (h:i < L.length),p i L[i]:=by
 induction n with
 | zero=>intro _;exact⟨[],rfl,fun i h=>absurd h (by simp)⟩
 | succ n ih=>
  intro h;obtain⟨L,hl,hL⟩:=ih (fun i hi=>h i (by omega));obtain⟨x,hx⟩:=h n (by omega);refine⟨L ++ [x],by simp [hl],fun i hi=>?_⟩
  by_cases e:i < L.length
  . rw [List.getElem_append_left e];exact hL i e
  . have e2:i=n:=by simp at hi;omega
    subst e2;have:(L ++ [x])[i]=x:=by rw [List.getElem_append_right (by omega)];simp [hl]
    rw [this];exact hx
theorem ZsJ (h:l.length=11):∃ c0 c1 c2 c3 c4 c5 c6 c7 c8 c9 c10,l=[c0,c1,c2,c3,c4,c5,c6,c7,c8,c9,c10]:=by
 match l,h with
 | [c0,c1,c2,c3,c4,c5,c6,c7,c8,c9,c10],_=>exact⟨c0,c1,c2,c3,c4,c5,c6,c7,c8,c9,c10,rfl⟩
theorem ZsH (h:l.length=2):∃ c0 c1,l=[c0,c1]:=by
 match l,h with
 | [c0,c1],_=>exact⟨c0,c1,rfl⟩
theorem Zag.in0 {L:List Zy_} (h:Zag w v L):Zaq 0 w v L:=by
 rcases h with h | ⟨b,off,cap,h1,h2,h3,h4,h5,h6⟩
 . exact Or.inl h
 . exact Or.inr ⟨b,off,cap,h1,h2,h3,h4,h5,h6,Nat.zero_le _⟩
section
variable {H:Type} {enc:TypeId×Value->H} {W:World}
theorem ZrL {x:DataW H×List MemPlace} (h:DataW.trod enc prog W 0 (fun _=>true) true fuel 255 cs=some x) :
 ∃ (f:Fd) (wv:Value),cs=[.string f.nm,.int .i64 f.kd,.int .i64 f.le,.int .i64 f.mo,wv,.string f.to,.int .i64 f.ro,.bool f.mu,.bool f.fx,.string f.df,.string f.we]/\Zag W wv f.words/\ZeY f:=by
 obtain⟨xs,n,_,_,hl,hlen,hfld⟩:=DataW.trod_struct underlying255 h;obtain⟨c0,c1,c2,c3,c4,c5,c6,c7,c8,c9,c10,rfl⟩:=ZsJ (hl.trans Tryz.cells255);simp only [Array.size,List.length_cons,List.length_nil] at hlen;have g0:DataW.trod enc prog W 0 (fun _=>true) true n 9 ((([c0,c1,c2,c3,c4,c5,c6,c7,c8,c9,c10]:List Value).drop 0).take (prog.cellsOf 9))=xs[0]?:=hfld 0 _ rfl;have g1:DataW.trod enc prog W 0 (fun _=>true) true n 3 ((([c0,c1,c2,c3,c4,c5,c6,c7,c8,c9,c10]:List Value).drop 1).take (prog.cellsOf 3))=xs[1]?:=hfld 1 _ rfl;have g2:DataW.trod enc prog W 0 (fun _=>true) true n 3 ((([c0,c1,c2,c3,c4,c5,c6,c7,c8,c9,c10]:List Value).drop 2).take (prog.cellsOf 3))=xs[2]?:=hfld 2 _ rfl;have g3:DataW.trod enc prog W 0 (fun _=>true) true n 3 ((([c0,c1,c2,c3,c4,c5,c6,c7,c8,c9,c10]:List Value).drop 3).take (prog.cellsOf 3))=xs[3]?:=hfld 3 _ rfl
 have g4:DataW.trod enc prog W 0 (fun _=>true) true n 59 ((([c0,c1,c2,c3,c4,c5,c6,c7,c8,c9,c10]:List Value).drop 4).take (prog.cellsOf 59))=xs[4]?:=hfld 4 _ rfl;have g5:DataW.trod enc prog W 0 (fun _=>true) true n 9 ((([c0,c1,c2,c3,c4,c5,c6,c7,c8,c9,c10]:List Value).drop 5).take (prog.cellsOf 9))=xs[5]?:=hfld 5 _ rfl;have g6:DataW.trod enc prog W 0 (fun _=>true) true n 3 ((([c0,c1,c2,c3,c4,c5,c6,c7,c8,c9,c10]:List Value).drop 6).take (prog.cellsOf 3))=xs[6]?:=hfld 6 _ rfl;have g7:DataW.trod enc prog W 0 (fun _=>true) true n 4 ((([c0,c1,c2,c3,c4,c5,c6,c7,c8,c9,c10]:List Value).drop 7).take (prog.cellsOf 4))=xs[7]?:=hfld 7 _ rfl;have g8:DataW.trod enc prog W 0 (fun _=>true) true n 4 ((([c0,c1,c2,c3,c4,c5,c6,c7,c8,c9,c10]:List Value).drop 8).take (prog.cellsOf 4))=xs[8]?:=hfld 8 _ rfl
 have g9:DataW.trod enc prog W 0 (fun _=>true) true n 9 ((([c0,c1,c2,c3,c4,c5,c6,c7,c8,c9,c10]:List Value).drop 9).take (prog.cellsOf 9))=xs[9]?:=hfld 9 _ rfl;have g10:DataW.trod enc prog W 0 (fun _=>true) true n 9 ((([c0,c1,c2,c3,c4,c5,c6,c7,c8,c9,c10]:List Value).drop 10).take (prog.cellsOf 9))=xs[10]?:=hfld 10 _ rfl;simp only [Tryz.cells9,Tryz.cells3,Tryz.cells4,Tryz.cells59,List.drop_succ_cons,List.drop_zero,List.take_succ_cons,List.take_zero] at g0 g1 g2 g3 g4 g5 g6 g7 g8 g9 g10;rw [List.getElem?_eq_getElem (by omega)] at g0 g1 g2 g3 g4 g5 g6 g7 g8 g9 g10;obtain⟨nm,e0,_,s0⟩:=DataW.trod_string underlying9 g0;obtain⟨kd,e1,_,_⟩:=DataW.trod_int underlying3 g1;obtain⟨le,e2,_,_⟩:=DataW.trod_int underlying3 g2;obtain⟨mo,e3,_,_⟩:=DataW.trod_int underlying3 g3;obtain⟨L,hL⟩:=ZfW g4;obtain⟨tq,e5,_,s5⟩:=DataW.trod_string underlying9 g5
 obtain⟨ro,e6,_,_⟩:=DataW.trod_int underlying3 g6;obtain⟨mu,e7,_⟩:=DataW.trod_bool underlying4 g7;obtain⟨fx,e8,_⟩:=DataW.trod_bool underlying4 g8;obtain⟨df,e9,_,s9⟩:=DataW.trod_string underlying9 g9;obtain⟨we,e10,_,s10⟩:=DataW.trod_string underlying9 g10;simp only [List.cons.injEq,and_true] at e0 e1 e2 e3 e5 e6 e7 e8 e9 e10;subst e0 e1 e2 e3 e5 e6 e7 e8 e9 e10;exact⟨⟨nm,kd,le,mo,L,tq,ro,mu,fx,df,we⟩,c4,rfl,hL,⟨s0,s5,s9,s10⟩⟩
theorem ZqN {x:DataW H×List MemPlace} (h:DataW.trod enc prog W 0 (fun _=>true) true fuel 135 [c]=some x):∃ Fs,Zav 0 W c Fs:=by
 rcases open_slice underlying135 h with ⟨hcs,_⟩ | ⟨a,len,cap,m,n,D,Pl,hcs,_,hl,hm,hmm,_,hx⟩
 . simp only [List.cons.injEq,and_true] at hcs
   exact⟨[],Or.inl ⟨_,_,hcs,rfl⟩⟩
 . simp only [List.cons.injEq,and_true] at hcs
   simp only [if_true] at hmm;subst hmm;rw [Tryz.cells255] at hx
   by_cases h0:len=0
   . subst h0
     exact⟨[],Or.inl ⟨_,_,hcs,rfl⟩⟩
   . obtain⟨Fs,hF,hall⟩:=ZbO (p:=fun i (f:Fd)=>ZeY f/\∃ wv,Zag W wv f.words/\W.cells? 0 (a.add (i*11)) 11=some [.string f.nm,.int .i64 f.kd,.int .i64 f.le,.int .i64 f.mo,wv,.string f.to,.int .i64 f.ro,.bool f.mu,.bool f.fx,.string f.df,.string f.we]) len (fun i hi=>by
      obtain⟨cs',h1,h2⟩:=hx i (by omega);obtain⟨f,wv,e,hw,hz⟩:=ZrL h2;rw [e] at h1;exact⟨f,hz,wv,hw,h1⟩)
     obtain⟨b,off,spot⟩:=a
     have hspot:spot=none:=by
      obtain⟨_,wv,_,h1⟩:=hall 0 (by omega);have:=(World.cells?_some h1).2.2 0 (by omega);rw [Nat.zero_mul] at this;have e0:((⟨b,off,spot⟩:Addr).add 0).add 0=⟨b,off,spot⟩:=by simp [Addr.add]
      rw [e0] at this
      simpa using World.cell?_spot (by simpa using this)
     subst hspot
     have hcell:∀ i (hi:i < Fs.length) wv,W.cells? 0 ((⟨b,off,none⟩:Addr).add (i*11)) 11=some [.string Fs[i].nm,.int .i64 Fs[i].kd,.int .i64 Fs[i].le,.int .i64 Fs[i].mo,wv,.string Fs[i].to,.int .i64 Fs[i].ro,.bool Fs[i].mu,.bool Fs[i].fx,.string Fs[i].df,.string Fs[i].we]->ZcZ W b (off+i*11) Fs[i] wv:=fun i hi wv h1=>by
      obtain⟨_,_,hc⟩:=World.cells?_some h1;rw [add_plain] at hc;have q:=fun j (hj:j < 11)=>(add_plain b (off+i*11) j) ▸ hc j hj
      exact⟨by simpa using q 0 (by omega),by simpa using q 1 (by omega),by simpa using q 2 (by omega),by simpa using q 3 (by omega),by simpa using q 4 (by omega),by simpa using q 5 (by omega),by simpa using q 6 (by omega),by simpa using q 7 (by omega),by simpa using q 8 (by omega),by simpa using q 9 (by omega),by simpa using q 10 (by omega)⟩
     have hbw:b < W.heap.size:=by
      obtain⟨_,wv,_,h1⟩:=hall 0 (by omega);exact World.block_lt_of_cell? W _ (hcell 0 (by omega) wv h1).c0
     refine⟨Fs,Or.inr ⟨b,off,m,by rw [hcs,hF],?_,by omega,hbw,Nat.zero_le _,by omega,fun i hi=>?_⟩⟩
     . intro e;rw [e] at hF;simp at hF;omega
     . obtain⟨hz,wv,hw,h1⟩:=hall i hi
       exact⟨hz,wv,hcell i hi wv h1,hw.in0⟩
theorem Zr5 {x:DataW H×List MemPlace} (h:DataW.trod enc prog W 0 (fun _=>true) true fuel 137 cs=some x) :
 ∃ (s:Sh) (fv:Value),cs=[.string s.kind,fv]/\Zav 0 W fv s.fields/\s.kind.size<=maxLen:=by
 obtain⟨xs,n,_,_,hl,hlen,hfld⟩:=DataW.trod_struct underlying137 h;obtain⟨c0,c1,rfl⟩:=ZsH (hl.trans Tryz.cells137);simp only [Array.size,List.length_cons,List.length_nil] at hlen;have g0:DataW.trod enc prog W 0 (fun _=>true) true n 9 ((([c0,c1]:List Value).drop 0).take (prog.cellsOf 9))=xs[0]?:=hfld 0 _ rfl;have g1:DataW.trod enc prog W 0 (fun _=>true) true n 135 ((([c0,c1]:List Value).drop 1).take (prog.cellsOf 135))=xs[1]?:=hfld 1 _ rfl;simp only [Tryz.cells9,Tryz.cells135,List.drop_succ_cons,List.drop_zero,List.take_succ_cons,List.take_zero] at g0 g1;rw [List.getElem?_eq_getElem (by omega)] at g0 g1;obtain⟨kd,e0,_,s0⟩:=DataW.trod_string underlying9 g0;obtain⟨Fs,hF⟩:=ZqN g1;simp only [List.cons.injEq,and_true] at e0;subst e0;exact⟨⟨kd,Fs⟩,c1,rfl,hF,s0⟩
theorem Zqw {x:DataW H×List MemPlace} (h:DataW.trod enc prog W 0 (fun _=>true) true fuel 22 [c]=some x):∃ Ss,ZaR 0 W c Ss:=by
 rcases open_slice underlying22 h with ⟨hcs,_⟩ | ⟨a,len,cap,m,n,D,Pl,hcs,_,hl,hm,hmm,_,hx⟩
 . simp only [List.cons.injEq,and_true] at hcs
   exact⟨[],Or.inl ⟨_,_,hcs,rfl⟩⟩
 . simp only [List.cons.injEq,and_true] at hcs
   simp only [if_true] at hmm;subst hmm;rw [Tryz.cells137] at hx
   by_cases h0:len=0
   . subst h0
     exact⟨[],Or.inl ⟨_,_,hcs,rfl⟩⟩
   . obtain⟨Ss,hF,hall⟩:=ZbO (p:=fun i (s:Sh)=>s.kind.size<=maxLen/\∃ fv,Zav 0 W fv s.fields/\W.cells? 0 (a.add (i*2)) 2=some [.string s.kind,fv]) len (fun i hi=>by
      obtain⟨cs',h1,h2⟩:=hx i (by omega);obtain⟨s,fv,e,hw,hz⟩:=Zr5 h2;rw [e] at h1;exact⟨s,hz,fv,hw,h1⟩)
     obtain⟨b,off,spot⟩:=a
     have hspot:spot=none:=by
      obtain⟨_,fv,_,h1⟩:=hall 0 (by omega);have:=(World.cells?_some h1).2.2 0 (by omega);rw [Nat.zero_mul] at this;have e0:((⟨b,off,spot⟩:Addr).add 0).add 0=⟨b,off,spot⟩:=by simp [Addr.add]
      rw [e0] at this
      simpa using World.cell?_spot (by simpa using this)
     subst hspot
     have hcell:∀ i (hi:i < Ss.length) fv,W.cells? 0 ((⟨b,off,none⟩:Addr).add (i*2)) 2=some [.string Ss[i].kind,fv]->W.cell? ⟨b,off+i*2,none⟩=some (.string Ss[i].kind)/\W.cell? ⟨b,off+i*2+1,none⟩=some fv:=fun i hi fv h1=>by
      obtain⟨_,_,hc⟩:=World.cells?_some h1;rw [add_plain] at hc;have q:=fun j (hj:j < 2)=>(add_plain b (off+i*2) j) ▸ hc j hj
      exact⟨by simpa using q 0 (by omega),by simpa using q 1 (by omega)⟩
     have hbw:b < W.heap.size:=by
      obtain⟨_,fv,_,h1⟩:=hall 0 (by omega);exact World.block_lt_of_cell? W _ (hcell 0 (by omega) fv h1).1
     refine⟨Ss,Or.inr ⟨b,off,m,by rw [hcs,hF],?_,by omega,hbw,Nat.zero_le _,fun i hi=>?_⟩⟩
     . intro e;rw [e] at hF;simp at hF;omega
     . obtain⟨hz,fv,hw,h1⟩:=hall i hi
       exact⟨hz,fv,(hcell i hi fv h1).1,(hcell i hi fv h1).2,hw⟩
end
theorem Tryz.cells146:prog.cellsOf 146=7:=by kernel_rfl
theorem ZsI {cs:Array Value} (h:cs.size=7):∃ c0 c1 c2 c3 c4 c5 c6,cs=#[c0,c1,c2,c3,c4,c5,c6]:=by
 obtain⟨l⟩:=cs
 match l,h with
 | [c0,c1,c2,c3,c4,c5,c6],_=>exact⟨c0,c1,c2,c3,c4,c5,c6,rfl⟩
theorem Tryz.cells140:prog.cellsOf 140=6:=by kernel_rfl
theorem ZsX (h:l.length=6):∃ c0 c1 c2 c3 c4 c5,l=[c0,c1,c2,c3,c4,c5]:=by
 match l,h with
 | [c0,c1,c2,c3,c4,c5],_=>exact⟨c0,c1,c2,c3,c4,c5,rfl⟩
section
variable {H:Type} {enc:TypeId×Value->H} {W:World}
theorem Zr7 {x:DataW H×List MemPlace} (h:DataW.trod enc prog W 0 (fun _=>true) true fuel 140 cs=some x) :
 ∃ (m:Md),cs=[.string m.kind,.string m.field,.string m.wh,.string m.is,.string m.put,.string m.fr]/\Zea m:=by
 obtain⟨xs,n,_,_,hl,hlen,hfld⟩:=DataW.trod_struct underlying140 h;obtain⟨c0,c1,c2,c3,c4,c5,rfl⟩:=ZsX (hl.trans Tryz.cells140);simp only [Array.size,List.length_cons,List.length_nil] at hlen;have g0:DataW.trod enc prog W 0 (fun _=>true) true n 9 ((([c0,c1,c2,c3,c4,c5]:List Value).drop 0).take (prog.cellsOf 9))=xs[0]?:=hfld 0 _ rfl;have g1:DataW.trod enc prog W 0 (fun _=>true) true n 9 ((([c0,c1,c2,c3,c4,c5]:List Value).drop 1).take (prog.cellsOf 9))=xs[1]?:=hfld 1 _ rfl;have g2:DataW.trod enc prog W 0 (fun _=>true) true n 9 ((([c0,c1,c2,c3,c4,c5]:List Value).drop 2).take (prog.cellsOf 9))=xs[2]?:=hfld 2 _ rfl;have g3:DataW.trod enc prog W 0 (fun _=>true) true n 9 ((([c0,c1,c2,c3,c4,c5]:List Value).drop 3).take (prog.cellsOf 9))=xs[3]?:=hfld 3 _ rfl
 have g4:DataW.trod enc prog W 0 (fun _=>true) true n 9 ((([c0,c1,c2,c3,c4,c5]:List Value).drop 4).take (prog.cellsOf 9))=xs[4]?:=hfld 4 _ rfl;have g5:DataW.trod enc prog W 0 (fun _=>true) true n 9 ((([c0,c1,c2,c3,c4,c5]:List Value).drop 5).take (prog.cellsOf 9))=xs[5]?:=hfld 5 _ rfl;simp only [Tryz.cells9,List.drop_succ_cons,List.drop_zero,List.take_succ_cons,List.take_zero] at g0 g1 g2 g3 g4 g5;rw [List.getElem?_eq_getElem (by omega)] at g0 g1 g2 g3 g4 g5;obtain⟨k,e0,_,s0⟩:=DataW.trod_string underlying9 g0;obtain⟨f,e1,_,s1⟩:=DataW.trod_string underlying9 g1;obtain⟨wh,e2,_,s2⟩:=DataW.trod_string underlying9 g2;obtain⟨is,e3,_,s3⟩:=DataW.trod_string underlying9 g3;obtain⟨pu,e4,_,s4⟩:=DataW.trod_string underlying9 g4;obtain⟨fr,e5,_,s5⟩:=DataW.trod_string underlying9 g5;simp only [List.cons.injEq,and_true] at e0 e1 e2 e3 e4 e5
 subst e0 e1 e2 e3 e4 e5;exact⟨⟨k,f,wh,is,pu,fr⟩,rfl,⟨s0,s1,s2,s3,s4,s5⟩⟩
theorem Zqj {x:DataW H×List MemPlace} (h:DataW.trod enc prog W 0 (fun _=>true) true fuel 23 [c]=some x):∃ Ms,Zbg 0 W c Ms:=by
 rcases open_slice underlying23 h with ⟨hcs,_⟩ | ⟨a,len,cap,m,n,D,Pl,hcs,_,hl,hm,hmm,_,hx⟩
 . simp only [List.cons.injEq,and_true] at hcs
   exact⟨[],Or.inl ⟨_,_,hcs,rfl⟩⟩
 . simp only [List.cons.injEq,and_true] at hcs
   simp only [if_true] at hmm;subst hmm;rw [Tryz.cells140] at hx
   by_cases h0:len=0
   . subst h0
     exact⟨[],Or.inl ⟨_,_,hcs,rfl⟩⟩
   . obtain⟨Ms,hF,hall⟩:=ZbO (p:=fun i (m:Md)=>Zea m/\W.cells? 0 (a.add (i*6)) 6=some [.string m.kind,.string m.field,.string m.wh,.string m.is,.string m.put,.string m.fr]) len (fun i hi=>by
      obtain⟨cs',h1,h2⟩:=hx i (by omega);obtain⟨md,e,hz⟩:=Zr7 h2;rw [e] at h1;exact⟨md,hz,h1⟩)
     obtain⟨b,off,spot⟩:=a
     have hspot:spot=none:=by
      obtain⟨_,h1⟩:=hall 0 (by omega);have:=(World.cells?_some h1).2.2 0 (by omega);rw [Nat.zero_mul] at this;have e0:((⟨b,off,spot⟩:Addr).add 0).add 0=⟨b,off,spot⟩:=by simp [Addr.add]
      rw [e0] at this
      simpa using World.cell?_spot (by simpa using this)
     subst hspot
     have hcell:∀ i (hi:i < Ms.length),W.cells? 0 ((⟨b,off,none⟩:Addr).add (i*6)) 6=some [.string Ms[i].kind,.string Ms[i].field,.string Ms[i].wh,.string Ms[i].is,.string Ms[i].put,.string Ms[i].fr]->Ze3 W b (off+i*6) Ms[i]:=fun i hi h1=>by
      obtain⟨_,_,hc⟩:=World.cells?_some h1;rw [add_plain] at hc;have q:=fun j (hj:j < 6)=>(add_plain b (off+i*6) j) ▸ hc j hj
      exact⟨by simpa using q 0 (by omega),by simpa using q 1 (by omega),by simpa using q 2 (by omega),by simpa using q 3 (by omega),by simpa using q 4 (by omega),by simpa using q 5 (by omega)⟩
     have hbw:b < W.heap.size:=by
      obtain⟨_,h1⟩:=hall 0 (by omega);exact World.block_lt_of_cell? W _ (hcell 0 (by omega) h1).c0
     refine⟨Ms,Or.inr ⟨b,off,m,by rw [hcs,hF],?_,by omega,hbw,Nat.zero_le _,by omega,fun i hi=>?_⟩⟩
     . intro e;rw [e] at hF;simp at hF;omega
     . obtain⟨hz,h1⟩:=hall i hi
       exact⟨hz,hcell i hi h1⟩
end
end Go.Proofs.YtfohnageehneoaaGreat
