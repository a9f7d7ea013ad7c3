import Derived.Test.YtcfjmagkinpaeaaGreatGP1
import Derived.Deep.AppendLies
import Derived.Test.YtcfjmagkinpaeaaGreatGK25
import Derived.ProofKit
import Derived.Deep.Strs
import Derived.Deep.RegionHeld
set_option maxHeartbeats 16000000
set_option maxRecDepth 100000
open Go.Proofs.Tryz
namespace Go.Proofs.YtcfjmagkinpaeaaGreat
open Go.RowKit Go.Deep
structure ZeR (w:World) (b o:Nat) (m:Md):Prop where
 c0:w.cell? ⟨b,o,none⟩=some (.string m.kind)
 c1:w.cell? ⟨b,o+1,none⟩=some (.string m.field)
 c2:w.cell? ⟨b,o+2,none⟩=some (.string m.wh)
 c3:w.cell? ⟨b,o+3,none⟩=some (.string m.is)
 c4:w.cell? ⟨b,o+4,none⟩=some (.string m.put)
 c5:w.cell? ⟨b,o+5,none⟩=some (.string m.fr)
structure ZdX (m:Md):Prop where
 s0:m.kind.size≤maxLen
 s1:m.field.size≤maxLen
 s2:m.wh.size≤maxLen
 s3:m.is.size≤maxLen
 s4:m.put.size≤maxLen
 s5:m.fr.size≤maxLen
theorem ZeR.below {w w':World} {b o:Nat} {m:Md} (h:ZeR w b o m) (hb:Zw_ w w') (hlt:b < w.heap.size):ZeR w' b o m:=by
 have e:∀ o,w'.cell? ⟨b,o,none⟩=w.cell? ⟨b,o,none⟩:=fun o=>hb.cell (p:=⟨b,o,none⟩) hlt
 exact⟨by rw [e];exact h.c0,by rw [e];exact h.c1,by rw [e];exact h.c2,by rw [e];exact h.c3,by rw [e];exact h.c4,by rw [e];exact h.c5⟩
def Zbc (lo:Nat) (w:World) (v:Value) (Ms:List Md):Prop:=
 (∃ (a:Option Addr) (cap:Nat),v=.slice a 0 cap∧Ms=[])∨
 ∃ (b off cap:Nat),v=.slice (some ⟨b,off,none⟩) Ms.length cap∧Ms≠[]∧Ms.length≤maxLen∧b < w.heap.size∧lo≤b∧Ms.length≤cap∧
  ∀ i (h:i < Ms.length),ZdX Ms[i]∧ZeR w b (off+i*6) Ms[i]
theorem Zbc.below {lo:Nat} {w w':World} {v:Value} {Ms:List Md} (h:Zbc lo w v Ms) (hb:Zw_ w w'):Zbc lo w' v Ms:=by
 rcases h with h | ⟨b,off,cap,h1,h2,h3,h4,h5,h6,h7⟩
 · exact Or.inl h
 · refine Or.inr ⟨b,off,cap,h1,h2,h3,Zk_ h4 hb.size,h5,h6,fun i hi=>?_⟩
   obtain⟨hs,hc⟩:=h7 i hi;exact⟨hs,hc.below hb h4⟩
theorem Zbc.mono {lo lo':Nat} {w:World} {v:Value} {Ms:List Md} (h:Zbc lo w v Ms) (hl:lo'≤lo):Zbc lo' w v Ms:=by
 rcases h with h | ⟨b,off,cap,h1,h2,h3,h4,h5,h6,h7⟩
 · exact Or.inl h
 · exact Or.inr ⟨b,off,cap,h1,h2,h3,h4,Nat.le_trans hl h5,h6,h7⟩
theorem Zbc.form {lo:Nat} {w:World} {v:Value} {Ms:List Md} (h:Zbc lo w v Ms):∃ a cap,v=.slice a Ms.length cap:=by
 rcases h with ⟨a,cap,h,rfl⟩ | ⟨b,off,cap,h,_⟩
 · exact⟨a,cap,h⟩
 · exact⟨_,cap,h⟩
theorem Zbc.full {lo:Nat} {w:World} {v:Value} {Ms:List Md} (h:Zbc lo w v Ms) (hne:Ms≠[]):∃ (b off cap:Nat),v=.slice (some ⟨b,off,none⟩) Ms.length cap∧Ms.length≤maxLen∧b < w.heap.size∧Ms.length≤cap∧
 ∀ i (h:i < Ms.length),ZdX Ms[i]∧ZeR w b (off+i*6) Ms[i]:=by
 rcases h with ⟨_,_,_,h⟩ | ⟨b,off,cap,h1,_,h3,h4,_,h6,h7⟩
 · exact absurd h hne
 · exact⟨b,off,cap,h1,h3,h4,h6,h7⟩
theorem Zbc.full' {lo:Nat} {w:World} {a:Option Addr} {n cap:Nat} {Ms:List Md} (h:Zbc lo w (.slice a n cap) Ms) (hL:0 < Ms.length) :
 ∃ b off,a=some ⟨b,off,none⟩∧b < w.heap.size∧∀ i (h:i < Ms.length),ZdX Ms[i]∧ZeR w b (off+i*6) Ms[i]:=by
 rcases h with ⟨a',cap',h,rfl⟩ | ⟨b',off',cap',h1,h2,h3,h4,h5,h6,h7⟩
 · simp at hL
 · injection h1 with e1 e2 e3
   exact⟨b',off',e1,h4,h7⟩
theorem ZmC (k f h i p r:Zy_) (left:Int) (w:World) (h0:0≤left) (h1:left≤1048576)
 (s0:k.size≤maxLen) (s1:f.size≤maxLen) (s2:h.size≤maxLen) (s3:i.size≤maxLen) (s4:p.size≤maxLen) (s5:r.size≤maxLen) :
 Calls prog 50 #[.agg #[.string k,.string f,.string h,.string i,.string p,.string r],.int .i64 left] w
  fun e w'=>∃ r:Int,e=.returned (.int .i64 r)∧Zw_ w w'∧-1≤r∧r≤left:=by
 unfold maxLen at s0 s1 s2 s3 s4 s5;have HW:∀ o,Hid (Zw_ w (w.alloc o)):=fun o=>Zb_.alloc Zl_ _
 go_enter func50,ntmps50;go_wp2
 all_goals go_ret
 all_goals exact⟨_,rfl,(HW _).out,by omega,by omega⟩
theorem Zoq (lo:Nat) (v:Value) (Ms:List Md) (left:Int) (w:World) (h0:0≤left) (h1:left≤1048576) (hv:Zbc lo w v Ms) :
 Calls prog 19 #[v,.int .i64 left] w fun e w'=>∃ r:Int,e=.returned (.int .i64 r)∧Zw_ w w'∧Zsd Ms.length left r:=by
 rcases hv with ⟨a,cap,rfl,rfl⟩ | ⟨b,off,cap,rfl,hne,hm,hbw,_,_,hc⟩
 · go_enter func19,ntmps19
   go_wp2
   go_loop [1,5] (fun l i=>∃ r:Int,l=.int .i64 r∧0≤r∧r≤left∧i=.int .i64 0) (fun _ _=>0)
   case atStart=>exact⟨_,rfl,by omega,by omega,rfl⟩
   case round=>
    obtain⟨r,rfl,hr0,hr1,rfl⟩:=hrel;go_wp2;go_ret;exact⟨r,rfl,Below.refl _ _,by omega,by omega,fun _=>by simp;omega⟩
 · unfold maxLen at hm
   by_cases hle:(Ms.length:Int)≤left
   · go_enter func19,ntmps19
     go_wp2
     go_loopw [1,5] (fun l i wr=>∃ (r:Int) (k:Nat),l=.int .i64 r∧0≤r∧r≤left∧i=.int .i64 k∧k≤Ms.length∧Zw_ w wr) (fun _ i _=>Ms.length - (intOf i).toNat)
     case atStart=>exact⟨_,0,rfl,by omega,by omega,rfl,by omega,Below.refl _ _⟩
     case round=>
      obtain⟨r,k,rfl,hr0,hr1,rfl,hk,hb⟩:=hrel
      by_cases hlt:k < Ms.length
      · obtain⟨hsz,hcell⟩:=hc k hlt
        obtain⟨c0,c1,c2,c3,c4,c5⟩:=hcell.below hb hbw;go_wp2_with fail;refine (ZmC _ _ _ _ _ _ _ _ hr0 (by omega) hsz.s0 hsz.s1 hsz.s2 hsz.s3 hsz.s4 hsz.s5).mono ?_;rintro e w1 ⟨r1,rfl,hb1,q0,q1⟩;have hB:Hid (Zw_ w w1):=hb.trans (hb1.mono hb.size);clear hb1 c0 c1 c2 c3 c4 c5 hb;go_wp2
        all_goals first
         | (go_roundw
            case rel=>exact⟨_,k+1,rfl,by omega,by omega,by go_num,by omega,hB.out⟩
            case measure=>simp [intOf];omega)
         | (go_ret
            exact⟨-1,rfl,hB.out,by omega,by omega,fun h=>by omega⟩)
      · go_wp2
        go_ret;exact⟨r,rfl,hb,by omega,by omega,fun _=>hle⟩
   · go_enter func19,ntmps19
     go_wp2;go_ret;exact⟨-1,rfl,Below.refl _ _,by omega,by omega,fun h=>by omega⟩
theorem ZmI (k f h i p r:Zy_) (w:World) :
 Calls prog 61 #[.agg #[.string k,.string f,.string h,.string i,.string p,.string r]] w
  fun e w'=>e=.returned (.agg #[.string k,.string f,.string h,.string i,.string p,.string r])∧Zw_ w w':=by
 go_enter func61,ntmps61;go_wp2;refine bodyPost_ret (v:=.agg #[.string k,.string f,.string h,.string i,.string p,.string r]) (by simp [results,results61,go_sem]) rfl ⟨rfl,?_⟩
 repeat (refine Below.setCell ?_ (by simp only [];omega) _)
 exact ((Zb_.alloc Zl_ _).alloc (by simp) _).alloc (by simp;omega) _
theorem Zj7 (k f h i p r:Zy_) (w:World) :
 Calls prog 70 #[.agg #[.string k,.string f,.string h,.string i,.string p,.string r],.agg #[.string k,.string f,.string h,.string i,.string p,.string r]] w
  fun e w'=>e=.returned (.bool true)∧Zw_ w w':=by
 go_enter func70,ntmps70;go_wp2;go_ret;exact⟨rfl,(Zb_.alloc Zl_ _).alloc (by simp) _⟩
theorem ZlP (lo lo':Nat) (v v':Value) (Ms:List Md) (w:World) (hv:Zbc lo w v Ms) (hv':Zbc lo' w v' Ms) :
 Calls prog 31 #[v,v'] w fun e w'=>e=.returned (.bool true)∧Zw_ w w':=by
 by_cases hL:Ms=[]
 · subst hL
   obtain⟨a,cap,rfl⟩:=hv.form;obtain⟨a',cap',rfl⟩:=hv'.form;clear hv hv';go_enter func31,ntmps31;go_wp2
   go_loop [5] (fun i=>i=.int .i64 0) (fun _=>0)
   case atStart=>rfl
   case round=>
    subst hrel;go_wp2;go_ret;exact⟨rfl,Below.refl _ _⟩
 · obtain⟨b,off,cap,rfl,hm,hbw,_,hc⟩:=hv.full hL
   obtain⟨b',off',cap',rfl,_,hbw',_,hc'⟩:=hv'.full hL;clear hv hv';unfold maxLen at hm;go_enter func31,ntmps31;go_wp2
   go_loopw [5] (fun i wr=>∃ k:Nat,i=.int .i64 k∧k≤Ms.length∧Zw_ w wr) (fun i _=>Ms.length - (intOf i).toNat)
   case atStart=>exact⟨0,rfl,by omega,Below.refl _ _⟩
   case round=>
    obtain⟨k,rfl,hk,hb⟩:=hrel
    by_cases hlt:k < Ms.length
    · obtain⟨_,hcell⟩:=hc k hlt
      obtain⟨_,hcell'⟩:=hc' k hlt;obtain⟨c0,c1,c2,c3,c4,c5⟩:=hcell.below hb hbw;obtain⟨d0,d1,d2,d3,d4,d5⟩:=hcell'.below hb hbw';clear hcell hcell';have HB:=Zab hb;clear hb;go_wp2
      go_region_with (go_at_call 70;refine (Zj7 _ _ _ _ _ _ _).mono ?_;rintro e w1 ⟨rfl,hb1⟩;have hB:Hid (Zw_ w w1):=(HB.out.drew).trans (hb1.mono HB.out.size);clear hb1)
      all_goals go_wp2
      all_goals go_roundw
      all_goals first
       | (case rel=>exact⟨k+1,by go_num,by omega,hB.out⟩)
       | (case measure=>simp [intOf];omega)
    · go_wp2
      go_ret;exact⟨rfl,hb⟩
def Zb4 (Fs:List Fd) (s:Zy_):Int:=if ZaR Fs s < Fs.length then (ZaR Fs s:Int) else -1
theorem ZhN {Fs:List Fd} {s:Zy_} {k:Nat} (hk:k < Fs.length) (h:(Fs[k].nm.toList == s.toList)=true) (hall:∀ i (h:i < Fs.length),i < k→(Fs[i].nm.toList == s.toList)=false):Zb4 Fs s=k:=by
 unfold Zb4;rw [ZnT hk h hall,if_pos hk]
theorem Zjv {Fs:List Fd} {s:Zy_} (hall:∀ i (h:i < Fs.length),(Fs[i].nm.toList == s.toList)=false):Zb4 Fs s= -1:=by
 unfold Zb4;rw [ZrP hall,if_neg (Nat.lt_irrefl _)]
theorem ZbJ {Fs:List Fd} {s:Zy_} (h:ZaR Fs s < Fs.length):Zb4 Fs s=ZaR Fs s:=if_pos h
theorem Zju {Fs:List Fd} {s:Zy_} (h:¬ ZaR Fs s < Fs.length):Zb4 Fs s= -1:=if_neg h
theorem Zbk (lo:Nat) (v:Value) (Fs:List Fd) (s:Zy_) (w:World) (hv:Zav lo w v Fs) :
 Calls prog 200 #[v,.string s] w fun e w'=>e=.returned (.int .i64 (Zb4 Fs s))∧w'=w:=by
 by_cases hL:Fs=[]
 · subst hL
   obtain⟨a,cap,rfl⟩:=ZdS hv;clear hv;go_enter func200,ntmps200;go_wp2
   go_loop [5] (fun i=>i=.int .i64 0) (fun _=>0)
   case atStart=>rfl
   case round=>
    subst hrel;go_wp2;go_ret;exact⟨rfl,rfl⟩
 · obtain⟨b,off,cap,rfl,hm,hbw,_,hc⟩:=hv.full hL
   clear hv;unfold maxLen at hm;go_enter func200,ntmps200;go_wp2
   go_loop [5] (fun i=>∃ k:Nat,i=.int .i64 k∧k≤Fs.length∧∀ i (h:i < Fs.length),i < k→(Fs[i].nm.toList == s.toList)=false) (fun i=>Fs.length - (intOf i).toNat)
   case atStart=>exact⟨0,rfl,by omega,fun i _ h=>by omega⟩
   case round=>
    obtain⟨k,rfl,hk,hall⟩:=hrel;have HA:=Zab hall;clear hall
    by_cases hlt:k < Fs.length
    · obtain⟨_,wv,hcell,_⟩:=hc k hlt
      have c0:=hcell.c0;clear hcell
      by_cases he:(Fs[k].nm.toList == s.toList)=true
      · go_wp2
        go_ret;exact⟨by rw [ZhN hlt he HA.out];rfl,rfl⟩
      · have he':(Fs[k].nm.toList == s.toList)=false:=by simpa using he
        clear he;go_wp2
        go_round
        case rel=>exact⟨k+1,by go_num,by omega,fun i h h'=>by
                   by_cases e:i=k
                   · subst e;exact he'
                   · exact HA.out i h (by omega)⟩
        case measure=>simp [intOf];omega
    · go_wp2
      go_ret;exact⟨by rw [Zjv fun i h=>HA.out i h (by omega)];rfl,rfl⟩
theorem ZdQ (lo:Nat) (v:Value) (Fs:List Fd) (s:Zy_) (w:World) (hv:Zav lo w v Fs) :
 Calls prog 199 #[v,.string s] w fun e w'=>e=.returned (.bool (Zbi Fs s))∧w'=w:=by
 have HV:=Zab hv
 by_cases hp:ZaR Fs s < Fs.length
 · obtain⟨b,off,cap,rfl,hm,hbw,_,hc⟩:=hv.full (by intro e;rw [e] at hp;simp at hp)
   clear hv;unfold maxLen at hm;obtain⟨_,wv,hcell,_⟩:=hc _ hp;have c1:=hcell.c1;have HQ:Hid (Zbi Fs s=!(Fs[ZaR Fs s].kd == 4)):=Zlh hp;have HP:Hid (Zb4 Fs s=ZaR Fs s):=ZbJ hp;clear hcell hc;go_enter func199,ntmps199;go_wp2_with fail;refine (Zbk lo _ Fs s _ HV.out).mono ?_;rintro e w1 ⟨rfl,rfl⟩;rw [HP.out]
   cases hk:(Fs[ZaR Fs s].kd == 4) with
   | true=>
    have HQ2:Hid (Zbi Fs s=false):=by unfold Hid;rw [HQ.out,hk];rfl
    have e4:Fs[ZaR Fs s].kd=4:=by simpa using hk
    rw [e4] at c1;clear e4 hk HQ HP;go_wp2;go_ret;exact⟨Zaa HQ2.out.symm,rfl⟩
   | false=>
    have HQ2:Hid (Zbi Fs s=true):=by unfold Hid;rw [HQ.out,hk];rfl
    have e4:¬ Fs[ZaR Fs s].kd=4:=by simpa using hk
    clear hk HQ HP;go_wp2;go_ret;exact⟨Zaa (by rw [HQ2.out];simp [e4]),rfl⟩
 · obtain⟨a,cap,rfl⟩:=hv.form
   clear hv;have HQ:Hid (Zbi Fs s=false):=Zli hp;have HP:Hid (Zb4 Fs s= -1):=Zju hp;go_enter func199,ntmps199;go_wp2_with fail;refine (Zbk lo _ Fs s _ HV.out).mono ?_;rintro e w1 ⟨rfl,rfl⟩;rw [HP.out];clear HP hp;go_wp2;go_ret;exact⟨Zaa HQ.out.symm,rfl⟩
theorem Zdl {L:List Zy_} {s:Zy_}:Zeq L s=true↔s ∈ L:=by
 unfold Zeq;rw [List.any_eq_true]
 constructor
 · rintro⟨x,hx,h⟩;rw [ZaY] at h;subst h;exact hx
 · exact fun h=>⟨s,h,ZcX _⟩
theorem Zim {L:List Zy_} {s:Zy_} (h:Zeq L s=false):s ∉ L:=fun hm=>by rw [Zdl.2 hm] at h;cases h
def Zfl (Ms:List Md) (kind field:Zy_) (row:List Zy_):Bool:=(Zao kind Ms field).all (Zeq row)
theorem Zda {Ms:List Md} {kind field:Zy_} {row:List Zy_}:Zfl Ms kind field row=true↔∀ r ∈ Zao kind Ms field,r ∈ row:=by
 unfold Zfl;rw [List.all_eq_true];exact⟨fun h r hr=>Zdl.1 (h r hr),fun h r hr=>Zdl.2 (h r hr)⟩
def ZiT (kind field:Zy_) (row:List Zy_) (m:Md):Bool:=!Zc3 kind field m || ((m.wh.toList.isEmpty || Zeq row m.wh)&&(m.fr.toList.isEmpty || Zeq row m.fr))
theorem ZpY {Ms:List Md} {kind field:Zy_} {row:List Zy_} (h:∀ i (h:i < Ms.length),ZiT kind field row Ms[i]=true):Zfl Ms kind field row=true:=by
 rw [Zda];intro r hr;obtain⟨m,hm,hf,hrd⟩:=ZdR.1 hr;obtain⟨i,hi,rfl⟩:=List.getElem_of_mem hm;have:=h i hi;unfold ZiT at this;rw [hf] at this;simp only [Bool.not_true,Bool.false_or,Bool.and_eq_true,Bool.or_eq_true] at this;unfold ZiE at hrd
 rcases List.mem_append.1 hrd with h1 | h1
 · by_cases he:Ms[i].wh.toList.isEmpty=true
   · rw [if_pos he] at h1;cases h1
   · rw [if_neg he] at h1
     rw [List.mem_singleton.1 h1]
     rcases this.1 with h2 | h2
     · exact absurd h2 he
     · exact Zdl.1 h2
 · by_cases he:Ms[i].fr.toList.isEmpty=true
   · rw [if_pos he] at h1;cases h1
   · rw [if_neg he] at h1
     rw [List.mem_singleton.1 h1]
     rcases this.2 with h2 | h2
     · exact absurd h2 he
     · exact Zdl.1 h2
theorem ZgS {Ms:List Md} {kind field:Zy_} {row:List Zy_} {i:Nat} (hi:i < Ms.length) (h:ZiT kind field row Ms[i]=false):Zfl Ms kind field row=false:=by
 cases hr:Zfl Ms kind field row with
 | false=>rfl
 | true=>
  rw [Zda] at hr
  have hf:Zc3 kind field Ms[i]=true:=by
   cases hf:Zc3 kind field Ms[i] with
   | true=>rfl
   | false=>unfold ZiT at h;rw [hf] at h;cases h
  have key:∀ r ∈ ZiE Ms[i],Zeq row r=true:=fun r hrr=>Zdl.2 (hr r (ZdR.2 ⟨Ms[i],List.getElem_mem hi,hf,hrr⟩))
  have hx:ZiT kind field row Ms[i]=true:=by
   unfold ZiT;simp only [hf,Bool.not_true,Bool.false_or,Bool.and_eq_true,Bool.or_eq_true];refine⟨?_,?_⟩
   · cases hw:Ms[i].wh.toList.isEmpty with
     | true=>exact Or.inl rfl
     | false=>exact Or.inr (key _ (ZsN hw))
   · cases hw:Ms[i].fr.toList.isEmpty with
     | true=>exact Or.inl rfl
     | false=>exact Or.inr (key _ (ZsM hw))
  rw [hx] at h;cases h
theorem Zkf (lo:Nat) (v rv:Value) (Ms:List Md) (kind field:Zy_) (row:List Zy_) (w:World) (hv:Zbc lo w v Ms) (hr:Zaf w rv row) :
 Calls prog 202 #[v,.string kind,.string field,rv] w fun e w'=>e=.returned (.bool (Zfl Ms kind field row))∧Zw_ w w':=by
 have HR:=Zab hr;obtain⟨ra,rn,rcap,rfl⟩:=hr.form;clear hr
 by_cases hL:Ms=[]
 · subst hL
   obtain⟨a,cap,rfl⟩:=hv.form;clear hv;have HQ:Hid (Zfl [] kind field row=true):=rfl;go_enter func202,ntmps202;go_wp2
   go_loop [9] (fun i=>i=.int .i64 0) (fun _=>0)
   case atStart=>rfl
   case round=>
    subst hrel;go_wp2;go_ret;exact⟨Zaa HQ.out.symm,Below.refl _ _⟩
 obtain⟨b,off,cap,rfl,hm,hbw,_,hc⟩:=hv.full hL;clear hv;unfold maxLen at hm;go_enter func202,ntmps202;go_wp2
 go_loopw [9] (fun i wr=>∃ k:Nat,i=.int .i64 k∧k≤Ms.length∧Zw_ w wr∧∀ i (h:i < Ms.length),i < k→ZiT kind field row Ms[i]=true) (fun i _=>Ms.length - (intOf i).toNat)
 case atStart=>exact⟨0,rfl,by omega,Below.refl _ _,fun i _ h=>by omega⟩
 case round=>
  obtain⟨k,rfl,hk,hb,hall⟩:=hrel;have HA:=Zab hall;have HB:=Zab hb;clear hall hb
  by_cases hlt:k < Ms.length
  · obtain⟨_,hcell⟩:=hc k hlt
    obtain⟨c0,c1,c2,c3,c4,c5⟩:=hcell.below HB.out hbw;clear hcell;have HB1:∀ o,Hid (Zw_ w (wr.alloc o)):=fun o=>HB.out.alloc HB.out.size _
    have HNX:Hid (ZiT kind field row Ms[k]=true→∀ i (h:i < Ms.length),i < k+1→ZiT kind field row Ms[i]=true):=fun h i hi hik=>by
     by_cases e:i=k
     · subst e;exact h
     · exact HA.out i hi (by omega)
    cases hk1:(Ms[k].kind.toList == kind.toList) with
    | false=>
     go_wp2;go_roundw
     case rel=>exact⟨k+1,by go_num,by omega,(HB1 _).out,HNX.out (by unfold ZiT Zc3;simp [hk1])⟩
     case measure=>simp [intOf];omega
    | true=>
     cases hf1:(Ms[k].field.toList == field.toList) with
     | false=>
      go_wp2;go_roundw
      case rel=>exact⟨k+1,by go_num,by omega,(HB1 _).out,HNX.out (by unfold ZiT Zc3;simp [hk1,hf1])⟩
      case measure=>simp [intOf];omega
     | true=>
      cases hwe:Ms[k].wh.toList.isEmpty with
      | true=>
       cases hfe:Ms[k].fr.toList.isEmpty with
       | true=>
        go_wp2;go_roundw
        case rel=>exact⟨k+1,by go_num,by omega,(HB1 _).out,HNX.out (by unfold ZiT Zc3;simp [hk1,hf1,hwe,hfe])⟩
        case measure=>simp [intOf];omega
       | false=>
        go_wp2_with fail;refine (Zee _ row Ms[k].fr _ (HR.out.below (HB1 _).out)).mono ?_;rintro e w1 ⟨rfl,rfl⟩
        cases hfh:Zeq row Ms[k].fr with
        | true=>
         go_wp2;go_roundw
         case rel=>exact⟨k+1,by go_num,by omega,(HB1 _).out,HNX.out (by unfold ZiT Zc3;simp [hk1,hf1,hwe,hfe,hfh])⟩
         case measure=>simp [intOf];omega
        | false=>
         go_wp2;go_ret;exact⟨Zaa (ZgS hlt (by unfold ZiT Zc3;simp [hk1,hf1,hwe,hfe,hfh])).symm,(HB1 _).out⟩
      | false=>
       go_wp2_with fail;refine (Zee _ row Ms[k].wh _ (HR.out.below (HB1 _).out)).mono ?_;rintro e w1 ⟨rfl,rfl⟩
       cases hwh:Zeq row Ms[k].wh with
       | false=>
        go_wp2;go_ret;exact⟨Zaa (ZgS hlt (by unfold ZiT Zc3;simp [hk1,hf1,hwe,hwh])).symm,(HB1 _).out⟩
       | true=>
        cases hfe:Ms[k].fr.toList.isEmpty with
        | true=>
         go_wp2;go_roundw
         case rel=>exact⟨k+1,by go_num,by omega,(HB1 _).out,HNX.out (by unfold ZiT Zc3;simp [hk1,hf1,hwe,hwh,hfe])⟩
         case measure=>simp [intOf];omega
        | false=>
         go_wp2_with fail;refine (Zee _ row Ms[k].fr _ (HR.out.below (HB1 _).out)).mono ?_;rintro e w1 ⟨rfl,rfl⟩
         cases hfh:Zeq row Ms[k].fr with
         | true=>
          go_wp2;go_roundw
          case rel=>exact⟨k+1,by go_num,by omega,(HB1 _).out,HNX.out (by unfold ZiT Zc3;simp [hk1,hf1,hwe,hwh,hfe,hfh])⟩
          case measure=>simp [intOf];omega
         | false=>
          go_wp2;go_ret;exact⟨Zaa (ZgS hlt (by unfold ZiT Zc3;simp [hk1,hf1,hwe,hwh,hfe,hfh])).symm,(HB1 _).out⟩
  · go_wp2
    go_ret;exact⟨Zaa (ZpY fun i h=>HA.out i h (by omega)).symm,HB.out⟩
structure ZdL (base:Nat) (W:World) (v:Value) (R:List Zy_):Prop where
 row:W.ownsRow base 9 1 v R.length (R.map Value.string)
 sz:∀ s ∈ R,s.size≤maxLen
theorem ZdL.form {base:Nat} {W:World} {v:Value} {R:List Zy_} (h:ZdL base W v R):∃ a cap,v=.slice a R.length cap:=by
 rcases h.row.2 with ⟨hv,hn⟩ | ⟨g,cap,cur,hv,_⟩
 · rw [hn];exact⟨_,_,hv⟩
 · exact⟨_,_,hv⟩
theorem ZdL.below {base:Nat} {W W':World} {v:Value} {R:List Zy_} (h:ZdL base W v R) (hb:Below W.heap.size W W'):ZdL base W' v R:=by
 refine⟨⟨h.row.1,?_⟩,h.sz⟩
 rcases h.row.2 with hv | ⟨g,cap,cur,hv,h1,h2,h3⟩
 · exact Or.inl hv
 · have hg:g < W.heap.size:=by
    rcases Nat.lt_or_ge g W.heap.size with h | h
    · exact h
    · rw [Array.getElem?_eq_none h] at h2;cases h2
   exact Or.inr ⟨g,cap,cur,hv,h1,by rw [hb.block g hg];exact h2,h3⟩
theorem ZdL.strs {base:Nat} {W:World} {v:Value} {R:List Zy_} (h:ZdL base W v R):Zaf W v R:=by
 rcases h.row.2 with ⟨hv,hn⟩ | ⟨g,cap,cur,hv,h1,h2,h3,h4,h5,h6⟩
 · exact Or.inl ⟨none,0,hv,List.length_eq_zero_iff.1 hn⟩
 · by_cases hR:R=[]
   · subst hR;exact Or.inl ⟨_,_,hv,rfl⟩
   · have hg:g < W.heap.size:=by
      rcases Nat.lt_or_ge g W.heap.size with h | h
      · exact h
      · rw [Array.getElem?_eq_none h] at h2;cases h2
     refine Or.inr ⟨g,0,cap,hv,hR,Nat.le_trans h3 h4,hg,fun i hi=>?_,h.sz⟩;rw [Nat.zero_add,cell_of_row W g i cur 9 (0,0) h2];have:(cur.toList.take (R.length*1))[i]?=(R.map Value.string)[i]?:=by rw [h6]
     rw [List.getElem?_take_of_lt (by omega)] at this
     simpa [hi] using this
theorem ZdL.mono {base base':Nat} {W:World} {v:Value} {R:List Zy_} (h:ZdL base W v R) (hb:base'≤base):ZdL base' W v R:=by
 refine⟨⟨h.row.1,?_⟩,h.sz⟩
 rcases h.row.2 with hv | ⟨g,cap,cur,hv,h1,h2⟩
 · exact Or.inl hv
 · exact Or.inr ⟨g,cap,cur,hv,Nat.le_trans hb h1,h2⟩
theorem ZdL.nil (base:Nat) (W:World):ZdL base W (.slice none 0 0) []:=⟨World.ownsRow_nil _ _ _ _,fun s h=>by simp at h⟩
theorem ZdL.made {base:Nat} (W:World) (g:Nat) (hg:W.heap.size=g) (hb:base≤g):ZdL base (W.alloc (.cells #[] 9)) (.slice (some ⟨g,0,none⟩) 0 0) []:=by
 subst hg;exact⟨World.ownsRow_made (base:=base) (e:=9) (size:=1) W #[] 0 hb Zz_ (by simp),fun s h=>by simp at h⟩
theorem ZdL.grown {base:Nat} {W w':World} {v:Value} {R:List Zy_} (h:ZdL base W v R) (hg:W.grownBy w' v.ownBlock) (hb:base≤W.heap.size):Below base W w':=by
 refine⟨hg.os,hg.tape,hg.output,hg.size,fun k hk=>hg.block k (by omega) ?_⟩
 rcases h.row.2 with ⟨hv,_⟩ | ⟨g,cap,cur,hv,h1,_⟩
 · rw [hv];intro e;cases e
 · rw [hv];intro e
   have:k=g:=by simpa [Value.ownBlock] using e
   omega
theorem ZdL.snoc {base:Nat} {W w':World} {v v':Value} {R:List Zy_} {s:Zy_} (h:ZdL base W v R) (hown:w'.ownsRow base 9 1 v' (R.length+1) (R.map Value.string ++ [.string s])) (hs:s.size≤maxLen):ZdL base w' v' (R ++ [s]):=by
 refine⟨by rw [List.length_append,List.map_append];exact hown,fun t ht=>?_⟩
 rcases List.mem_append.1 ht with h1 | h1
 · exact h.sz t h1
 · rw [List.mem_singleton.1 h1];exact hs
theorem Zfb (X:World) (g:Nat) (u:Value) (t:TypeId) (hg:X.heap.size=g):∀ j x,[u][j]?=some x→(X.alloc (.cells #[u] t)).cell? ((⟨g,0,none⟩:Addr).add j)=some x:=by
 subst hg;intro j x hj;rw [Go.WideShapes.add_plain,Nat.zero_add]
 cases j with
 | zero=>simp at hj;subst hj;simp
 | succ j=>simp at hj
theorem ZdT (s:Zy_):∀ u ∈ [Value.string s],u.oneCell'=true:=fun u hu=>by rw [List.mem_singleton.1 hu];rfl
def Zd3 (Fs:List Fd) (rd:Zy_→List Zy_) (R:List Zy_) (k:Nat):Prop:=∀ i (h:i < Fs.length),i < k→Fs[i].nm ∈ R∨¬ ∀ r ∈ rd Fs[i].nm,r ∈ R
theorem Zd3.stuck {Fs:List Fd} {rd:Zy_→List Zy_} {R:List Zy_} {k:Nat} (h:Zd3 Fs rd R k) (hk:Fs.length≤k):Zh5 (ZaD Fs) rd R:=by
 intro x hx hn;obtain⟨i,hi,rfl⟩:=Zcq.1 hx
 rcases h i hi (by omega) with h1 | h1
 · exact absurd h1 hn
 · exact h1
theorem Zd3.succ {Fs:List Fd} {rd:Zy_→List Zy_} {R:List Zy_} {k:Nat} (h:Zd3 Fs rd R k) (hk:k < Fs.length) (hx:Fs[k].nm ∈ R∨¬ ∀ r ∈ rd Fs[k].nm,r ∈ R):Zd3 Fs rd R (k+1):=by
 intro i hi hik
 by_cases e:i=k
 · subst e;exact hx
 · exact h i hi (by omega)
theorem Zef (Fs:List Fd):(ZaD Fs).length=Fs.length:=by simp [ZaD]
theorem Zil {Fs:List Fd} {rd:Zy_→List Zy_} {R:List Zy_} (h:ZcN (ZaD Fs) rd R):R.length≤Fs.length:=by
 have:=List.Nodup.length_le_of_subset h.nodup h.sub
 rwa [Zef] at this
def Zpt (x:Sh) (Ms:List Md) (R:List Zy_):Prop:=
 ZcN (ZaD x.fields) (Zao x.kind Ms) R∧R.length≤x.fields.length∧(R.length=x.fields.length↔Zbr Ms x=true)
theorem Zpt.mk' {x:Sh} {Ms:List Md} {R:List Zy_} {n:Nat} (hg:ZcN (ZaD x.fields) (Zao x.kind Ms) R) (hn:x.fields.length≤n) (h:R.length=n∨Zh5 (ZaD x.fields) (Zao x.kind Ms) R):Zpt x Ms R:=by
 have hl:=Zil hg;refine⟨hg,hl,fun e=>Zll hg (by rw [Zef];omega),fun hb=>?_⟩
 rcases h with h | h
 · omega
 · rcases Nat.lt_or_ge R.length x.fields.length with hlt | hge
   · unfold Zbr at hb
     rw [Zn6 h (by rw [Zef];exact hlt)] at hb;cases hb
   · omega
theorem Tryz.info130:(prog.info? 130).map (fun i=>(i.zero,i.size,i.bytes))=some (some (.agg #[.string ⟨#[]⟩,.string ⟨#[]⟩,.string ⟨#[]⟩,.string ⟨#[]⟩,.string ⟨#[]⟩,.string ⟨#[]⟩]),6,96):=by kernel_rfl
theorem Zbc.setCell {lo:Nat} {w:World} {v:Value} {Ms:List Md} (h:Zbc lo w v Ms) {p:Addr} (hp:p.block < lo) (u:Value):Zbc lo (w.setCell p u) v Ms:=by
 rcases h with h | ⟨b,off,cap,h1,h2,h3,h4,h5,h6,h7⟩
 · exact Or.inl h
 · refine Or.inr ⟨b,off,cap,h1,h2,h3,by simpa [World.setCell] using h4,h5,h6,fun i hi=>?_⟩
   obtain⟨hs,hc⟩:=h7 i hi;have e:∀ o,(w.setCell p u).cell? ⟨b,o,none⟩=w.cell? ⟨b,o,none⟩:=fun o=>Zar _ _ _ _ (by show b≠p.block;omega)
   exact⟨hs,by rw [e];exact hc.c0,by rw [e];exact hc.c1,by rw [e];exact hc.c2,by rw [e];exact hc.c3,by rw [e];exact hc.c4,by rw [e];exact hc.c5⟩
def ZbB (wr:World) (B:Nat) (Ms:List Md) (k:Nat):Prop:=
 ∃ f,wr.rowIs B 130 (Ms.length*6) f∧∀ i (h:i < Ms.length),i < k→ZdX Ms[i]∧f (i*6)=.string Ms[i].kind∧f (i*6+1)=.string Ms[i].field∧f (i*6+2)=.string Ms[i].wh∧f (i*6+3)=.string Ms[i].is∧f (i*6+4)=.string Ms[i].put∧f (i*6+5)=.string Ms[i].fr
theorem ZbB.below {wr w1:World} {B:Nat} {Ms:List Md} {k:Nat} (h:ZbB wr B Ms k) (hb:Below wr.heap.size wr w1):ZbB w1 B Ms k:=by
 obtain⟨f,hr,hall⟩:=h;exact⟨f,hr.of_block (hb.block B hr.lt),hall⟩
theorem ZbB.free {wr:World} {B:Nat} {Ms:List Md} {k:Nat} (h:ZbB wr B Ms k) (i:Nat):wr.frozen? ⟨B,i,none⟩=false:=by
 obtain⟨f,hr,_⟩:=h;exact hr.frozen i
theorem ZbB.there {wr:World} {B:Nat} {Ms:List Md} {k:Nat} (h:ZbB wr B Ms k) (i:Nat) (hi:i < Ms.length*6):∃ v,wr.cell? ⟨B,i,none⟩=some v:=by
 obtain⟨f,hr,_⟩:=h;exact⟨_,hr.cell hi⟩
theorem ZbB.lt {wr:World} {B:Nat} {Ms:List Md} {k:Nat} (h:ZbB wr B Ms k):B < wr.heap.size:=by
 obtain⟨f,hr,_⟩:=h;exact hr.lt
theorem ZbB.step {w1:World} {B:Nat} {Ms:List Md} {k:Nat} (h:ZbB w1 B Ms k) (hk:k < Ms.length) (hz:ZdX Ms[k]) :
 ZbB ((((((w1.setCell ⟨B,k*6,none⟩ (.string Ms[k].kind)).setCell ⟨B,k*6+1,none⟩ (.string Ms[k].field)).setCell ⟨B,k*6+2,none⟩ (.string Ms[k].wh)).setCell ⟨B,k*6+3,none⟩ (.string Ms[k].is)).setCell ⟨B,k*6+4,none⟩ (.string Ms[k].put)).setCell ⟨B,k*6+5,none⟩ (.string Ms[k].fr)) B Ms (k+1):=by
 obtain⟨f,hr,hall⟩:=h;refine⟨_,((((((hr.set _ _).set _ _).set _ _).set _ _).set _ _).set _ _),fun i hi hik=>?_⟩
 by_cases e:i=k
 · subst e
   exact⟨hz,by simp,by simp,by simp,by simp,by simp,by simp⟩
 · obtain⟨hz',h0,h1,h2,h3,h4,h5⟩:=hall i hi (by omega)
   refine⟨hz',?_,?_,?_,?_,?_,?_⟩
   · rw [if_neg (by omega),if_neg (by omega),if_neg (by omega),if_neg (by omega),if_neg (by omega),if_neg (by omega)];exact h0
   · rw [if_neg (by omega),if_neg (by omega),if_neg (by omega),if_neg (by omega),if_neg (by omega),if_neg (by omega)];exact h1
   · rw [if_neg (by omega),if_neg (by omega),if_neg (by omega),if_neg (by omega),if_neg (by omega),if_neg (by omega)];exact h2
   · rw [if_neg (by omega),if_neg (by omega),if_neg (by omega),if_neg (by omega),if_neg (by omega),if_neg (by omega)];exact h3
   · rw [if_neg (by omega),if_neg (by omega),if_neg (by omega),if_neg (by omega),if_neg (by omega),if_neg (by omega)];exact h4
   · rw [if_neg (by omega),if_neg (by omega),if_neg (by omega),if_neg (by omega),if_neg (by omega),if_neg (by omega)];exact h5
def Ztz (lo hi:Nat) (w:World) (v:Value) (n:Nat):Prop:=
 (∃ (a:Option Addr) (cap:Nat),v=.slice a 0 cap∧n=0)∨
 ∃ (b off cap:Nat),v=.slice (some ⟨b,off,none⟩) n cap∧0 < n∧n≤maxLen∧lo≤b∧b < hi∧b < w.heap.size∧(∀ i,i < n*6→(w.cell? ⟨b,off+i,none⟩).isSome=true)∧∀ i,w.frozen? ⟨b,i,none⟩=false
theorem ZbB.done {wr:World} {B:Nat} {Ms:List Md} {k:Nat} (h:ZbB wr B Ms k) (hk:Ms.length≤k) (hne:Ms≠[]) (hm:Ms.length≤maxLen):Zbc B wr (.slice (some ⟨B,0,none⟩) Ms.length Ms.length) Ms∧Ztz B wr.heap.size wr (.slice (some ⟨B,0,none⟩) Ms.length Ms.length) Ms.length:=by
 refine⟨?_,Or.inr ⟨B,0,Ms.length,rfl,List.length_pos_iff.2 hne,hm,Nat.le_refl _,h.lt,h.lt,fun i hi=>?_,h.free⟩⟩
 · obtain⟨f,hr,hall⟩:=h
   refine Or.inr ⟨B,0,Ms.length,rfl,hne,hm,hr.lt,Nat.le_refl _,Nat.le_refl _,fun i hi=>?_⟩;obtain⟨hz,h0,h1,h2,h3,h4,h5⟩:=hall i hi (by omega);rw [Nat.zero_add];exact⟨hz,by rw [hr.cell (by omega),h0],by rw [hr.cell (by omega),h1],by rw [hr.cell (by omega),h2],by rw [hr.cell (by omega),h3],by rw [hr.cell (by omega),h4],by rw [hr.cell (by omega),h5]⟩
 · obtain⟨v,hv⟩:=h.there i hi;rw [Nat.zero_add,hv];rfl
theorem ZbB.new (w:World) (Ms:List Md) (z:Array Value):ZbB (w.alloc (.cells (madeCells z (Ms.length*6)) 130)) w.heap.size Ms 0:=by
 refine⟨fun i=>(madeCells z (Ms.length*6)).getD i default,?_,fun i _ h=>by omega⟩;have:=World.rowIs_alloc w (madeCells z (Ms.length*6)) 130 (fun i=>(madeCells z (Ms.length*6)).getD i default) (fun i hi=>by simp [Array.getD,hi])
 rwa [size_madeCells] at this
theorem ZmH (lo:Nat) (v:Value) (Ms:List Md) (w:World) (hv:Zbc lo w v Ms) (hn:Ms.length≤1048576) :
 Calls prog 25 #[v] w fun e w'=>∃ v',e=.returned v'∧Zw_ w w'∧Zbc w.heap.size w' v' Ms∧Ztz w.heap.size w'.heap.size w' v' Ms.length:=by
 obtain⟨i0,hi,hz0,hz1,hz2⟩:=info_parts Tryz.info130
 by_cases hL:Ms=[]
 · subst hL
   obtain⟨a,cap,rfl⟩:=hv.form;clear hv
   have hmk:∀ u:World,(Instr.makeSlice 40 (.int .i64 0) (.int .i64 0)).run prog u=.ok (.slice (some ⟨u.heap.size,0,none⟩) 0 0) (u.alloc (.cells (madeCells (Value.cells (.agg #[.string ⟨#[]⟩,.string ⟨#[]⟩,.string ⟨#[]⟩,.string ⟨#[]⟩,.string ⟨#[]⟩,.string ⟨#[]⟩])) 0) 130)):=fun u=>by
    have h:=run_make (P:=prog) u 40 130 i0 _ underlying40 hi hz0 .i64 .i64 0 0 (by omega) (by omega) (by omega) (by omega)
    simpa [hz1] using h
   go_enter func25,ntmps25;go_wp2
   go_loop [4] (fun i=>i=.int .i64 0) (fun _=>0)
   case atStart=>rfl
   case round=>
    subst hrel;go_wp2;go_ret;exact⟨_,rfl,Zb_.alloc Zl_ _,Or.inl ⟨_,_,rfl,rfl⟩,Or.inl ⟨_,_,rfl,rfl⟩⟩
 · obtain⟨b,off,cap,rfl,hm,hbw,_,hc⟩:=hv.full hL
   clear hv;have HM:Hid (Ms.length≤maxLen):=hm;unfold maxLen at hm
   have hmk:∀ u:World,(Instr.makeSlice 40 (.int .i64 (Ms.length:Int)) (.int .i64 (Ms.length:Int))).run prog u=.ok (.slice (some ⟨u.heap.size,0,none⟩) Ms.length Ms.length) (u.alloc (.cells (madeCells (Value.cells (.agg #[.string ⟨#[]⟩,.string ⟨#[]⟩,.string ⟨#[]⟩,.string ⟨#[]⟩,.string ⟨#[]⟩,.string ⟨#[]⟩])) (Ms.length*6)) 130)):=fun u=>by
    have h:=run_make (P:=prog) u 40 130 i0 _ underlying40 hi hz0 .i64 .i64 Ms.length Ms.length (by omega) (by omega) (by rw [hz2];omega) (by omega);rw [hz1] at h
    simpa using h
   clear hi hz0 hz1 hz2;go_enter func25,ntmps25;go_wp2;clear hmk
   go_loopw [4] (fun i wr=>∃ k:Nat,i=.int .i64 k∧k≤Ms.length∧Zw_ w wr∧ZbB wr w.heap.size Ms k) (fun i _=>Ms.length - (intOf i).toNat)
   case atStart=>exact⟨0,rfl,by omega,Zb_.alloc Zl_ _,ZbB.new w Ms _⟩
   case round=>
    obtain⟨k,rfl,hk,hb,hf⟩:=hrel
    by_cases hlt:k < Ms.length
    · obtain⟨hsz,hcell⟩:=hc k hlt
      obtain⟨c0,c1,c2,c3,c4,c5⟩:=hcell.below hb hbw;clear hcell;go_wp2_with fail;refine (ZmI _ _ _ _ _ _ _).mono ?_;rintro e w1 ⟨rfl,hb1⟩;have hf1:=hf.below hb1;have HST:=Zab (hf1.step hlt hsz);have hB:Hid (Zw_ w w1):=hb.trans (hb1.mono hb.size);have hfr:=hf1.free;obtain⟨o0,ho0⟩:=hf1.there (k*6) (by omega);obtain⟨o1,ho1⟩:=hf1.there (k*6+1) (by omega);obtain⟨o2,ho2⟩:=hf1.there (k*6+2) (by omega);obtain⟨o3,ho3⟩:=hf1.there (k*6+3) (by omega);obtain⟨o4,ho4⟩:=hf1.there (k*6+4) (by omega);obtain⟨o5,ho5⟩:=hf1.there (k*6+5) (by omega);clear hf hf1 hb1 hb c0 c1 c2 c3 c4 c5;go_wp2;go_roundw
      case rel=>
       exact⟨k+1,by go_num,by omega,((((((hB.out.setCell Zl_ _).setCell Zl_ _).setCell Zl_ _).setCell Zl_ _).setCell Zl_ _).setCell Zl_ _),HST.out⟩
      case measure=>simp [intOf];omega
    · go_wp2
      go_ret;have hd:=hf.done (by omega) hL HM.out;exact⟨_,rfl,hb,hd.1,hd.2⟩
end Go.Proofs.YtcfjmagkinpaeaaGreat
namespace Go.Proofs.YtcfjmagkinpaeaaGreat
open Go.ChangeShapes Go.WideShapes Go.ChangeAt Go.RowKit Go.Deep
open Go.ChangeMaps (open_string shut_string)
theorem Tryz.own:ownKnob prog.godebug=none:=by kernel_rfl
theorem Tryz.laidOut:laidOutB prog=true:=by kernel_rfl
theorem Tryz.cells9:prog.cellsOf 9=1:=by kernel_rfl
theorem Tryz.cells3:prog.cellsOf 3=1:=by kernel_rfl
theorem Tryz.cells4:prog.cellsOf 4=1:=by kernel_rfl
theorem Tryz.cells120:prog.cellsOf 120=1:=by kernel_rfl
theorem Tryz.cells236:prog.cellsOf 236=11:=by kernel_rfl
section
variable {H:Type} {enc:TypeId×Value→H} {W:World}
theorem ZdB {fuel:Nat} {c:Value} {x:DataW H×List MemPlace} (h:DataW.trod enc prog W 0 (fun _=>true) true fuel 120 [c]=some x):∃ L,Zaf W c L:=by
 rcases open_strs underlying120 underlying9 Tryz.cells9 h with ⟨hcs,_⟩ | ⟨a,len,cap,m,Sx,hcs,_,hl,hm,hmm,_,hcell⟩
 · simp only [List.cons.injEq,and_true] at hcs
   exact⟨[],Or.inl ⟨_,_,hcs,rfl⟩⟩
 · simp only [List.cons.injEq,and_true] at hcs
   simp only [if_true] at hmm;subst hmm
   by_cases h0:len=0
   · subst h0
     exact⟨[],Or.inl ⟨_,_,hcs,rfl⟩⟩
   · obtain⟨b,off,spot⟩:=a
     have hspot:spot=none:=by simpa [Addr.add] using World.cell?_spot (hcell 0 (by omega)).1
     subst hspot;refine⟨(List.range len).map Sx,Or.inr ⟨b,off,m,?_,?_,?_,?_,?_,?_⟩⟩
     · rw [hcs];simp
     · intro e;simp at e;exact h0 e
     · simp;omega
     · exact World.block_lt_of_cell? W _ (hcell 0 (by omega)).1
     · intro i hi
       simp at hi;have:=(hcell i (by omega)).1;rw [add_plain] at this
       simpa using this
     · intro s hs
       obtain⟨i,hi,rfl⟩:=List.mem_map.1 hs;exact (hcell i (by have:=List.mem_range.1 hi;omega)).2
end
end Go.Proofs.YtcfjmagkinpaeaaGreat
namespace Go.Proofs.YtcfjmagkinpaeaaGreat
open Go.ChangeShapes Go.WideShapes Go.ChangeAt Go.RowKit Go.Deep
theorem Tryz.cells103:prog.cellsOf 103=1:=by kernel_rfl
theorem Tryz.cells105:prog.cellsOf 105=2:=by kernel_rfl
theorem Za7 {α:Type} {p:Nat→α→Prop} (n:Nat):(∀ i,i < n→∃ x,p i x)→∃ L:List α,L.length=n∧∀ i (h:i < L.length),p i L[i]:=by
 induction n with
 | zero=>intro _;exact⟨[],rfl,fun i h=>absurd h (by simp)⟩
 | succ n ih=>
  intro h;obtain⟨L,hl,hL⟩:=ih (fun i hi=>h i (by omega));obtain⟨x,hx⟩:=h n (by omega);refine⟨L ++ [x],by simp [hl],fun i hi=>?_⟩
  by_cases e:i < L.length
  · rw [List.getElem_append_left e];exact hL i e
  · have e2:i=n:=by simp at hi;omega
    subst e2;have:(L ++ [x])[i]=x:=by rw [List.getElem_append_right (by omega)];simp [hl]
    rw [this];exact hx
theorem ZsB {l:List Value} (h:l.length=11):∃ c0 c1 c2 c3 c4 c5 c6 c7 c8 c9 c10,l=[c0,c1,c2,c3,c4,c5,c6,c7,c8,c9,c10]:=by
 match l,h with
 | [c0,c1,c2,c3,c4,c5,c6,c7,c8,c9,c10],_=>exact⟨c0,c1,c2,c3,c4,c5,c6,c7,c8,c9,c10,rfl⟩
theorem ZsD {l:List Value} (h:l.length=2):∃ c0 c1,l=[c0,c1]:=by
 match l,h with
 | [c0,c1],_=>exact⟨c0,c1,rfl⟩
theorem Zaf.in0 {w:World} {v:Value} {L:List Zy_} (h:Zaf w v L):Zan 0 w v L:=by
 rcases h with h | ⟨b,off,cap,h1,h2,h3,h4,h5,h6⟩
 · exact Or.inl h
 · exact Or.inr ⟨b,off,cap,h1,h2,h3,h4,h5,h6,Nat.zero_le _⟩
section
variable {H:Type} {enc:TypeId×Value→H} {W:World}
theorem ZrK {fuel:Nat} {cs:List Value} {x:DataW H×List MemPlace} (h:DataW.trod enc prog W 0 (fun _=>true) true fuel 236 cs=some x) :
 ∃ (f:Fd) (wv:Value),cs=[.string f.nm,.int .i64 f.kd,.int .i64 f.le,.int .i64 f.mo,wv,.string f.to,.int .i64 f.ro,.bool f.mu,.bool f.fx,.string f.df,.string f.we]∧Zaf W wv f.words∧ZeG f:=by
 obtain⟨xs,n,_,_,hl,hlen,hfld⟩:=DataW.trod_struct underlying236 h;obtain⟨c0,c1,c2,c3,c4,c5,c6,c7,c8,c9,c10,rfl⟩:=ZsB (hl.trans Tryz.cells236);simp only [Array.size,List.length_cons,List.length_nil] at hlen;have g0:DataW.trod enc prog W 0 (fun _=>true) true n 9 ((([c0,c1,c2,c3,c4,c5,c6,c7,c8,c9,c10]:List Value).drop 0).take (prog.cellsOf 9))=xs[0]?:=hfld 0 _ rfl;have g1:DataW.trod enc prog W 0 (fun _=>true) true n 3 ((([c0,c1,c2,c3,c4,c5,c6,c7,c8,c9,c10]:List Value).drop 1).take (prog.cellsOf 3))=xs[1]?:=hfld 1 _ rfl;have g2:DataW.trod enc prog W 0 (fun _=>true) true n 3 ((([c0,c1,c2,c3,c4,c5,c6,c7,c8,c9,c10]:List Value).drop 2).take (prog.cellsOf 3))=xs[2]?:=hfld 2 _ rfl;have g3:DataW.trod enc prog W 0 (fun _=>true) true n 3 ((([c0,c1,c2,c3,c4,c5,c6,c7,c8,c9,c10]:List Value).drop 3).take (prog.cellsOf 3))=xs[3]?:=hfld 3 _ rfl
 have g4:DataW.trod enc prog W 0 (fun _=>true) true n 120 ((([c0,c1,c2,c3,c4,c5,c6,c7,c8,c9,c10]:List Value).drop 4).take (prog.cellsOf 120))=xs[4]?:=hfld 4 _ rfl;have g5:DataW.trod enc prog W 0 (fun _=>true) true n 9 ((([c0,c1,c2,c3,c4,c5,c6,c7,c8,c9,c10]:List Value).drop 5).take (prog.cellsOf 9))=xs[5]?:=hfld 5 _ rfl;have g6:DataW.trod enc prog W 0 (fun _=>true) true n 3 ((([c0,c1,c2,c3,c4,c5,c6,c7,c8,c9,c10]:List Value).drop 6).take (prog.cellsOf 3))=xs[6]?:=hfld 6 _ rfl;have g7:DataW.trod enc prog W 0 (fun _=>true) true n 4 ((([c0,c1,c2,c3,c4,c5,c6,c7,c8,c9,c10]:List Value).drop 7).take (prog.cellsOf 4))=xs[7]?:=hfld 7 _ rfl;have g8:DataW.trod enc prog W 0 (fun _=>true) true n 4 ((([c0,c1,c2,c3,c4,c5,c6,c7,c8,c9,c10]:List Value).drop 8).take (prog.cellsOf 4))=xs[8]?:=hfld 8 _ rfl
 have g9:DataW.trod enc prog W 0 (fun _=>true) true n 9 ((([c0,c1,c2,c3,c4,c5,c6,c7,c8,c9,c10]:List Value).drop 9).take (prog.cellsOf 9))=xs[9]?:=hfld 9 _ rfl;have g10:DataW.trod enc prog W 0 (fun _=>true) true n 9 ((([c0,c1,c2,c3,c4,c5,c6,c7,c8,c9,c10]:List Value).drop 10).take (prog.cellsOf 9))=xs[10]?:=hfld 10 _ rfl;simp only [Tryz.cells9,Tryz.cells3,Tryz.cells4,Tryz.cells120,List.drop_succ_cons,List.drop_zero,List.take_succ_cons,List.take_zero] at g0 g1 g2 g3 g4 g5 g6 g7 g8 g9 g10;rw [List.getElem?_eq_getElem (by omega)] at g0 g1 g2 g3 g4 g5 g6 g7 g8 g9 g10;obtain⟨nm,e0,_,s0⟩:=DataW.trod_string underlying9 g0;obtain⟨kd,e1,_,_⟩:=DataW.trod_int underlying3 g1;obtain⟨le,e2,_,_⟩:=DataW.trod_int underlying3 g2;obtain⟨mo,e3,_,_⟩:=DataW.trod_int underlying3 g3;obtain⟨L,hL⟩:=ZdB g4;obtain⟨tq,e5,_,s5⟩:=DataW.trod_string underlying9 g5
 obtain⟨ro,e6,_,_⟩:=DataW.trod_int underlying3 g6;obtain⟨mu,e7,_⟩:=DataW.trod_bool underlying4 g7;obtain⟨fx,e8,_⟩:=DataW.trod_bool underlying4 g8;obtain⟨df,e9,_,s9⟩:=DataW.trod_string underlying9 g9;obtain⟨we,e10,_,s10⟩:=DataW.trod_string underlying9 g10;simp only [List.cons.injEq,and_true] at e0 e1 e2 e3 e5 e6 e7 e8 e9 e10;subst e0 e1 e2 e3 e5 e6 e7 e8 e9 e10;exact⟨⟨nm,kd,le,mo,L,tq,ro,mu,fx,df,we⟩,c4,rfl,hL,⟨s0,s5,s9,s10⟩⟩
theorem ZpO {fuel:Nat} {c:Value} {x:DataW H×List MemPlace} (h:DataW.trod enc prog W 0 (fun _=>true) true fuel 103 [c]=some x):∃ Fs,Zav 0 W c Fs:=by
 rcases open_slice underlying103 h with ⟨hcs,_⟩ | ⟨a,len,cap,m,n,D,Pl,hcs,_,hl,hm,hmm,_,hx⟩
 · simp only [List.cons.injEq,and_true] at hcs
   exact⟨[],Or.inl ⟨_,_,hcs,rfl⟩⟩
 · simp only [List.cons.injEq,and_true] at hcs
   simp only [if_true] at hmm;subst hmm;rw [Tryz.cells236] at hx
   by_cases h0:len=0
   · subst h0
     exact⟨[],Or.inl ⟨_,_,hcs,rfl⟩⟩
   · obtain⟨Fs,hF,hall⟩:=Za7 (p:=fun i (f:Fd)=>ZeG f∧∃ wv,Zaf W wv f.words∧W.cells? 0 (a.add (i*11)) 11=some [.string f.nm,.int .i64 f.kd,.int .i64 f.le,.int .i64 f.mo,wv,.string f.to,.int .i64 f.ro,.bool f.mu,.bool f.fx,.string f.df,.string f.we]) len (fun i hi=>by
      obtain⟨cs',h1,h2⟩:=hx i (by omega);obtain⟨f,wv,e,hw,hz⟩:=ZrK h2;rw [e] at h1;exact⟨f,hz,wv,hw,h1⟩)
     obtain⟨b,off,spot⟩:=a
     have hspot:spot=none:=by
      obtain⟨_,wv,_,h1⟩:=hall 0 (by omega);have:=(World.cells?_some h1).2.2 0 (by omega);rw [Nat.zero_mul] at this;have e0:((⟨b,off,spot⟩:Addr).add 0).add 0=⟨b,off,spot⟩:=by simp [Addr.add]
      rw [e0] at this
      simpa using World.cell?_spot (by simpa using this)
     subst hspot
     have hcell:∀ i (hi:i < Fs.length) wv,W.cells? 0 ((⟨b,off,none⟩:Addr).add (i*11)) 11=some [.string Fs[i].nm,.int .i64 Fs[i].kd,.int .i64 Fs[i].le,.int .i64 Fs[i].mo,wv,.string Fs[i].to,.int .i64 Fs[i].ro,.bool Fs[i].mu,.bool Fs[i].fx,.string Fs[i].df,.string Fs[i].we]→ZcC W b (off+i*11) Fs[i] wv:=fun i hi wv h1=>by
      obtain⟨_,_,hc⟩:=World.cells?_some h1;rw [add_plain] at hc;have q:=fun j (hj:j < 11)=>(add_plain b (off+i*11) j) ▸ hc j hj
      exact⟨by simpa using q 0 (by omega),by simpa using q 1 (by omega),by simpa using q 2 (by omega),by simpa using q 3 (by omega),by simpa using q 4 (by omega),by simpa using q 5 (by omega),by simpa using q 6 (by omega),by simpa using q 7 (by omega),by simpa using q 8 (by omega),by simpa using q 9 (by omega),by simpa using q 10 (by omega)⟩
     have hbw:b < W.heap.size:=by
      obtain⟨_,wv,_,h1⟩:=hall 0 (by omega);exact World.block_lt_of_cell? W _ (hcell 0 (by omega) wv h1).c0
     refine⟨Fs,Or.inr ⟨b,off,m,by rw [hcs,hF],?_,by omega,hbw,Nat.zero_le _,by omega,fun i hi=>?_⟩⟩
     · intro e;rw [e] at hF;simp at hF;omega
     · obtain⟨hz,wv,hw,h1⟩:=hall i hi
       exact⟨hz,wv,hcell i hi wv h1,hw.in0⟩
theorem ZrM {fuel:Nat} {cs:List Value} {x:DataW H×List MemPlace} (h:DataW.trod enc prog W 0 (fun _=>true) true fuel 105 cs=some x) :
 ∃ (s:Sh) (fv:Value),cs=[.string s.kind,fv]∧Zav 0 W fv s.fields∧s.kind.size≤maxLen:=by
 obtain⟨xs,n,_,_,hl,hlen,hfld⟩:=DataW.trod_struct underlying105 h;obtain⟨c0,c1,rfl⟩:=ZsD (hl.trans Tryz.cells105);simp only [Array.size,List.length_cons,List.length_nil] at hlen;have g0:DataW.trod enc prog W 0 (fun _=>true) true n 9 ((([c0,c1]:List Value).drop 0).take (prog.cellsOf 9))=xs[0]?:=hfld 0 _ rfl;have g1:DataW.trod enc prog W 0 (fun _=>true) true n 103 ((([c0,c1]:List Value).drop 1).take (prog.cellsOf 103))=xs[1]?:=hfld 1 _ rfl;simp only [Tryz.cells9,Tryz.cells103,List.drop_succ_cons,List.drop_zero,List.take_succ_cons,List.take_zero] at g0 g1;rw [List.getElem?_eq_getElem (by omega)] at g0 g1;obtain⟨kd,e0,_,s0⟩:=DataW.trod_string underlying9 g0;obtain⟨Fs,hF⟩:=ZpO g1;simp only [List.cons.injEq,and_true] at e0;subst e0;exact⟨⟨kd,Fs⟩,c1,rfl,hF,s0⟩
theorem ZpQ {fuel:Nat} {c:Value} {x:DataW H×List MemPlace} (h:DataW.trod enc prog W 0 (fun _=>true) true fuel 22 [c]=some x):∃ Ss,ZaU 0 W c Ss:=by
 rcases open_slice underlying22 h with ⟨hcs,_⟩ | ⟨a,len,cap,m,n,D,Pl,hcs,_,hl,hm,hmm,_,hx⟩
 · simp only [List.cons.injEq,and_true] at hcs
   exact⟨[],Or.inl ⟨_,_,hcs,rfl⟩⟩
 · simp only [List.cons.injEq,and_true] at hcs
   simp only [if_true] at hmm;subst hmm;rw [Tryz.cells105] at hx
   by_cases h0:len=0
   · subst h0
     exact⟨[],Or.inl ⟨_,_,hcs,rfl⟩⟩
   · obtain⟨Ss,hF,hall⟩:=Za7 (p:=fun i (s:Sh)=>s.kind.size≤maxLen∧∃ fv,Zav 0 W fv s.fields∧W.cells? 0 (a.add (i*2)) 2=some [.string s.kind,fv]) len (fun i hi=>by
      obtain⟨cs',h1,h2⟩:=hx i (by omega);obtain⟨s,fv,e,hw,hz⟩:=ZrM h2;rw [e] at h1;exact⟨s,hz,fv,hw,h1⟩)
     obtain⟨b,off,spot⟩:=a
     have hspot:spot=none:=by
      obtain⟨_,fv,_,h1⟩:=hall 0 (by omega);have:=(World.cells?_some h1).2.2 0 (by omega);rw [Nat.zero_mul] at this;have e0:((⟨b,off,spot⟩:Addr).add 0).add 0=⟨b,off,spot⟩:=by simp [Addr.add]
      rw [e0] at this
      simpa using World.cell?_spot (by simpa using this)
     subst hspot
     have hcell:∀ i (hi:i < Ss.length) fv,W.cells? 0 ((⟨b,off,none⟩:Addr).add (i*2)) 2=some [.string Ss[i].kind,fv]→W.cell? ⟨b,off+i*2,none⟩=some (.string Ss[i].kind)∧W.cell? ⟨b,off+i*2+1,none⟩=some fv:=fun i hi fv h1=>by
      obtain⟨_,_,hc⟩:=World.cells?_some h1;rw [add_plain] at hc;have q:=fun j (hj:j < 2)=>(add_plain b (off+i*2) j) ▸ hc j hj
      exact⟨by simpa using q 0 (by omega),by simpa using q 1 (by omega)⟩
     have hbw:b < W.heap.size:=by
      obtain⟨_,fv,_,h1⟩:=hall 0 (by omega);exact World.block_lt_of_cell? W _ (hcell 0 (by omega) fv h1).1
     refine⟨Ss,Or.inr ⟨b,off,m,by rw [hcs,hF],?_,by omega,hbw,Nat.zero_le _,fun i hi=>?_⟩⟩
     · intro e;rw [e] at hF;simp at hF;omega
     · obtain⟨hz,fv,hw,h1⟩:=hall i hi
       exact⟨hz,fv,(hcell i hi fv h1).1,(hcell i hi fv h1).2,hw⟩
end
theorem Tryz.cells146:prog.cellsOf 146=7:=by kernel_rfl
theorem Zsk {cs:Array Value} (h:cs.size=7):∃ c0 c1 c2 c3 c4 c5 c6,cs=#[c0,c1,c2,c3,c4,c5,c6]:=by
 obtain⟨l⟩:=cs
 match l,h with
 | [c0,c1,c2,c3,c4,c5,c6],_=>exact⟨c0,c1,c2,c3,c4,c5,c6,rfl⟩
theorem Tryz.cells108:prog.cellsOf 108=6:=by kernel_rfl
theorem Zto {l:List Value} (h:l.length=6):∃ c0 c1 c2 c3 c4 c5,l=[c0,c1,c2,c3,c4,c5]:=by
 match l,h with
 | [c0,c1,c2,c3,c4,c5],_=>exact⟨c0,c1,c2,c3,c4,c5,rfl⟩
section
variable {H:Type} {enc:TypeId×Value→H} {W:World}
theorem ZrL {fuel:Nat} {cs:List Value} {x:DataW H×List MemPlace} (h:DataW.trod enc prog W 0 (fun _=>true) true fuel 108 cs=some x) :
 ∃ (m:Md),cs=[.string m.kind,.string m.field,.string m.wh,.string m.is,.string m.put,.string m.fr]∧ZdX m:=by
 obtain⟨xs,n,_,_,hl,hlen,hfld⟩:=DataW.trod_struct underlying108 h;obtain⟨c0,c1,c2,c3,c4,c5,rfl⟩:=Zto (hl.trans Tryz.cells108);simp only [Array.size,List.length_cons,List.length_nil] at hlen;have g0:DataW.trod enc prog W 0 (fun _=>true) true n 9 ((([c0,c1,c2,c3,c4,c5]:List Value).drop 0).take (prog.cellsOf 9))=xs[0]?:=hfld 0 _ rfl;have g1:DataW.trod enc prog W 0 (fun _=>true) true n 9 ((([c0,c1,c2,c3,c4,c5]:List Value).drop 1).take (prog.cellsOf 9))=xs[1]?:=hfld 1 _ rfl;have g2:DataW.trod enc prog W 0 (fun _=>true) true n 9 ((([c0,c1,c2,c3,c4,c5]:List Value).drop 2).take (prog.cellsOf 9))=xs[2]?:=hfld 2 _ rfl;have g3:DataW.trod enc prog W 0 (fun _=>true) true n 9 ((([c0,c1,c2,c3,c4,c5]:List Value).drop 3).take (prog.cellsOf 9))=xs[3]?:=hfld 3 _ rfl
 have g4:DataW.trod enc prog W 0 (fun _=>true) true n 9 ((([c0,c1,c2,c3,c4,c5]:List Value).drop 4).take (prog.cellsOf 9))=xs[4]?:=hfld 4 _ rfl;have g5:DataW.trod enc prog W 0 (fun _=>true) true n 9 ((([c0,c1,c2,c3,c4,c5]:List Value).drop 5).take (prog.cellsOf 9))=xs[5]?:=hfld 5 _ rfl;simp only [Tryz.cells9,List.drop_succ_cons,List.drop_zero,List.take_succ_cons,List.take_zero] at g0 g1 g2 g3 g4 g5;rw [List.getElem?_eq_getElem (by omega)] at g0 g1 g2 g3 g4 g5;obtain⟨k,e0,_,s0⟩:=DataW.trod_string underlying9 g0;obtain⟨f,e1,_,s1⟩:=DataW.trod_string underlying9 g1;obtain⟨wh,e2,_,s2⟩:=DataW.trod_string underlying9 g2;obtain⟨is,e3,_,s3⟩:=DataW.trod_string underlying9 g3;obtain⟨pu,e4,_,s4⟩:=DataW.trod_string underlying9 g4;obtain⟨fr,e5,_,s5⟩:=DataW.trod_string underlying9 g5;simp only [List.cons.injEq,and_true] at e0 e1 e2 e3 e4 e5
 subst e0 e1 e2 e3 e4 e5;exact⟨⟨k,f,wh,is,pu,fr⟩,rfl,⟨s0,s1,s2,s3,s4,s5⟩⟩
theorem ZpP {fuel:Nat} {c:Value} {x:DataW H×List MemPlace} (h:DataW.trod enc prog W 0 (fun _=>true) true fuel 23 [c]=some x):∃ Ms,Zbc 0 W c Ms:=by
 rcases open_slice underlying23 h with ⟨hcs,_⟩ | ⟨a,len,cap,m,n,D,Pl,hcs,_,hl,hm,hmm,_,hx⟩
 · simp only [List.cons.injEq,and_true] at hcs
   exact⟨[],Or.inl ⟨_,_,hcs,rfl⟩⟩
 · simp only [List.cons.injEq,and_true] at hcs
   simp only [if_true] at hmm;subst hmm;rw [Tryz.cells108] at hx
   by_cases h0:len=0
   · subst h0
     exact⟨[],Or.inl ⟨_,_,hcs,rfl⟩⟩
   · obtain⟨Ms,hF,hall⟩:=Za7 (p:=fun i (m:Md)=>ZdX m∧W.cells? 0 (a.add (i*6)) 6=some [.string m.kind,.string m.field,.string m.wh,.string m.is,.string m.put,.string m.fr]) len (fun i hi=>by
      obtain⟨cs',h1,h2⟩:=hx i (by omega);obtain⟨md,e,hz⟩:=ZrL h2;rw [e] at h1;exact⟨md,hz,h1⟩)
     obtain⟨b,off,spot⟩:=a
     have hspot:spot=none:=by
      obtain⟨_,h1⟩:=hall 0 (by omega);have:=(World.cells?_some h1).2.2 0 (by omega);rw [Nat.zero_mul] at this;have e0:((⟨b,off,spot⟩:Addr).add 0).add 0=⟨b,off,spot⟩:=by simp [Addr.add]
      rw [e0] at this
      simpa using World.cell?_spot (by simpa using this)
     subst hspot
     have hcell:∀ i (hi:i < Ms.length),W.cells? 0 ((⟨b,off,none⟩:Addr).add (i*6)) 6=some [.string Ms[i].kind,.string Ms[i].field,.string Ms[i].wh,.string Ms[i].is,.string Ms[i].put,.string Ms[i].fr]→ZeR W b (off+i*6) Ms[i]:=fun i hi h1=>by
      obtain⟨_,_,hc⟩:=World.cells?_some h1;rw [add_plain] at hc;have q:=fun j (hj:j < 6)=>(add_plain b (off+i*6) j) ▸ hc j hj
      exact⟨by simpa using q 0 (by omega),by simpa using q 1 (by omega),by simpa using q 2 (by omega),by simpa using q 3 (by omega),by simpa using q 4 (by omega),by simpa using q 5 (by omega)⟩
     have hbw:b < W.heap.size:=by
      obtain⟨_,h1⟩:=hall 0 (by omega);exact World.block_lt_of_cell? W _ (hcell 0 (by omega) h1).c0
     refine⟨Ms,Or.inr ⟨b,off,m,by rw [hcs,hF],?_,by omega,hbw,Nat.zero_le _,by omega,fun i hi=>?_⟩⟩
     · intro e;rw [e] at hF;simp at hF;omega
     · obtain⟨hz,h1⟩:=hall i hi
       exact⟨hz,hcell i hi h1⟩
end
end Go.Proofs.YtcfjmagkinpaeaaGreat
