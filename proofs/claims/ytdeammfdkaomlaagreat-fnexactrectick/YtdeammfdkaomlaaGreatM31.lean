import Derived.Test.YtdeammfdkaomlaaGreatM26
import Derived.Test.YtdeammfdkaomlaaGreatM27
import Derived.Test.YtdeammfdkaomlaaGreatM28
import Derived.Test.YtdeammfdkaomlaaGreatM30
set_option maxHeartbeats 16000000
set_option maxRecDepth 100000
open Go.Proofs.Tryz
namespace Go.Proofs.YtdeammfdkaomlaaGreat
open Go.RowKit Go.Deep
theorem Zld (n:Nat):zB n=decide (n=0):=by
 unfold zB;rw [Bool.eq_iff_iff];simp
theorem Zkq (n:Nat):decide (0 < n)=!decide (n=0):=by
 rw [Bool.eq_iff_iff];simp;omega
theorem Zkr (a b:Nat):decide (0 < a+b)=!(decide (a=0)&&decide (b=0)):=by
 rw [Bool.eq_iff_iff];simp only [decide_eq_true_eq,Bool.not_eq_true',Bool.and_eq_false_iff,decide_eq_false_iff_not];omega
theorem ZiP (a b c:Nat):decide (a+b+c=0)=(decide (a=0)&&(decide (b=0)&&decide (c=0))):=by
 rw [Bool.eq_iff_iff];simp only [decide_eq_true_eq,Bool.and_eq_true];omega
theorem ZiO (a b:Nat) (d:Int) (h:0<=d):(((a+b:Nat):Int)+d == 0)=(decide (a=0)&&(decide (b=0)&&d == 0)):=by
 rw [Bool.eq_iff_iff];simp only [beq_iff_eq,decide_eq_true_eq,Bool.and_eq_true];omega
theorem Zht (U:Rr):ZaM U=ZcF U:=by
 cases h6:inB 0 1000000 U.hd with
 | false=>
  unfold ZaM ZcF Ze5;rw [h6];simp
 | true=>
  have hd0:0<=U.hd:=by unfold inB at h6;simp at h6;omega
  unfold ZaM ZcF Ze5 Zf2 Zcu Zhi ZkE ZeJ ZdO Zci;rw [ZiO _ _ _ hd0,Zkq,Zkr,ZiP];simp only [Zld];generalize inB 1 5 U.of=b1;generalize inB 1 U.of U.nu=b2;generalize ZaW U.sf=b3;generalize ZaW U.dk=b4;generalize decide (U.he.length<=400)=b5;generalize (List.range U.he.length).all (ZbS U)=b6;generalize ZbC U.wi=b7;rw [h6];generalize Zbq U.of U.ye=b8;generalize ZaI U.be=b9;generalize ZbH U.of U.ac=b10;generalize inB 1 U.dk.pr U.ba=b11;generalize decide (U.ac.length=0)=b12;generalize decide (U.ye.length=0)=b13;generalize decide (U.be.length=0)=b14;generalize decide (U.he.length=0)=b15;generalize decide (U.wi.length=0)=b16;generalize (U.ba == 0)=b17;generalize (U.hd == 0)=b18;generalize U.up=b19;generalize U.ld=b20;generalize U.ty=b21
  cases b1 <;> (try rfl)
  cases b2 <;> (try rfl)
  cases b3 <;> (try rfl)
  cases b4 <;> (try rfl)
  cases b5 <;> (try rfl)
  cases b7 <;> (try (cases b6 <;> rfl))
  cases b6 <;> (try rfl)
  cases b8 <;> (try rfl)
  cases b9 <;> (try rfl)
  cases b10 <;> (try rfl)
  cases b20 <;> cases b21 <;> cases b19 <;> cases b11 <;> cases b12 <;> cases b13 <;> cases b14 <;> (try rfl) <;> cases b17 <;> (try rfl) <;> cases b15 <;> (try rfl) <;> cases b16 <;> (try rfl) <;> cases b18 <;> rfl
theorem Zet (lo:Nat) (cs:List Value) (U:Rr) (w:World) (h:RrC lo w cs U) :
 Calls prog 70 #[.agg cs.toArray] w fun e w'=>e=.returned (.bool (ZaM U))/\Zw_ w w':=by
 rw [Zht]
 cases ha:(Zgw U).all id with
 | false=>exact Zgk lo cs U w h ha
 | true=>
  unfold Zgw at ha;simp only [List.all_cons,List.all_nil,Bool.and_true,id,Bool.and_eq_true] at ha;obtain⟨⟨h1,h1'⟩,h2,h3,⟨h4,h4'⟩,h5,h6,h7,h8,h9⟩:=ha;have e1:(inB 1 5 U.of&&inB 1 U.of U.nu)=true:=by rw [h1,h1'];rfl
  have e4:(decide (U.he.length<=400)&&(List.range U.he.length).all (ZbS U))=true:=by rw [h4,h4'];rfl
  cases ql:U.ld with
  | true=>exact Zhs lo cs U w h e1 h2 h3 e4 h5 h6 h7 h8 h9 ql
  | false=>
   cases qt:U.ty with
   | true=>exact ZiY lo cs U w h e1 h2 h3 e4 h5 h6 h7 h8 h9 ql qt
   | false=>exact Zgl lo cs U w h e1 h2 h3 e4 h5 h6 h7 h8 h9 ql qt
theorem Zhu (γ:Nat) (w:World) :
 Calls prog 152 #[.pointer (some ⟨γ,0,none⟩)] w fun e w'=>e=.returned (.agg #[.pointer (some ⟨γ,0,none⟩),.func (.func 177) #[] #[.pointer (some ⟨w.heap.size,0,none⟩)]])/\Zw_ w w'/\Box w' w.heap.size #[.pointer (some ⟨γ,0,none⟩)]:=by
 obtain⟨fs,hfs⟩:∃ fs:Array Value,fs=#[.pointer (some ⟨γ,0,none⟩),.func (.func 177) #[] #[.pointer (some ⟨w.heap.size,0,none⟩)]]:=⟨_,rfl⟩
 obtain⟨W0,hW0⟩:∃ W0,W0=(w.alloc (.cells #[.pointer (some ⟨γ,0,none⟩)] 111)).alloc (.cells #[.pointer none,.nilFunc] 190):=⟨_,rfl⟩
 have BX:Hd (Box W0 w.heap.size #[.pointer (some ⟨γ,0,none⟩)]):=by unfold Hd;rw [hW0];exact (Box.new w _ _ _ rfl).on (Zab _ _)
 have RB:Hd (Box W0 (w.heap.size+1) #[.pointer none,.nilFunc]):=by unfold Hd;rw [hW0];exact Box.new _ _ _ _ (by simp)
 have HB:Hd (Zw_ w W0):=by unfold Hd;rw [hW0];exact bt (Zab _ _) (Zab _ _)
 have HTH:Hd (World.there ((w.alloc (.cells #[.pointer (some ⟨γ,0,none⟩)] 111)).alloc (.cells #[.pointer none,.nilFunc] 190)) (w.heap.size+1) 0 fs.size):=by unfold Hd;rw [<- hW0,hfs];exact RB.o.there rfl
 have HON:Hd (fs.all (·.oneCell')=true):=by unfold Hd;rw [hfs];simp [Value.oneCell']
 have HSA:Hd ((prog.info? 190).map (·.size)=some fs.size):=by unfold Hd;rw [hfs];kernel_rfl
 have HFS:=Zaa hfs;go_enter func152,ntmps152;go_wp2_with (with_reducible refine wpList_store_mid (by with_reducible rfl) 190 (.tmp 2) (.tmp 5) (by with_reducible rfl) (w.heap.size+1) 0 fs (by with_unfolding_all rfl) (by rw [hfs];with_unfolding_all rfl) HTH.o HSA.o HON.o ?_;refine Hd.o ?_);rw [<- hW0];generalize hW:World.setCells _ _ _ _=W9;have FR9:Hd (Box W9 (w.heap.size+1) fs):=by unfold Hd;rw [<- hW,hfs];exact RB.o.full rfl
 have TT:Hd (Zad (w.heap.size+1) (w.heap.size+2) W0 W9):=by unfold Hd;rw [<- hW];exact Zad.sets ⟨by omega,by omega⟩ _ _ _
 have BX9:=Zaa (BX.o.tch2 TT.o (Or.inl (by omega)));have HB9:Hd (Zw_ w W9):=HB.o.trans ((TT.o.under (by have:=RB.o.lt;omega)).mono (by omega));clear hW hW0;refine Zaa ?_;go_wp2;refine bodyPost_ret (v:=.agg fs) ?_ rfl ⟨by rw [HFS.o],HB9.o,BX9.o⟩;have g:=FR9.o.cell;rw [HFS.o] at g |-;simp [results,results152,go_sem,g]
section
variable {lo γ ρ n:Nat} {w W W':World} {U U':Rr}
def wkC (γ ρ:Nat):Array Value:=#[.pointer (some ⟨γ,0,none⟩),.func (.func 177) #[] #[.pointer (some ⟨ρ,0,none⟩)]]
structure Wk (K:Nat->Prop) (lo:Nat) (w:World) (γ ρ:Nat) (U:Rr):Prop where
 wz:Wz K lo w γ U
 kr:K ρ
 rb:Box w ρ #[.pointer (some ⟨γ,0,none⟩)]
def KN (K:Nat->Prop) (w:World) (n:Nat):Nat->Prop:=fun k=>K k\/(w.heap.size<=k/\k < w.heap.size+n)
theorem Wk.less {K K':Nat->Prop} (h:Wk K lo w γ ρ U) (hk:∀ k,K' k->K k) (hr:K' ρ):Wk K' lo w γ ρ U:=⟨h.wz.less hk,hr,h.rb⟩
theorem Wz.kw {K:Nat->Prop} (h:Wz K lo w γ U):∀ k,K k->k < w.heap.size:=fun k hk=>by
 obtain⟨b,m,S,h⟩:=h;exact (h.prot k hk).1
structure At (K:Nat->Prop) (lo:Nat) (w W:World) (γ ρ n:Nat) (U:Rr):Prop where
 kp:Zag K w W
 wz:Wz (KN K w n) lo W γ U
 kr:K ρ
 rb:Box W ρ #[.pointer (some ⟨γ,0,none⟩)]
 bx:Box W w.heap.size (wkC γ ρ)
 kw:∀ k,K k->k < w.heap.size
 ps:0 < n
theorem Wk.enter {K:Nat->Prop} (h:Wk K lo w γ ρ U) (hb:Zw_ w W) (hx:Box W w.heap.size (wkC γ ρ)) (hn:w.heap.size+n<=W.heap.size) (h0:0 < n):At K lo w W γ ρ n U:=by
 refine⟨Zag.below hb h.wz.kw,h.wz.shield hb (fun k hk=>?_),h.kr,h.rb.on hb,hx,h.wz.kw,h0⟩
 rcases hk with hk | hk
 . exact Or.inl hk
 . exact Or.inr ⟨hk.1,by omega⟩
theorem At.step {K:Nat->Prop} (h:At K lo w W γ ρ n U) (hk:Zag (KN K w n) W W') (hz:Wz (KN K w n) lo W' γ U'):At K lo w W' γ ρ n U':=
 ⟨h.kp.trans (hk.less fun _ h=>Or.inl h),hz,h.kr,h.rb.kept hk (Or.inl h.kr),h.bx.kept hk (Or.inr ⟨Nat.le_refl _,by have:=h.ps;omega⟩),h.kw,h.ps⟩
theorem At.sz {K:Nat->Prop} (h:At K lo w W γ ρ n U):w.heap.size+n<=W.heap.size:=by
 have:=h.wz.kw (w.heap.size+(n - 1)) (Or.inr ⟨by omega,by have:=h.ps;omega⟩);have:=h.ps
 omega
theorem At.on {K:Nat->Prop} (h:At K lo w W γ ρ n U) (hb:Below W.heap.size W W'):At K lo w W' γ ρ n U:=
 h.step (Zag.below hb h.wz.kw) (h.wz.shield hb fun _ h=>Or.inl h)
theorem At.wk {K:Nat->Prop} (h:At K lo w W γ ρ n U):Wk (KN K w n) lo W γ ρ U:=⟨h.wz,Or.inl h.kr,h.rb⟩
theorem At.call {K:Nat->Prop} (h:At K lo w W γ ρ n U) (hk:Zag (KN K w n) W W') (hz:Wk (KN K w n) lo W' γ ρ U'):At K lo w W' γ ρ n U':=h.step hk hz.wz
theorem At.fin {K:Nat->Prop} (h:At K lo w W γ ρ n U):Zag K w W/\Wk K lo W γ ρ U:=⟨h.kp,h.wz.less (fun _ h=>Or.inl h),h.kr,h.rb⟩
theorem At.c0 {K:Nat->Prop} (h:At K lo w W γ ρ n U):W.cell? ⟨w.heap.size,0,none⟩=some (.pointer (some ⟨γ,0,none⟩)):=h.bx.cell 0
theorem At.c1 {K:Nat->Prop} (h:At K lo w W γ ρ n U):W.cell? ⟨w.heap.size,1,none⟩=some (.func (.func 177) #[] #[.pointer (some ⟨ρ,0,none⟩)]):=h.bx.cell 1
theorem ZeO {hi:Nat}{w':World} (h:Zad lo hi w w'):Zad lo hi w w'.drew:=⟨h.os,h.tape,h.output,h.size,h.block⟩
theorem Zck (γ j:Nat) (w:World) (v:Value):Zad γ (γ+1) w (w.setCell ⟨γ,j,none⟩ v):=Zad.setCell _ _ _ _ _ ⟨Nat.le_refl _,Nat.lt_succ_self _⟩
end
def nbR (a n f:Int):Int:=if a / f*f+n<=a then a / f*f+n+f else a / f*f+n
def nbF (a n f:Int):Int:=if (inB 1 5 f&&inB 1 f n&&inB 0 1000000 a)=true then (if 1000000 < nbR a n f then 0 else nbR a n f) else 0
theorem Zdr {lo hi n:Int} (h:inB lo hi n=true):lo<=n/\n<=hi:=by unfold inB at h;simpa using h
theorem ZgM {a n f:Int} (hf:1<=f/\f<=5) (hn:1<=n/\n<=f) (_ha:0<=a):a < nbR a n f/\nbR a n f<=a+f/\nbR a n f % f=n % f:=by
 unfold nbR
 rcases (by omega:f=1\/f=2\/f=3\/f=4\/f=5) with rfl | rfl | rfl | rfl | rfl <;> split <;> omega
theorem Zkj {a n f x:Int} (hf:1<=f/\f<=5) (hn:1<=n/\n<=f) (ha:0<=a) (h1:a < x) (h2:x<=nbR a n f) (h:x % f=n % f):x=nbR a n f:=by
 obtain⟨p,q,r⟩:=ZgM hf hn ha;generalize nbR a n f=z at*
 rcases (by omega:f=1\/f=2\/f=3\/f=4\/f=5) with rfl | rfl | rfl | rfl | rfl <;> omega
theorem ZfC (a n f:Int) (w:World) :
 Calls prog 60 #[.int .i64 a,.int .i64 n,.int .i64 f] w fun e w'=>e=.returned (.int .i64 (nbF a n f))/\w'=w:=by
 cases h1:inB 1 5 f with
 | false=>
  have HV:Hd (nbF a n f=0):=by unfold Hd nbF;rw [h1];rfl
  go_enter func60,ntmps60;go_wp2_with (go_at_call 96;refine (Zaq _ _ _ _).mono ?_;rintro e w' ⟨rfl,rfl⟩);go_ret;exact⟨by rw [HV.o];rfl,rfl⟩
 | true=>
 cases h2:inB 1 f n with
 | false=>
  have HV:Hd (nbF a n f=0):=by unfold Hd nbF;rw [h1,h2];rfl
  go_enter func60,ntmps60;go_wp2_with (go_at_call 96;refine (Zaq _ _ _ _).mono ?_;rintro e w' ⟨rfl,rfl⟩);go_ret;exact⟨by rw [HV.o];rfl,rfl⟩
 | true=>
 cases h3:inB 0 1000000 a with
 | false=>
  have HV:Hd (nbF a n f=0):=by unfold Hd nbF;rw [h1,h2,h3];rfl
  go_enter func60,ntmps60;go_wp2_with (go_at_call 96;refine (Zaq _ _ _ _).mono ?_;rintro e w' ⟨rfl,rfl⟩);go_ret;exact⟨by rw [HV.o];rfl,rfl⟩
 | true=>
 have q1:=Zdr h1;have q2:=Zdr h2;have q3:=Zdr h3;have HV:Hd (nbF a n f=if 1000000 < nbR a n f then 0 else nbR a n f):=by unfold Hd nbF;rw [h1,h2,h3];rfl
 have HD:Hd (nbR a n f=if a / f*f+n<=a then a / f*f+n+f else a / f*f+n):=rfl;have hdiv:a.tdiv f=a / f:=Int.tdiv_eq_ediv_of_nonneg (by omega);have HW:Hd (∀ x,(if 1000000 < nbR a n f then 0 else nbR a n f)=x->nbF a n f=x):=fun x h=>HV.o.trans h
 rcases (by omega:f=1\/f=2\/f=3\/f=4\/f=5) with rfl | rfl | rfl | rfl | rfl
 all_goals
  rw [hdiv] at*;go_enter func60,ntmps60;go_wp2_with (go_at_call 96;refine (Zaq _ _ _ _).mono ?_;rintro e w' ⟨rfl,rfl⟩)
  all_goals
   go_ret;refine⟨Zdx ?_,rfl⟩;rw [HV.o];unfold nbR
   repeat' split
   all_goals omega
theorem Zfk (a n f:Int) (w:World) :
 Calls prog 198 #[.int .i64 a,.int .i64 n,.int .i64 f] w fun e w'=>e=.returned (.int .i64 (nbF a n f))/\Zw_ w w':=by
 cases h1:(inB 1 5 f&&inB 1 f n) with
 | false=>
  have HV:Hd (nbF a n f=0):=by unfold Hd nbF;rw [h1];rfl
  go_enter func198,ntmps198;go_wp2_with (first|(go_at_call 136;refine (Zau _ _ _).mono ?_;rw [h1];rintro e w' ⟨rfl,rfl⟩)|(go_at_call 33;refine (Zah _ _ _ _).mono ?_;rintro e w' ⟨rfl,rfl⟩));go_ret;exact⟨by rw [HV.o];rfl,Below.refl _ _⟩
 | true=>
 cases h3:inB 0 1000000 a with
 | false=>
  have HV:Hd (nbF a n f=0):=by unfold Hd nbF;rw [h1,h3];rfl
  go_enter func198,ntmps198;go_wp2_with (first|(go_at_call 136;refine (Zau _ _ _).mono ?_;rw [h1];rintro e w' ⟨rfl,rfl⟩)|(go_at_call 33;refine (Zah _ _ _ _).mono ?_;rintro e w' ⟨rfl,rfl⟩));go_ret;exact⟨by rw [HV.o];rfl,Below.refl _ _⟩
 | true=>
 have q1:1<=f/\f<=5:=Zdr (Bool.and_eq_true_iff.1 h1).1;have q2:1<=n/\n<=f:=Zdr (Bool.and_eq_true_iff.1 h1).2;have q3:0<=a/\a<=1000000:=Zdr h3;have HV:Hd (nbF a n f=if 1000000 < nbR a n f then 0 else nbR a n f):=by unfold Hd nbF;rw [h1,h3];rfl
 have HF:=Zaa (ZgM q1 q2 q3.1);have HS:Hd (∀ x,a < x->x<=nbR a n f->x % f=n % f->x=nbR a n f):=fun x=>Zkj q1 q2 q3.1
 generalize nbR a n f=z at*;have q4:=HF.o.1;have q5:=HF.o.2.1;have hn:n.tmod f=n % f:=Int.tmod_eq_emod_of_nonneg (by omega);go_enter func198,ntmps198;go_wp2_with (first|(go_at_call 136;refine (Zau _ _ _).mono ?_;rw [h1];rintro e w' ⟨rfl,rfl⟩)|(go_at_call 33;refine (Zah _ _ _ _).mono ?_;rintro e w' ⟨rfl,rfl⟩))
 go_loopw [7] (fun i wr=>∃ x:Int,i=.int .i64 x/\a < x/\x<=z/\Below w'.heap.size w' wr) (fun i _=>(z - intOf i).toNat)
 case atStart=>exact⟨a+1,rfl,by omega,by omega,Below.refl _ _⟩
 case round=>
  obtain⟨x,rfl,hx1,hx2,hb⟩:=hrel;have HB:=Zaa hb;clear hb;have hx:x.tmod f=x % f:=Int.tmod_eq_emod_of_nonneg (by omega)
  by_cases he:x % f=n % f
  . have HZ:=Zaa (HS.o x hx1 hx2 he)
    have d0:(x % f != n % f)=false:=by rw [he];simp
    clear he
    go_upto_region 4 with fail
    go_quiet (fail)
    go_wp2
    all_goals
     go_ret;refine⟨Zdx ?_,below_drewN HB.o _⟩;rw [HV.o,<- HZ.o]
     split <;> omega
  . have d0:(x % f != n % f)=true:=by simpa using he
    have hxz:x < z:=by
     have:x≠z:=fun e=>he (e ▸ HF.o.2.2)
     omega
    clear he
    go_upto_region 4 with fail
    go_quiet (fail)
    go_wp2;exact⟨⟨x+1,rfl,by omega,by omega,below_drewN HB.o _⟩,by simp [intOf];omega⟩
end Go.Proofs.YtdeammfdkaomlaaGreat
