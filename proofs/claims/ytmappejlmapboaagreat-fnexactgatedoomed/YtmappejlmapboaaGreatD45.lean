import Derived.Test.YtmappejlmapboaaGreatD35
set_option maxHeartbeats 16000000
set_option maxRecDepth 100000
open Go.Proofs.Tryz
namespace Go.Proofs.YtmappejlmapboaaGreat
open Go.RowKit Go.Deep Go.Maps
variable {m:Nat} {Ls:List Le} {g:Le}
theorem ZoH {B:Bk} (hm:m < B.ps.length) (h:puB B B.ps[m]=false):Za4 B=false:=by
 unfold Za4;rw [ZcL hm h,Bool.and_false]
theorem ZoI {B:Bk} (hm:m < B.ps.length) (h:ZcP ZhA B.ps m=false):Za4 B=false:=by
 unfold Za4;rw [show ZdN ZhA B.ps=false from ZaZ hm h,Bool.and_false,Bool.false_and]
theorem ZoJ {B:Bk} (hl:B.ps.length<=24) (h1:∀ j (h:j < B.ps.length),puB B B.ps[j]=true) (h2:∀ j,j < B.ps.length->ZcP ZhA B.ps j=true):Za4 B=true:=by
 unfold Za4;rw [decide_eq_true hl,ZeL h1,show ZdN ZhA B.ps=true from Za1 h2]
 rfl
theorem Zdo {Ts:List Tm} (hm:m < Ls.length) (h:leB Ts Ls[m]=false):ZaO Ts Ls=false:=by
 unfold ZaO;rw [ZcL hm h,Bool.and_false]
theorem Zma {Ts:List Tm} (hm:m < Ls.length) (h:ZcP Zdt Ls m=false):ZaO Ts Ls=false:=by
 unfold ZaO;rw [show ZdN Zdt Ls=false from ZaZ hm h,Bool.and_false,Bool.false_and]
theorem Zmc {Ts:List Tm} (hl:Ls.length<=10) (h1:∀ j (h:j < Ls.length),leB Ts Ls[j]=true) (h2:∀ j,j < Ls.length->ZcP Zdt Ls j=true):ZaO Ts Ls=true:=by
 unfold ZaO;rw [decide_eq_true hl,ZeL h1,show ZdN Zdt Ls=true from Za1 h2]
 rfl
def Zhq (Ss:List Sh) (Ts:List Tm) (B:Bk):Bool:=ZaO Ts B.ls&&(Za4 B&&Zlr Ss Ts B)
theorem Zme {Ss:List Sh}{Ts:List Tm}{B:Bk} (h:ZaO Ts B.ls=false):Zhq Ss Ts B=false:=by unfold Zhq;rw [h];rfl
theorem Zs9 {Ss:List Sh}{Ts:List Tm}{B:Bk} (h:Za4 B=false):Zhq Ss Ts B=false:=by unfold Zhq;rw [h,Bool.false_and,Bool.and_false]
theorem Zur {Ss:List Sh}{Ts:List Tm}{B:Bk} (h:Zlr Ss Ts B=false):Zhq Ss Ts B=false:=by unfold Zhq;rw [h,Bool.and_false,Bool.and_false]
theorem Zta {Ss:List Sh}{Ts:List Tm}{B:Bk} (h:ZaO Ts B.ls=true) (h1:Za4 B=true) (h2:Zlr Ss Ts B=true):Zhq Ss Ts B=true:=by unfold Zhq;rw [h,h1,h2];rfl
theorem Znk {X:Type}{c:X->X->Int}{L:List X} (h:∀ j,j < m->ZcP c L j=true) (hm:ZcP c L m=true):∀ j,j < m+1->ZcP c L j=true:=fun j hj=>by
 by_cases e:j=m
 . subst e;exact hm
 . exact h j (by omega)
theorem Zs3 {Ts:List Tm} (h:ZgB Ts g.tm=false):leB Ts g=false:=by unfold leB;rw [h];rfl
theorem Zs4 {Ts:List Tm} (h:Zap g.re=false):leB Ts g=false:=by unfold leB;rw [h,Bool.and_false];rfl
theorem Zl8 {Ts:List Tm} (h:¬ (0<=g.fr/\g.fr<=g.mo/\g.mo<=1000000)):leB Ts g=false:=by
 unfold leB inB
 by_cases h1:0<=g.mo/\g.mo<=1000000
 . rw [show decide (0<=g.fr/\g.fr<=g.mo)=false from decide_eq_false (by omega),Bool.and_false]
 . rw [decide_eq_false h1,Bool.and_false,Bool.false_and]
theorem Zs5 {Ts:List Tm} (h1:ZgB Ts g.tm=true) (h2:Zap g.re=true) (h:0<=g.fr/\g.fr<=g.mo/\g.mo<=1000000):leB Ts g=true:=by
 unfold leB inB;rw [h1,h2,decide_eq_true (by omega),decide_eq_true (by omega)]
 rfl
section
variable (lo:Nat) (sv mv tv ov gv lv pv:Value) (Ss:List Sh) (Ms:List Md) (Ts:List Tm) (B:Bk) (w:World)
theorem Zlq (hl:ZbH lo w sv mv tv Ss Ms Ts) (h:ZaU lo w ov gv lv pv B) (hn:Zbg B.os) (ht:inB 0 1000000 B.tick=true) :
 Calls prog 85 #[.agg #[sv,mv,tv],.agg #[.int .i64 B.now,.int .i64 B.tick,.int .i64 B.given,ov,gv,lv,pv]] w fun e w'=>e=.returned (.bool (Zhq Ss Ts B))/\Zw_ w w':=by
 have HL:=Zab hl;have HK:=Zab h;have HN:=Zab hn
 have hti:wrap64 (B.tick+10)=B.tick+10:=by
  have:=of_decide_eq_true ht;unfold wrap64
  omega
 obtain⟨sa,sc,rfl⟩:=hl.shs.form;obtain⟨ma,mc,rfl⟩:=hl.mds.form;obtain⟨ta,tc,rfl⟩:=hl.tms.form;obtain⟨a0,k0,rfl⟩:=h.obs.form;obtain⟨a1,k1,rfl⟩:=h.grs.form;obtain⟨a2,k2,rfl⟩:=h.les.form;obtain⟨a3,k3,rfl⟩:=h.pus.form;clear hl h hn ht
 by_cases hll:B.ls.length<=10
 case neg=>
  have HE:Hd (Zhq Ss Ts B=false):=Zme (by unfold ZaO;rw [decide_eq_false hll];rfl);have hgt:decide ((10:Int) < (B.ls.length:Int))=true:=by simp;omega
  go_enter func85,ntmps85;go_wp2;go_ret;exact⟨Zaa HE.o.symm,(Zac w _).alloc (by simp) _⟩
 have hgt:decide ((10:Int) < (B.ls.length:Int))=false:=by simp;omega
 by_cases hpl:B.ps.length<=24
 case neg=>
  have HE:Hd (Zhq Ss Ts B=false):=Zs9 (by unfold Za4;rw [decide_eq_false hpl];rfl);have hgt':decide ((24:Int) < (B.ps.length:Int))=true:=by simp;omega
  go_enter func85,ntmps85;go_wp2;go_ret;exact⟨Zaa HE.o.symm,(Zac w _).alloc (by simp) _⟩
 have hgt':decide ((24:Int) < (B.ps.length:Int))=false:=by simp;omega
 go_enter func85,ntmps85;go_wp2;generalize hWa:(World.alloc (w.alloc _) _)=Wa;have HB:Hd (Zw_ w Wa):=by rw [<- hWa];exact (Zac w _).alloc (by simp) _
 have HX:Hd (Box Wa w.heap.size #[.slice sa Ss.length sc,.slice ma Ms.length mc,.slice ta Ts.length tc]):=by rw [<- hWa];exact (Box.new _ _ _ _ rfl).on (Zac _ _)
 have HY:Hd (Box Wa (w.heap.size+1) #[.int .i64 B.now,.int .i64 B.tick,.int .i64 B.given,.slice a0 B.os.length k0,.slice a1 B.gs.length k1,.slice a2 B.ls.length k2,.slice a3 B.ps.length k3]):=by rw [<- hWa];exact Box.new _ _ _ _ (by simp)
 clear hWa hgt hgt'
 go_loopw [5] (fun i wr=>∃ m:Nat,i=.int .i64 m/\m<=B.ps.length/\Zw_ w wr/\Box wr w.heap.size #[.slice sa Ss.length sc,.slice ma Ms.length mc,.slice ta Ts.length tc]/\Box wr (w.heap.size+1) #[.int .i64 B.now,.int .i64 B.tick,.int .i64 B.given,.slice a0 B.os.length k0,.slice a1 B.gs.length k1,.slice a2 B.ls.length k2,.slice a3 B.ps.length k3]/\(∀ j (h:j < B.ps.length),j < m->puB B B.ps[j]=true)/\∀ j,j < m->ZcP ZhA B.ps j=true) (fun i _=>B.ps.length - (intOf i).toNat)
 case atStart=>exact⟨0,rfl,Nat.zero_le _,HB.o,HX.o,HY.o,fun j _ h=>by omega,fun j h=>by omega⟩
 case round=>
  obtain⟨m,rfl,hm,hb,hx,hx2,hall,hris⟩:=hrel;have HBr:=Zab hb;have HXr:=Zab hx;have HYr:=Zab hx2;have HA:=Zab hall;have HS:=Zab hris;have x6:=hx2.cell 6;simp at x6;clear hb hx hx2 hall hris HB HX HY
  by_cases hlt:m < B.ps.length
  . obtain⟨b,off,rfl,hbw,-,hc⟩:=HK.o.pus.full' (by omega)
    obtain⟨hs,hcell⟩:=hc m hlt;obtain⟨c0,c1,c2,c3,c4⟩:=hcell.below HBr.o hbw;have HZ:=Zab hs;have HQ:Hd (puB B B.ps[m]=(B.ls.any (ZdK B.ps[m].tm B.ps[m].re)&&Zap B.ps[m].dr&&inB 1 1000000 B.ps[m].am&&inB B.tick (B.tick+10) B.ps[m].un)):=rfl;go_wp2;generalize hWq:wr.alloc _=Wq;have HBq:Hd (Below wr.heap.size wr Wq):=by rw [<- hWq];exact Zac _ _
    have HPq:Hd (Box Wq wr.heap.size #[.string B.ps[m].dr,.string B.ps[m].tm,.string B.ps[m].re,.int .i64 B.ps[m].am,.int .i64 B.ps[m].un]):=by rw [<- hWq];exact Box.new _ _ _ _ rfl
    clear hWq;have HXq:=Zab (HXr.o.on HBq.o);have HYq:=Zab (HYr.o.on HBq.o);have HBw:Hd (Zw_ w Wq):=HBr.o.trans (HBq.o.mono HBr.o.size);clear c0 c1 c2 c3 c4 hcell hs x6;generalize hβ:wr.heap.size=β at*
    go_cut [75] (fun c wc=>c=.bool (!(puB B B.ps[m]&&ZcP ZhA B.ps m))/\Below Wq.heap.size Wq wc)
    case first=>
     have xn:Nonempty (In (Up Wq)):=⟨⟨Wq,Below.refl _ _⟩⟩;have xs:=fun (X:In (Up Wq))=>ZhT X
     have x0:∀ X:In (Up Wq),X.w.cell? ⟨w.heap.size+1,0,none⟩=some (.int .i64 B.now):=fun X=>Up.cell X (by rw [HYq.o.cell 0];rfl)
     have x1:∀ X:In (Up Wq),X.w.cell? ⟨w.heap.size+1,1,none⟩=some (.int .i64 B.tick):=fun X=>Up.cell X (by rw [HYq.o.cell 1];rfl)
     have x2:∀ X:In (Up Wq),X.w.cell? ⟨w.heap.size+1,2,none⟩=some (.int .i64 B.given):=fun X=>Up.cell X (by rw [HYq.o.cell 2];rfl)
     have x3:∀ X:In (Up Wq),X.w.cell? ⟨w.heap.size+1,3,none⟩=some (.slice a0 B.os.length k0):=fun X=>Up.cell X (by rw [HYq.o.cell 3];rfl)
     have x4:∀ X:In (Up Wq),X.w.cell? ⟨w.heap.size+1,4,none⟩=some (.slice a1 B.gs.length k1):=fun X=>Up.cell X (by rw [HYq.o.cell 4];rfl)
     have x5:∀ X:In (Up Wq),X.w.cell? ⟨w.heap.size+1,5,none⟩=some (.slice a2 B.ls.length k2):=fun X=>Up.cell X (by rw [HYq.o.cell 5];rfl)
     have x6:∀ X:In (Up Wq),X.w.cell? ⟨w.heap.size+1,6,none⟩=some (.slice (some ⟨b,off,none⟩) B.ps.length k3):=fun X=>Up.cell X (by rw [HYq.o.cell 6];rfl)
     have y0:∀ X:In (Up Wq),X.w.cell? ⟨β,0,none⟩=some (.string B.ps[m].dr):=fun X=>Up.cell X (by rw [HPq.o.cell 0];rfl)
     have y1:∀ X:In (Up Wq),X.w.cell? ⟨β,1,none⟩=some (.string B.ps[m].tm):=fun X=>Up.cell X (by rw [HPq.o.cell 1];rfl)
     have y2:∀ X:In (Up Wq),X.w.cell? ⟨β,2,none⟩=some (.string B.ps[m].re):=fun X=>Up.cell X (by rw [HPq.o.cell 2];rfl)
     have y3:∀ X:In (Up Wq),X.w.cell? ⟨β,3,none⟩=some (.int .i64 B.ps[m].am):=fun X=>Up.cell X (by rw [HPq.o.cell 3];rfl)
     have y4:∀ X:In (Up Wq),X.w.cell? ⟨β,4,none⟩=some (.int .i64 B.ps[m].un):=fun X=>Up.cell X (by rw [HPq.o.cell 4];rfl)
     have sw0:=HZ.o.s0;have sw1:=HZ.o.s1;have sw2:=HZ.o.s2;have hd2:=ZrV B.ls B.ps[m].tm B.ps[m].re
     by_cases h0:m=0
     . have hd0:decide (0 < m)=false:=by simp;omega
       have HRI:Hd (ZcP ZhA B.ps m=true):=by unfold Hd;rw [h0];rfl
       clear h0 hc;refine Za0 (Up Wq) (by kernel_rfl) (by kernel_rfl) (Zb_.drew) ?_
       cases h1:Zap B.ps[m].dr with
       | false=>
        repeat (go_big_quiet_step (
         first
         | (go_at_call 82;rename_i X;exact (Zao _ _ _ _).mono fun _ _ h=>⟨h.1,X,h.2⟩)
         | (go_at_call 132;rename_i X;exact (Zae _ _ (by with_reducible assumption)).mono fun _ _ h=>⟨h.1,X,h.2⟩)
         | (go_at_call 134;rename_i X;exact (ZaY lo _ _ _ _ B _ _ _ (HK.o.below (HBw.o.trans (X.h.mono HBw.o.size)))).mono fun _ _ h=>⟨h.1,Up.next X h.2⟩)))
        refine wpQuiet_nil ?_;intro wn hw;obtain⟨X,hX⟩:=hw;have HWN:Below Wq.heap.size Wq wn:=by rw [hX];exact X.h
        clear hX X xs xn x0 x1 x2 x3 x4 x5 x6 y0 y1 y2 y3 y4;go_wp2;go_meet;exact⟨congrArg Value.bool (by rw [HQ.o,h1,Bool.and_false];rfl),HWN⟩
       | true=>
        cases h2:B.ls.any (ZdK B.ps[m].tm B.ps[m].re) with
        | false=>
         rw [h2] at hd2
         repeat (go_big_quiet_step (
          first
          | (go_at_call 82;rename_i X;exact (Zao _ _ _ _).mono fun _ _ h=>⟨h.1,X,h.2⟩)
          | (go_at_call 132;rename_i X;exact (Zae _ _ (by with_reducible assumption)).mono fun _ _ h=>⟨h.1,X,h.2⟩)
          | (go_at_call 134;rename_i X;exact (ZaY lo _ _ _ _ B _ _ _ (HK.o.below (HBw.o.trans (X.h.mono HBw.o.size)))).mono fun _ _ h=>⟨h.1,Up.next X h.2⟩)))
         refine wpQuiet_nil ?_;intro wn hw;obtain⟨X,hX⟩:=hw;have HWN:Below Wq.heap.size Wq wn:=by rw [hX];exact X.h
         clear hX X xs xn x0 x1 x2 x3 x4 x5 x6 y0 y1 y2 y3 y4;go_wp2;go_meet;exact⟨congrArg Value.bool (by rw [HQ.o,h2];rfl),HWN⟩
        | true=>
         rw [h2] at hd2
         cases h3:inB 1 1000000 B.ps[m].am with
         | false=>
          repeat (go_big_quiet_step (
           first
           | (go_at_call 82;rename_i X;exact (Zao _ _ _ _).mono fun _ _ h=>⟨h.1,X,h.2⟩)
           | (go_at_call 132;rename_i X;exact (Zae _ _ (by with_reducible assumption)).mono fun _ _ h=>⟨h.1,X,h.2⟩)
           | (go_at_call 134;rename_i X;exact (ZaY lo _ _ _ _ B _ _ _ (HK.o.below (HBw.o.trans (X.h.mono HBw.o.size)))).mono fun _ _ h=>⟨h.1,Up.next X h.2⟩)))
          refine wpQuiet_nil ?_;intro wn hw;obtain⟨X,hX⟩:=hw;have HWN:Below Wq.heap.size Wq wn:=by rw [hX];exact X.h
          clear hX X xs xn x0 x1 x2 x3 x4 x5 x6 y0 y1 y2 y3 y4;go_wp2;go_meet;exact⟨congrArg Value.bool (by rw [HQ.o,h2,h1,h3];rfl),HWN⟩
         | true=>
          cases h4:inB B.tick (B.tick+10) B.ps[m].un with
          | false=>
           repeat (go_big_quiet_step (
            first
            | (go_at_call 82;rename_i X;exact (Zao _ _ _ _).mono fun _ _ h=>⟨h.1,X,h.2⟩)
            | (go_at_call 132;rename_i X;exact (Zae _ _ (by with_reducible assumption)).mono fun _ _ h=>⟨h.1,X,h.2⟩)
            | (go_at_call 134;rename_i X;exact (ZaY lo _ _ _ _ B _ _ _ (HK.o.below (HBw.o.trans (X.h.mono HBw.o.size)))).mono fun _ _ h=>⟨h.1,Up.next X h.2⟩)))
           refine wpQuiet_nil ?_;intro wn hw;obtain⟨X,hX⟩:=hw;have HWN:Below Wq.heap.size Wq wn:=by rw [hX];exact X.h
           clear hX X xs xn x0 x1 x2 x3 x4 x5 x6 y0 y1 y2 y3 y4;go_wp2;go_meet;exact⟨congrArg Value.bool (by rw [HQ.o,h2,h1,h3,h4];rfl),HWN⟩
          | true=>
           repeat (go_big_quiet_step (
            first
            | (go_at_call 82;rename_i X;exact (Zao _ _ _ _).mono fun _ _ h=>⟨h.1,X,h.2⟩)
            | (go_at_call 132;rename_i X;exact (Zae _ _ (by with_reducible assumption)).mono fun _ _ h=>⟨h.1,X,h.2⟩)
            | (go_at_call 134;rename_i X;exact (ZaY lo _ _ _ _ B _ _ _ (HK.o.below (HBw.o.trans (X.h.mono HBw.o.size)))).mono fun _ _ h=>⟨h.1,Up.next X h.2⟩)))
           refine wpQuiet_nil ?_;intro wn hw;obtain⟨X,hX⟩:=hw;have HWN:Below Wq.heap.size Wq wn:=by rw [hX];exact X.h
           clear hX X xs xn x0 x1 x2 x3 x4 x5 x6 y0 y1 y2 y3 y4;go_wp2;go_meet;exact⟨congrArg Value.bool (by rw [HQ.o,h2,h1,h3,h4,HRI.o];rfl),HWN⟩
     . have hd0:decide (0 < m)=true:=by simp;omega
       obtain⟨k,hkm⟩:∃ k,m=k+1:=⟨m - 1,by omega⟩
       have hltk:k < B.ps.length:=by omega
       obtain⟨hsk,hck⟩:=hc k hltk;have yk0:∀ X:In (Up Wq),X.w.cell? ⟨b,off+k*5,none⟩=some (.string B.ps[k].dr):=fun X=>Up.cell X (hck.below HBw.o hbw).c0
       have yk1:∀ X:In (Up Wq),X.w.cell? ⟨b,off+k*5+1,none⟩=some (.string B.ps[k].tm):=fun X=>Up.cell X (hck.below HBw.o hbw).c1
       have yk2:∀ X:In (Up Wq),X.w.cell? ⟨b,off+k*5+2,none⟩=some (.string B.ps[k].re):=fun X=>Up.cell X (hck.below HBw.o hbw).c2
       have yk3:∀ X:In (Up Wq),X.w.cell? ⟨b,off+k*5+3,none⟩=some (.int .i64 B.ps[k].am):=fun X=>Up.cell X (hck.below HBw.o hbw).c3
       have yk4:∀ X:In (Up Wq),X.w.cell? ⟨b,off+k*5+4,none⟩=some (.int .i64 B.ps[k].un):=fun X=>Up.cell X (hck.below HBw.o hbw).c4
       have HRI0:Hd (ZcP ZhA B.ps m=decide (Znz B.ps[k].dr B.ps[k].tm B.ps[k].re B.ps[m].dr B.ps[m].tm B.ps[m].re < 0)):=by
        subst hkm;unfold Hd;rw [Zek hlt]
        rfl
       have e2:IntKind.i64.wrap ((m:Int) - 1)=k:=by rw [IntWalk.i64_left];unfold wrap64;omega
       have e3:wrap64 ((m:Int) - 1)=k:=by unfold wrap64;omega
       have e4:(m:Int) - 1=k:=by omega
       have HKM:=Zab hkm;clear h0 hc hsk hck hkm;refine Za0 (Up Wq) (by kernel_rfl) (by kernel_rfl) (Zb_.drew) ?_
       cases h1:Zap B.ps[m].dr with
       | false=>
        repeat (go_big_quiet_step (
         first
         | (go_at_call 82;rename_i X;exact (Zao _ _ _ _).mono fun _ _ h=>⟨h.1,X,h.2⟩)
         | (go_at_call 132;rename_i X;exact (Zae _ _ (by with_reducible assumption)).mono fun _ _ h=>⟨h.1,X,h.2⟩)
         | (go_at_call 134;rename_i X;exact (ZaY lo _ _ _ _ B _ _ _ (HK.o.below (HBw.o.trans (X.h.mono HBw.o.size)))).mono fun _ _ h=>⟨h.1,Up.next X h.2⟩)
         | (go_at_call 135;rename_i X;exact (Zcs B.ps[k] B.ps[m] _).mono fun _ _ h=>⟨h.1,Up.next X h.2⟩)))
        refine wpQuiet_nil ?_;intro wn hw;obtain⟨X,hX⟩:=hw;have HWN:Below Wq.heap.size Wq wn:=by rw [hX];exact X.h
        clear hX X xs xn x0 x1 x2 x3 x4 x5 x6 y0 y1 y2 y3 y4 yk0 yk1 yk2 yk3 yk4;go_wp2;go_meet;exact⟨congrArg Value.bool (by rw [HQ.o,h1,Bool.and_false];rfl),HWN⟩
       | true=>
        cases h2:B.ls.any (ZdK B.ps[m].tm B.ps[m].re) with
        | false=>
         rw [h2] at hd2
         repeat (go_big_quiet_step (
          first
          | (go_at_call 82;rename_i X;exact (Zao _ _ _ _).mono fun _ _ h=>⟨h.1,X,h.2⟩)
          | (go_at_call 132;rename_i X;exact (Zae _ _ (by with_reducible assumption)).mono fun _ _ h=>⟨h.1,X,h.2⟩)
          | (go_at_call 134;rename_i X;exact (ZaY lo _ _ _ _ B _ _ _ (HK.o.below (HBw.o.trans (X.h.mono HBw.o.size)))).mono fun _ _ h=>⟨h.1,Up.next X h.2⟩)
          | (go_at_call 135;rename_i X;exact (Zcs B.ps[k] B.ps[m] _).mono fun _ _ h=>⟨h.1,Up.next X h.2⟩)))
         refine wpQuiet_nil ?_;intro wn hw;obtain⟨X,hX⟩:=hw;have HWN:Below Wq.heap.size Wq wn:=by rw [hX];exact X.h
         clear hX X xs xn x0 x1 x2 x3 x4 x5 x6 y0 y1 y2 y3 y4 yk0 yk1 yk2 yk3 yk4;go_wp2;go_meet;exact⟨congrArg Value.bool (by rw [HQ.o,h2];rfl),HWN⟩
        | true=>
         rw [h2] at hd2
         cases h3:inB 1 1000000 B.ps[m].am with
         | false=>
          repeat (go_big_quiet_step (
           first
           | (go_at_call 82;rename_i X;exact (Zao _ _ _ _).mono fun _ _ h=>⟨h.1,X,h.2⟩)
           | (go_at_call 132;rename_i X;exact (Zae _ _ (by with_reducible assumption)).mono fun _ _ h=>⟨h.1,X,h.2⟩)
           | (go_at_call 134;rename_i X;exact (ZaY lo _ _ _ _ B _ _ _ (HK.o.below (HBw.o.trans (X.h.mono HBw.o.size)))).mono fun _ _ h=>⟨h.1,Up.next X h.2⟩)
           | (go_at_call 135;rename_i X;exact (Zcs B.ps[k] B.ps[m] _).mono fun _ _ h=>⟨h.1,Up.next X h.2⟩)))
          refine wpQuiet_nil ?_;intro wn hw;obtain⟨X,hX⟩:=hw;have HWN:Below Wq.heap.size Wq wn:=by rw [hX];exact X.h
          clear hX X xs xn x0 x1 x2 x3 x4 x5 x6 y0 y1 y2 y3 y4 yk0 yk1 yk2 yk3 yk4;go_wp2;go_meet;exact⟨congrArg Value.bool (by rw [HQ.o,h2,h1,h3];rfl),HWN⟩
         | true=>
          cases h4:inB B.tick (B.tick+10) B.ps[m].un with
          | false=>
           repeat (go_big_quiet_step (
            first
            | (go_at_call 82;rename_i X;exact (Zao _ _ _ _).mono fun _ _ h=>⟨h.1,X,h.2⟩)
            | (go_at_call 132;rename_i X;exact (Zae _ _ (by with_reducible assumption)).mono fun _ _ h=>⟨h.1,X,h.2⟩)
            | (go_at_call 134;rename_i X;exact (ZaY lo _ _ _ _ B _ _ _ (HK.o.below (HBw.o.trans (X.h.mono HBw.o.size)))).mono fun _ _ h=>⟨h.1,Up.next X h.2⟩)
            | (go_at_call 135;rename_i X;exact (Zcs B.ps[k] B.ps[m] _).mono fun _ _ h=>⟨h.1,Up.next X h.2⟩)))
           refine wpQuiet_nil ?_;intro wn hw;obtain⟨X,hX⟩:=hw;have HWN:Below Wq.heap.size Wq wn:=by rw [hX];exact X.h
           clear hX X xs xn x0 x1 x2 x3 x4 x5 x6 y0 y1 y2 y3 y4 yk0 yk1 yk2 yk3 yk4;go_wp2;go_meet;exact⟨congrArg Value.bool (by rw [HQ.o,h2,h1,h3,h4];rfl),HWN⟩
          | true=>
           by_cases hnu:Znz B.ps[k].dr B.ps[k].tm B.ps[k].re B.ps[m].dr B.ps[m].tm B.ps[m].re < 0
           . have HRI:Hd (ZcP ZhA B.ps m=true):=HRI0.o.trans (decide_eq_true hnu)
             have hd1:decide (0<=Znz B.ps[k].dr B.ps[k].tm B.ps[k].re B.ps[m].dr B.ps[m].tm B.ps[m].re)=false:=by simp;omega
             clear hnu
             repeat (go_big_quiet_step (
              first
              | (go_at_call 82;rename_i X;exact (Zao _ _ _ _).mono fun _ _ h=>⟨h.1,X,h.2⟩)
              | (go_at_call 132;rename_i X;exact (Zae _ _ (by with_reducible assumption)).mono fun _ _ h=>⟨h.1,X,h.2⟩)
              | (go_at_call 134;rename_i X;exact (ZaY lo _ _ _ _ B _ _ _ (HK.o.below (HBw.o.trans (X.h.mono HBw.o.size)))).mono fun _ _ h=>⟨h.1,Up.next X h.2⟩)
              | (go_at_call 135;rename_i X;exact (Zcs B.ps[k] B.ps[m] _).mono fun _ _ h=>⟨h.1,Up.next X h.2⟩)))
             refine wpQuiet_nil ?_;intro wn hw;obtain⟨X,hX⟩:=hw;have HWN:Below Wq.heap.size Wq wn:=by rw [hX];exact X.h
             clear hX X xs xn x0 x1 x2 x3 x4 x5 x6 y0 y1 y2 y3 y4 yk0 yk1 yk2 yk3 yk4;go_wp2;go_meet;exact⟨congrArg Value.bool (by rw [HQ.o,h2,h1,h3,h4,HRI.o];rfl),HWN⟩
           . have HRI:Hd (ZcP ZhA B.ps m=false):=HRI0.o.trans (decide_eq_false hnu)
             have hd1:decide (0<=Znz B.ps[k].dr B.ps[k].tm B.ps[k].re B.ps[m].dr B.ps[m].tm B.ps[m].re)=true:=by simp;omega
             clear hnu
             repeat (go_big_quiet_step (
              first
              | (go_at_call 82;rename_i X;exact (Zao _ _ _ _).mono fun _ _ h=>⟨h.1,X,h.2⟩)
              | (go_at_call 132;rename_i X;exact (Zae _ _ (by with_reducible assumption)).mono fun _ _ h=>⟨h.1,X,h.2⟩)
              | (go_at_call 134;rename_i X;exact (ZaY lo _ _ _ _ B _ _ _ (HK.o.below (HBw.o.trans (X.h.mono HBw.o.size)))).mono fun _ _ h=>⟨h.1,Up.next X h.2⟩)
              | (go_at_call 135;rename_i X;exact (Zcs B.ps[k] B.ps[m] _).mono fun _ _ h=>⟨h.1,Up.next X h.2⟩)))
             refine wpQuiet_nil ?_;intro wn hw;obtain⟨X,hX⟩:=hw;have HWN:Below Wq.heap.size Wq wn:=by rw [hX];exact X.h
             clear hX X xs xn x0 x1 x2 x3 x4 x5 x6 y0 y1 y2 y3 y4 yk0 yk1 yk2 yk3 yk4;go_wp2;go_meet;exact⟨congrArg Value.bool (by rw [HQ.o,h2,h1,h3,h4,HRI.o];rfl),HWN⟩
    case rest=>
     obtain⟨hc75,hwn⟩:=hcut;have HWN:=Zab hwn;have HWB:Hd (Zw_ w wc):=HBw.o.trans (HWN.o.mono HBw.o.size);clear hwn hc
     cases hgn:puB B B.ps[m] with
     | false=>
      have HN:Hd (Zhq Ss Ts B=false):=Zs9 (ZoH hlt hgn);rw [hgn] at hc75;subst hc75;go_wp2;go_ret;exact⟨Zaa HN.o.symm,HWB.o⟩
     | true=>
      cases hri:ZcP ZhA B.ps m with
      | false=>
       have HN:Hd (Zhq Ss Ts B=false):=Zs9 (ZoI hlt hri);rw [hgn,hri] at hc75;subst hc75;go_wp2;go_ret;exact⟨Zaa HN.o.symm,HWB.o⟩
      | true=>
       have HT:=Zab hgn;have HR:=Zab hri;rw [hgn,hri] at hc75;subst hc75;go_wp2;go_roundw
       . exact⟨m+1,by go_num,by omega,HWB.o,HXq.o.on HWN.o,HYq.o.on HWN.o,ZdE HA.o hlt HT.o,Znk HS.o HR.o⟩
       . simp [intOf];omega
  . have HPT:Hd (Za4 B=true):=ZoJ hpl (fun j hj=>HA.o j hj (by omega)) (fun j hj=>HS.o j (by omega))
    clear HA HS;go_wp2
    go_loopw [7] (fun i wr=>∃ m:Nat,i=.int .i64 m/\m<=B.ls.length/\Zw_ w wr/\Box wr w.heap.size #[.slice sa Ss.length sc,.slice ma Ms.length mc,.slice ta Ts.length tc]/\Box wr (w.heap.size+1) #[.int .i64 B.now,.int .i64 B.tick,.int .i64 B.given,.slice a0 B.os.length k0,.slice a1 B.gs.length k1,.slice a2 B.ls.length k2,.slice a3 B.ps.length k3]/\(∀ j (h:j < B.ls.length),j < m->leB Ts B.ls[j]=true)/\(∀ j,j < m->ZcP Zdt B.ls j=true)/\∀ j (h:j < B.ls.length),j < m->Zfv Ss Ts B B.ls[j]=true) (fun i _=>B.ls.length - (intOf i).toNat)
    case atStart=>exact⟨0,rfl,Nat.zero_le _,HBr.o,HXr.o,HYr.o,fun j _ h=>by omega,fun j h=>by omega,fun j _ h=>by omega⟩
    case round=>
     clear HBr HXr HYr x6 hm hlt;obtain⟨m,rfl,hm,hb,hx,hx2,hall,hris,hsum⟩:=hrel;have HBr:=Zab hb;have HXr:=Zab hx;have HYr:=Zab hx2;have HA:=Zab hall;have HS:=Zab hris;have HU:=Zab hsum;have x5:=hx2.cell 5;simp at x5;clear hb hx hx2 hall hris hsum
     by_cases hlt:m < B.ls.length
     . obtain⟨b,off,rfl,hbw,-,hc⟩:=HK.o.les.full' (by omega)
       obtain⟨hs,hcell⟩:=hc m hlt;obtain⟨c0,c1,c2,c3⟩:=hcell.below HBr.o hbw;have HZ:=Zab hs;have HQ:Hd (Zfv Ss Ts B B.ls[m]=decide (wrap64 (Zdv Ss Ts B.os B.ls[m].tm B.ls[m].re+ZfQ B.ps B.ls[m].tm B.ls[m].re+B.ls[m].fr)=B.ls[m].mo)):=rfl;have x2:=HXr.o.cell 2;simp at x2;have xlt:=HXr.o.lt;have x2:∀ o,(wr.alloc o).cell? ⟨w.heap.size,2,none⟩=some (.slice ta Ts.length tc):=fun o=>(Zaj _ _ _ _ xlt).trans x2
       clear xlt;go_wp2_with fail;generalize hWq:wr.alloc _=Wq;have HBq:Hd (Below wr.heap.size wr Wq):=by rw [<- hWq];exact Zac _ _
       have HPq:Hd (Box Wq wr.heap.size #[.string B.ls[m].tm,.string B.ls[m].re,.int .i64 B.ls[m].mo,.int .i64 B.ls[m].fr]):=by rw [<- hWq];exact Box.new _ _ _ _ rfl
       clear hWq x2 x5;have HXq:=Zab (HXr.o.on HBq.o);have HYq:=Zab (HYr.o.on HBq.o);have HBw:Hd (Zw_ w Wq):=HBr.o.trans (HBq.o.mono HBr.o.size)
       have HC:Hd (∀ k (h:k < B.ls.length),w.cell? ⟨b,off+k*4,none⟩=some (.string B.ls[k].tm)/\w.cell? ⟨b,off+k*4+1,none⟩=some (.string B.ls[k].re)):=fun k hk=>by
        obtain⟨_,hck⟩:=hc k hk;exact⟨hck.c0,hck.c1⟩
       clear c0 c1 c2 c3 hcell hs hc;generalize hβ:wr.heap.size=β at*;refine (Zbf lo _ Ts _ _ (HL.o.below HBw.o).tms).mono ?_;rintro e Wq ⟨rfl,rfl⟩;have s1:=HZ.o.s1;have y0:=HPq.o.cell 0;have y1:=HPq.o.cell 1;have y2:=HPq.o.cell 2;have y3:=HPq.o.cell 3;simp at y0 y1 y2 y3
       cases h1:ZgB Ts B.ls[m].tm with
       | false=>
        have HN:Hd (Zhq Ss Ts B=false):=Zme (Zdo hlt (Zs3 h1));go_wp2;go_ret;exact⟨Zaa HN.o.symm,HBw.o⟩
       | true=>
        cases h2:Zap B.ls[m].re with
        | false=>
         have HN:Hd (Zhq Ss Ts B=false):=Zme (Zdo hlt (Zs4 h2));go_wp2_with (go_at_call 132;refine (Zae _ _ s1).mono ?_;rintro e Wq ⟨rfl,rfl⟩);go_ret;exact⟨Zaa HN.o.symm,HBw.o⟩
        | true=>
         by_cases f0:B.ls[m].fr < 0
         case pos=>
          have df0:decide (B.ls[m].fr < 0)=true:=decide_eq_true f0;have HN:Hd (Zhq Ss Ts B=false):=Zme (Zdo hlt (Zl8 (by omega)));go_wp2_with (go_at_call 132;refine (Zae _ _ s1).mono ?_;rintro e Wq ⟨rfl,rfl⟩);go_ret;exact⟨Zaa HN.o.symm,HBw.o⟩
         have df0:decide (B.ls[m].fr < 0)=false:=decide_eq_false f0
         by_cases f1:B.ls[m].mo < B.ls[m].fr
         case pos=>
          have df1:decide (B.ls[m].mo < B.ls[m].fr)=true:=decide_eq_true f1;have HN:Hd (Zhq Ss Ts B=false):=Zme (Zdo hlt (Zl8 (by omega)));go_wp2_with (go_at_call 132;refine (Zae _ _ s1).mono ?_;rintro e Wq ⟨rfl,rfl⟩);go_ret;exact⟨Zaa HN.o.symm,HBw.o⟩
         have df1:decide (B.ls[m].mo < B.ls[m].fr)=false:=decide_eq_false f1
         by_cases f2:1000000 < B.ls[m].mo
         case pos=>
          have df2:decide (1000000 < B.ls[m].mo)=true:=decide_eq_true f2;have HN:Hd (Zhq Ss Ts B=false):=Zme (Zdo hlt (Zl8 (by omega)));go_wp2_with (go_at_call 132;refine (Zae _ _ s1).mono ?_;rintro e Wq ⟨rfl,rfl⟩);go_ret;exact⟨Zaa HN.o.symm,HBw.o⟩
         have df2:decide (1000000 < B.ls[m].mo)=false:=decide_eq_false f2;have HLE:Hd (leB Ts B.ls[m]=true):=Zs5 h1 h2 (by omega);clear f0 f1 f2;go_wp2_with (go_at_call 132;refine (Zae _ _ s1).mono ?_;rintro e Wq ⟨rfl,rfl⟩);clear df0 df1 df2
         go_cut [140] (fun c wc=>c=.bool (!ZcP Zdt B.ls m)/\Below Wq.heap.size Wq wc)
         case first=>
          have x5:=HYq.o.cell 5;simp at x5
          by_cases h0:m=0
          . have hd0:decide (0 < m)=false:=by simp;omega
            have HRI:Hd (ZcP Zdt B.ls m=true):=by unfold Hd;rw [h0];rfl
            clear h0
            go_quiet ((go_at_call 128;exact (Zdn _ _ _ _ _).mono fun _ _ h=>⟨h.1,_,h.2⟩))
            go_wp2;go_meet;exact⟨congrArg Value.bool (by rw [HRI.o];rfl),below_drewN Zb_ _⟩
          . have hd0:decide (0 < m)=true:=by simp;omega
            obtain⟨k,hkm⟩:∃ k,m=k+1:=⟨m - 1,by omega⟩
            have hltk:k < B.ls.length:=by omega
            have yk0:Wq.cell? ⟨b,off+k*4,none⟩=some (.string B.ls[k].tm):=(HBw.o.cell (p:=⟨b,off+k*4,none⟩) hbw).trans (HC.o k hltk).1;have yk1:Wq.cell? ⟨b,off+k*4+1,none⟩=some (.string B.ls[k].re):=(HBw.o.cell (p:=⟨b,off+k*4+1,none⟩) hbw).trans (HC.o k hltk).2
            have HRI0:Hd (ZcP Zdt B.ls m=decide (Zfs B.ls[k].tm B.ls[k].re B.ls[m].tm B.ls[m].re < 0)):=by
             subst hkm;unfold Hd;rw [Zek hlt]
             rfl
            have e2:IntKind.i64.wrap ((m:Int) - 1)=k:=by rw [IntWalk.i64_left];unfold wrap64;omega
            have e3:wrap64 ((m:Int) - 1)=k:=by unfold wrap64;omega
            have e4:(m:Int) - 1=k:=by omega
            have HKM:=Zab hkm;clear h0 hkm
            by_cases hnu:Zfs B.ls[k].tm B.ls[k].re B.ls[m].tm B.ls[m].re < 0
            . have HRI:Hd (ZcP Zdt B.ls m=true):=HRI0.o.trans (decide_eq_true hnu)
              have hd1:decide (0<=Zfs B.ls[k].tm B.ls[k].re B.ls[m].tm B.ls[m].re)=false:=by simp;omega
              clear hnu
              go_quiet ((go_at_call 128;exact (Zdn _ _ _ _ _).mono fun _ _ h=>⟨h.1,_,h.2⟩))
              go_wp2;go_meet;exact⟨congrArg Value.bool (by rw [HRI.o];rfl),below_drewN Zb_ _⟩
            . have HRI:Hd (ZcP Zdt B.ls m=false):=HRI0.o.trans (decide_eq_false hnu)
              have hd1:decide (0<=Zfs B.ls[k].tm B.ls[k].re B.ls[m].tm B.ls[m].re)=true:=by simp;omega
              clear hnu
              go_quiet ((go_at_call 128;exact (Zdn _ _ _ _ _).mono fun _ _ h=>⟨h.1,_,h.2⟩))
              go_wp2;go_meet;exact⟨congrArg Value.bool (by rw [HRI.o];rfl),below_drewN Zb_ _⟩
         case rest=>
          obtain⟨hc140,hwn⟩:=hcut;have HW1:=Zab hwn;have HB1:Hd (Zw_ w wc):=HBw.o.trans (HW1.o.mono HBw.o.size);have HX1:=Zab (HXq.o.on HW1.o);have HY1:=Zab (HYq.o.on HW1.o);have HP1:=Zab (HPq.o.on HW1.o);clear hwn y0 y1 y2 y3
          cases hri:ZcP Zdt B.ls m with
          | false=>
           have HN:Hd (Zhq Ss Ts B=false):=Zme (Zma hlt hri);rw [hri] at hc140;subst hc140;go_wp2;go_ret;exact⟨Zaa HN.o.symm,HB1.o⟩
          | true=>
           have HR:=Zab hri;rw [hri] at hc140;subst hc140;clear hri;generalize wc=W1 at*;go_wp2
           go_cut [160] (fun c wc=>c=.bool (!Zfv Ss Ts B B.ls[m])/\Below W1.heap.size W1 wc)
           case first=>
            have xn:Nonempty (In (Up W1)):=⟨⟨W1,Below.refl _ _⟩⟩;have xs:=fun (X:In (Up W1))=>ZhT X
            have l0:∀ X:In (Up W1),X.w.cell? ⟨w.heap.size,0,none⟩=some (.slice sa Ss.length sc):=fun X=>Up.cell X (by rw [HX1.o.cell 0];rfl)
            have l1:∀ X:In (Up W1),X.w.cell? ⟨w.heap.size,1,none⟩=some (.slice ma Ms.length mc):=fun X=>Up.cell X (by rw [HX1.o.cell 1];rfl)
            have l2:∀ X:In (Up W1),X.w.cell? ⟨w.heap.size,2,none⟩=some (.slice ta Ts.length tc):=fun X=>Up.cell X (by rw [HX1.o.cell 2];rfl)
            have x0:∀ X:In (Up W1),X.w.cell? ⟨w.heap.size+1,0,none⟩=some (.int .i64 B.now):=fun X=>Up.cell X (by rw [HY1.o.cell 0];rfl)
            have x1:∀ X:In (Up W1),X.w.cell? ⟨w.heap.size+1,1,none⟩=some (.int .i64 B.tick):=fun X=>Up.cell X (by rw [HY1.o.cell 1];rfl)
            have x2:∀ X:In (Up W1),X.w.cell? ⟨w.heap.size+1,2,none⟩=some (.int .i64 B.given):=fun X=>Up.cell X (by rw [HY1.o.cell 2];rfl)
            have x3:∀ X:In (Up W1),X.w.cell? ⟨w.heap.size+1,3,none⟩=some (.slice a0 B.os.length k0):=fun X=>Up.cell X (by rw [HY1.o.cell 3];rfl)
            have x4:∀ X:In (Up W1),X.w.cell? ⟨w.heap.size+1,4,none⟩=some (.slice a1 B.gs.length k1):=fun X=>Up.cell X (by rw [HY1.o.cell 4];rfl)
            have x5:∀ X:In (Up W1),X.w.cell? ⟨w.heap.size+1,5,none⟩=some (.slice (some ⟨b,off,none⟩) B.ls.length k2):=fun X=>Up.cell X (by rw [HY1.o.cell 5];rfl)
            have x6:∀ X:In (Up W1),X.w.cell? ⟨w.heap.size+1,6,none⟩=some (.slice a3 B.ps.length k3):=fun X=>Up.cell X (by rw [HY1.o.cell 6];rfl)
            have y0:∀ X:In (Up W1),X.w.cell? ⟨β,0,none⟩=some (.string B.ls[m].tm):=fun X=>Up.cell X (by rw [HP1.o.cell 0];rfl)
            have y1:∀ X:In (Up W1),X.w.cell? ⟨β,1,none⟩=some (.string B.ls[m].re):=fun X=>Up.cell X (by rw [HP1.o.cell 1];rfl)
            have y2:∀ X:In (Up W1),X.w.cell? ⟨β,2,none⟩=some (.int .i64 B.ls[m].mo):=fun X=>Up.cell X (by rw [HP1.o.cell 2];rfl)
            have y3:∀ X:In (Up W1),X.w.cell? ⟨β,3,none⟩=some (.int .i64 B.ls[m].fr):=fun X=>Up.cell X (by rw [HP1.o.cell 3];rfl)
            have HV:Hd (wrap64 (wrap64 (wrap64 (Zdv Ss Ts B.os B.ls[m].tm B.ls[m].re)+wrap64 (ZfQ B.ps B.ls[m].tm B.ls[m].re))+B.ls[m].fr)=wrap64 (Zdv Ss Ts B.os B.ls[m].tm B.ls[m].re+ZfQ B.ps B.ls[m].tm B.ls[m].re+B.ls[m].fr)):=by unfold Hd;rw [Zin,Zgm]
            by_cases hq:wrap64 (wrap64 (wrap64 (Zdv Ss Ts B.os B.ls[m].tm B.ls[m].re)+wrap64 (ZfQ B.ps B.ls[m].tm B.ls[m].re))+B.ls[m].fr)=B.ls[m].mo
            . have HT:Hd (Zfv Ss Ts B B.ls[m]=true):=by unfold Hd;rw [HQ.o,<- HV.o];exact decide_eq_true hq
              have hd:(wrap64 (wrap64 (wrap64 (Zdv Ss Ts B.os B.ls[m].tm B.ls[m].re)+wrap64 (ZfQ B.ps B.ls[m].tm B.ls[m].re))+B.ls[m].fr) != B.ls[m].mo)=false:=by simp [hq]
              clear hq;refine Za0 (Up W1) (by kernel_rfl) (by kernel_rfl) (Zb_.drew) ?_
              repeat (go_big_quiet_step (
               first
               | (go_at_call 136;rename_i X;exact (Zhb lo _ _ _ _ Ss Ms Ts B.os B.now B.tick B.given _ _ _ (HL.o.below (HB1.o.trans (X.h.mono HB1.o.size))) (HK.o.below (HB1.o.trans (X.h.mono HB1.o.size))).obs HN.o _ _ _ _ _ _ _ _ _).mono fun _ _ h=>⟨h.1,Up.next X h.2⟩)
               | (go_at_call 137;rename_i X;exact (Zk0 lo _ _ _ _ B _ _ _ (HK.o.below (HB1.o.trans (X.h.mono HB1.o.size)))).mono fun _ _ h=>⟨h.1,Up.next X h.2⟩)))
              refine wpQuiet_nil ?_;intro wn hw;obtain⟨X,hX⟩:=hw;have HWN:Below W1.heap.size W1 wn:=by rw [hX];exact X.h
              clear hX X xs xn l0 l1 l2 x0 x1 x2 x3 x4 x5 x6 y0 y1 y2 y3;go_wp2;go_meet;exact⟨congrArg Value.bool (by rw [HT.o];rfl),HWN⟩
            . have HT:Hd (Zfv Ss Ts B B.ls[m]=false):=by unfold Hd;rw [HQ.o,<- HV.o];exact decide_eq_false hq
              have hd:(wrap64 (wrap64 (wrap64 (Zdv Ss Ts B.os B.ls[m].tm B.ls[m].re)+wrap64 (ZfQ B.ps B.ls[m].tm B.ls[m].re))+B.ls[m].fr) != B.ls[m].mo)=true:=by simp [hq]
              clear hq;refine Za0 (Up W1) (by kernel_rfl) (by kernel_rfl) (Zb_.drew) ?_
              repeat (go_big_quiet_step (
               first
               | (go_at_call 136;rename_i X;exact (Zhb lo _ _ _ _ Ss Ms Ts B.os B.now B.tick B.given _ _ _ (HL.o.below (HB1.o.trans (X.h.mono HB1.o.size))) (HK.o.below (HB1.o.trans (X.h.mono HB1.o.size))).obs HN.o _ _ _ _ _ _ _ _ _).mono fun _ _ h=>⟨h.1,Up.next X h.2⟩)
               | (go_at_call 137;rename_i X;exact (Zk0 lo _ _ _ _ B _ _ _ (HK.o.below (HB1.o.trans (X.h.mono HB1.o.size)))).mono fun _ _ h=>⟨h.1,Up.next X h.2⟩)))
              refine wpQuiet_nil ?_;intro wn hw;obtain⟨X,hX⟩:=hw;have HWN:Below W1.heap.size W1 wn:=by rw [hX];exact X.h
              clear hX X xs xn l0 l1 l2 x0 x1 x2 x3 x4 x5 x6 y0 y1 y2 y3;go_wp2;go_meet;exact⟨congrArg Value.bool (by rw [HT.o];rfl),HWN⟩
           case rest=>
            obtain⟨hc160,hwn⟩:=hcut;have HW2:=Zab hwn;have HB2:Hd (Zw_ w wc):=HB1.o.trans (HW2.o.mono HB1.o.size);clear hwn
            cases hsm:Zfv Ss Ts B B.ls[m] with
            | false=>
             have HN:Hd (Zhq Ss Ts B=false):=Zur (ZcL hlt hsm);rw [hsm] at hc160;subst hc160;go_wp2;go_ret;exact⟨Zaa HN.o.symm,HB2.o⟩
            | true=>
             have HSM:=Zab hsm;rw [hsm] at hc160;subst hc160;go_wp2;go_roundw
             . exact⟨m+1,by go_num,by omega,HB2.o,HX1.o.on HW2.o,HY1.o.on HW2.o,ZdE HA.o hlt HLE.o,Znk HS.o HR.o,ZdE HU.o hlt HSM.o⟩
             . simp [intOf];omega
     . have HT:Hd (Zhq Ss Ts B=true):=Zta (Zmc hll (fun j hj=>HA.o j hj (by omega)) (fun j hj=>HS.o j (by omega))) HPT.o (ZeL (fun j hj=>HU.o j hj (by omega)))
       go_wp2;go_ret;exact⟨Zaa HT.o.symm,HBr.o⟩
end
end Go.Proofs.YtmappejlmapboaaGreat
