import Derived.Test.YtmappejlmapboaaGreatD26
set_option maxHeartbeats 16000000
set_option maxRecDepth 100000
open Go.Proofs.Tryz
namespace Go.Proofs.YtmappejlmapboaaGreat
open Go.RowKit Go.Deep
variable {W0:World} {m:Nat}
abbrev Up (W0:World):World->Prop:=fun W=>Below W0.heap.size W0 W
theorem Up.cell (X:In (Up W0)) {p:Addr} {v:Value} (h:W0.cell? p=some v):X.w.cell? p=some v:=
 (Below.cell (show Below W0.heap.size W0 X.w from X.h) (World.block_lt_of_cell? W0 _ h)).trans h
theorem Up.next (X:In (Up W0)) {W':World} (h:Below X.w.heap.size X.w W'):∃ Y:In (Up W0),W'=Y.w:=
 ⟨⟨W',X.h.trans (h.mono X.h.size)⟩,rfl⟩
theorem Zoh {B:Bk} (hm:m < B.gs.length) (h:gnB B.given B.gs[m]=false):ZaT B=false:=by
 unfold ZaT;rw [ZcL hm h,Bool.and_false]
theorem Zoi {B:Bk} (hm:m < B.gs.length) (h:ZcP Zhm B.gs m=false):ZaT B=false:=by
 unfold ZaT;rw [show ZdN Zhm B.gs=false from ZaZ hm h,Bool.and_false,Bool.false_and]
theorem Zoj {B:Bk} (hl:B.gs.length<=24) (h1:∀ j (h:j < B.gs.length),gnB B.given B.gs[j]=true) (h2:∀ j,j < B.gs.length->ZcP Zhm B.gs j=true):ZaT B=true:=by
 unfold ZaT;rw [decide_eq_true hl,ZeL h1,show ZdN Zhm B.gs=true from Za1 h2]
 rfl
section
variable (lo:Nat) (ov gv lv pv:Value) (B:Bk) (w:World)
theorem ZiF (h:ZaU lo w ov gv lv pv B) :
 Calls prog 84 #[.agg #[.int .i64 B.now,.int .i64 B.tick,.int .i64 B.given,ov,gv,lv,pv]] w fun e w'=>e=.returned (.bool (ZaT B))/\Zw_ w w':=by
 have HG:=Zab h.grs;obtain⟨a0,k0,rfl⟩:=h.obs.form;obtain⟨a1,k1,rfl⟩:=h.grs.form;obtain⟨a2,k2,rfl⟩:=h.les.form;obtain⟨a3,k3,rfl⟩:=h.pus.form;clear h
 by_cases hl:B.gs.length<=24
 case neg=>
  have HE:Hd (ZaT B=false):=by unfold Hd ZaT;rw [decide_eq_false hl];rfl
  have hgt:decide ((24:Int) < (B.gs.length:Int))=true:=by simp;omega
  go_enter func84,ntmps84;go_wp2;go_ret;exact⟨Zaa HE.o.symm,Zac _ _⟩
 have hgt:decide ((24:Int) < (B.gs.length:Int))=false:=by simp;omega
 go_enter func84,ntmps84;go_wp2;generalize hWa:w.alloc _=Wa;have HB:Hd (Zw_ w Wa):=by rw [<- hWa];exact Zac w _
 have HX:Hd (Box Wa w.heap.size #[.int .i64 B.now,.int .i64 B.tick,.int .i64 B.given,.slice a0 B.os.length k0,.slice a1 B.gs.length k1,.slice a2 B.ls.length k2,.slice a3 B.ps.length k3]):=by rw [<- hWa];exact Box.new _ _ _ _ rfl
 clear hWa hgt
 go_loopw [3] (fun i wr=>∃ m:Nat,i=.int .i64 m/\m<=B.gs.length/\Zw_ w wr/\Box wr w.heap.size #[.int .i64 B.now,.int .i64 B.tick,.int .i64 B.given,.slice a0 B.os.length k0,.slice a1 B.gs.length k1,.slice a2 B.ls.length k2,.slice a3 B.ps.length k3]/\(∀ j (h:j < B.gs.length),j < m->gnB B.given B.gs[j]=true)/\∀ j,j < m->ZcP Zhm B.gs j=true) (fun i _=>B.gs.length - (intOf i).toNat)
 case atStart=>exact⟨0,rfl,Nat.zero_le _,HB.o,HX.o,fun j _ h=>by omega,fun j h=>by omega⟩
 case round=>
  obtain⟨m,rfl,hm,hb,hx,hall,hris⟩:=hrel;have HBr:=Zab hb;have HXr:=Zab hx;have HA:=Zab hall;have HS:=Zab hris;have x4:=hx.cell 4;simp at x4;clear hb hx hall hris HB HX
  by_cases hlt:m < B.gs.length
  . obtain⟨b,off,rfl,hbw,-,hc⟩:=HG.o.full' (by omega)
    obtain⟨hs,vv0,hcell,hv0⟩:=hc m hlt;obtain⟨c0,c1,c2,c3,c4,c5,c6⟩:=hcell.below HBr.o hbw;have HZ:=Zab hs;obtain⟨va,vcap,rfl⟩:=hv0.form;have HQ:Hd (gnB B.given B.gs[m]=(inB 1 B.given B.gs[m].nu&&Zap B.gs[m].tw&&Zai B.gs[m].gb&&ZaW B.gs[m].ru)):=rfl;have HEN:Hd (Zai B.gs[m].gb=(B.gs[m].gb.toList.isEmpty || Zap B.gs[m].gb)):=rfl;have HRZ:Hd (Zhx B.gs[m].ru):=⟨HZ.o.s2,HZ.o.s3,HZ.o.s4⟩;go_wp2;generalize hWq:wr.alloc _=Wq;have HBq:Hd (Below wr.heap.size wr Wq):=by rw [<- hWq];exact Zac _ _
    have HYq:Hd (Box Wq wr.heap.size #[.int .i64 B.gs[m].nu,.string B.gs[m].tw,.string B.gs[m].gb,.slice va B.gs[m].vb.length vcap,.string B.gs[m].kd,.string B.gs[m].tm,.string B.gs[m].pf]):=by rw [<- hWq];exact Box.new _ _ _ _ rfl
    clear hWq;have HXq:=Zab (HXr.o.on HBq.o);have HBw:Hd (Zw_ w Wq):=HBr.o.trans (HBq.o.mono HBr.o.size);have HVq:=Zab (hv0.below HBw.o);clear c0 c1 c2 c3 c4 c5 c6 hcell hv0 hs;generalize hβ:wr.heap.size=β at*
    go_cut [65] (fun c wc=>c=.bool (!(gnB B.given B.gs[m]&&ZcP Zhm B.gs m))/\Below Wq.heap.size Wq wc)
    case first=>
     have xn:Nonempty (In (Up Wq)):=⟨⟨Wq,Below.refl _ _⟩⟩;have x0:∀ X:In (Up Wq),X.w.cell? ⟨w.heap.size,2,none⟩=some (.int .i64 B.given):=fun X=>Up.cell X (by rw [HXq.o.cell 2];rfl)
     have xg:∀ X:In (Up Wq),X.w.cell? ⟨w.heap.size,4,none⟩=some (.slice (some ⟨b,off,none⟩) B.gs.length k1):=fun X=>Up.cell X (by rw [HXq.o.cell 4];rfl)
     have y0:∀ X:In (Up Wq),X.w.cell? ⟨β,0,none⟩=some (.int .i64 B.gs[m].nu):=fun X=>Up.cell X (by rw [HYq.o.cell 0];rfl)
     have y1:∀ X:In (Up Wq),X.w.cell? ⟨β,1,none⟩=some (.string B.gs[m].tw):=fun X=>Up.cell X (by rw [HYq.o.cell 1];rfl)
     have y2:∀ X:In (Up Wq),X.w.cell? ⟨β,2,none⟩=some (.string B.gs[m].gb):=fun X=>Up.cell X (by rw [HYq.o.cell 2];rfl)
     have y3:∀ X:In (Up Wq),X.w.cell? ⟨β,3,none⟩=some (.slice va B.gs[m].vb.length vcap):=fun X=>Up.cell X (by rw [HYq.o.cell 3];rfl)
     have y4:∀ X:In (Up Wq),X.w.cell? ⟨β,4,none⟩=some (.string B.gs[m].kd):=fun X=>Up.cell X (by rw [HYq.o.cell 4];rfl)
     have y5:∀ X:In (Up Wq),X.w.cell? ⟨β,5,none⟩=some (.string B.gs[m].tm):=fun X=>Up.cell X (by rw [HYq.o.cell 5];rfl)
     have y6:∀ X:In (Up Wq),X.w.cell? ⟨β,6,none⟩=some (.string B.gs[m].pf):=fun X=>Up.cell X (by rw [HYq.o.cell 6];rfl)
     have xs:=fun (X:In (Up Wq))=>ZhT X
     have sw0:=HZ.o.s0;have sw1:=HZ.o.s1
     by_cases h0:m=0
     . have hd0:decide (0 < m)=false:=by simp;omega
       have HRI:Hd (ZcP Zhm B.gs m=true):=by unfold Hd;rw [h0];rfl
       clear h0 hc;refine Za0 (Up Wq) (by kernel_rfl) (by kernel_rfl) (Zb_.drew) ?_
       cases h1:inB 1 B.given B.gs[m].nu with
       | false=>
        repeat (go_big_quiet_step (
         first
         | (go_at_call 82;rename_i X;exact (Zao _ _ _ _).mono fun _ _ h=>⟨h.1,X,h.2⟩)
         | (go_at_call 132;rename_i X;exact (Zae _ _ (by with_reducible assumption)).mono fun _ _ h=>⟨h.1,X,h.2⟩)
         | (go_at_call 133;rename_i X;exact (ZaF lo B.gs[m].ru _ _ (HVq.o.below X.h) HRZ.o).mono fun _ _ h=>⟨h.1,Up.next X h.2⟩)))
        refine wpQuiet_nil ?_;intro wn hw;obtain⟨X,hX⟩:=hw;have HWN:Below Wq.heap.size Wq wn:=by rw [hX];exact X.h
        clear hX X x0 xg xs xn y0 y1 y2 y3 y4 y5 y6;go_wp2;go_meet;exact⟨congrArg Value.bool (by rw [HQ.o,h1];rfl),HWN⟩
       | true=>
        cases h2:Zap B.gs[m].tw with
        | false=>
         repeat (go_big_quiet_step (
          first
          | (go_at_call 82;rename_i X;exact (Zao _ _ _ _).mono fun _ _ h=>⟨h.1,X,h.2⟩)
          | (go_at_call 132;rename_i X;exact (Zae _ _ (by with_reducible assumption)).mono fun _ _ h=>⟨h.1,X,h.2⟩)
          | (go_at_call 133;rename_i X;exact (ZaF lo B.gs[m].ru _ _ (HVq.o.below X.h) HRZ.o).mono fun _ _ h=>⟨h.1,Up.next X h.2⟩)))
         refine wpQuiet_nil ?_;intro wn hw;obtain⟨X,hX⟩:=hw;have HWN:Below Wq.heap.size Wq wn:=by rw [hX];exact X.h
         clear hX X x0 xg xs xn y0 y1 y2 y3 y4 y5 y6;go_wp2;go_meet;exact⟨congrArg Value.bool (by rw [HQ.o,h1,h2];rfl),HWN⟩
        | true=>
         cases hg:B.gs[m].gb.toList.isEmpty with
         | false=>
          cases h3:Zap B.gs[m].gb with
          | false=>
           have h5:Zai B.gs[m].gb=false:=by rw [HEN.o,hg,h3];rfl
           repeat (go_big_quiet_step (
            first
            | (go_at_call 82;rename_i X;exact (Zao _ _ _ _).mono fun _ _ h=>⟨h.1,X,h.2⟩)
            | (go_at_call 132;rename_i X;exact (Zae _ _ (by with_reducible assumption)).mono fun _ _ h=>⟨h.1,X,h.2⟩)
            | (go_at_call 133;rename_i X;exact (ZaF lo B.gs[m].ru _ _ (HVq.o.below X.h) HRZ.o).mono fun _ _ h=>⟨h.1,Up.next X h.2⟩)))
           refine wpQuiet_nil ?_;intro wn hw;obtain⟨X,hX⟩:=hw;have HWN:Below Wq.heap.size Wq wn:=by rw [hX];exact X.h
           clear hX X x0 xg xs xn y0 y1 y2 y3 y4 y5 y6;go_wp2;go_meet;exact⟨congrArg Value.bool (by rw [HQ.o,h1,h2,h5];rfl),HWN⟩
          | true=>
           have h5:Zai B.gs[m].gb=true:=by rw [HEN.o,hg,h3];rfl
           cases h4:ZaW B.gs[m].ru with
           | false=>
            repeat (go_big_quiet_step (
             first
             | (go_at_call 82;rename_i X;exact (Zao _ _ _ _).mono fun _ _ h=>⟨h.1,X,h.2⟩)
             | (go_at_call 132;rename_i X;exact (Zae _ _ (by with_reducible assumption)).mono fun _ _ h=>⟨h.1,X,h.2⟩)
             | (go_at_call 133;rename_i X;exact (ZaF lo B.gs[m].ru _ _ (HVq.o.below X.h) HRZ.o).mono fun _ _ h=>⟨h.1,Up.next X h.2⟩)))
            refine wpQuiet_nil ?_;intro wn hw;obtain⟨X,hX⟩:=hw;have HWN:Below Wq.heap.size Wq wn:=by rw [hX];exact X.h
            clear hX X x0 xg xs xn y0 y1 y2 y3 y4 y5 y6;go_wp2;go_meet;exact⟨congrArg Value.bool (by rw [HQ.o,h1,h2,h5,h4];rfl),HWN⟩
           | true=>
            repeat (go_big_quiet_step (
             first
             | (go_at_call 82;rename_i X;exact (Zao _ _ _ _).mono fun _ _ h=>⟨h.1,X,h.2⟩)
             | (go_at_call 132;rename_i X;exact (Zae _ _ (by with_reducible assumption)).mono fun _ _ h=>⟨h.1,X,h.2⟩)
             | (go_at_call 133;rename_i X;exact (ZaF lo B.gs[m].ru _ _ (HVq.o.below X.h) HRZ.o).mono fun _ _ h=>⟨h.1,Up.next X h.2⟩)))
            refine wpQuiet_nil ?_;intro wn hw;obtain⟨X,hX⟩:=hw;have HWN:Below Wq.heap.size Wq wn:=by rw [hX];exact X.h
            clear hX X x0 xg xs xn y0 y1 y2 y3 y4 y5 y6;go_wp2;go_meet;exact⟨congrArg Value.bool (by rw [HQ.o,h1,h2,h5,h4,HRI.o];rfl),HWN⟩
         | true=>
          have h5:Zai B.gs[m].gb=true:=by rw [HEN.o,hg];rfl
          cases h4:ZaW B.gs[m].ru with
          | false=>
           repeat (go_big_quiet_step (
            first
            | (go_at_call 82;rename_i X;exact (Zao _ _ _ _).mono fun _ _ h=>⟨h.1,X,h.2⟩)
            | (go_at_call 132;rename_i X;exact (Zae _ _ (by with_reducible assumption)).mono fun _ _ h=>⟨h.1,X,h.2⟩)
            | (go_at_call 133;rename_i X;exact (ZaF lo B.gs[m].ru _ _ (HVq.o.below X.h) HRZ.o).mono fun _ _ h=>⟨h.1,Up.next X h.2⟩)))
           refine wpQuiet_nil ?_;intro wn hw;obtain⟨X,hX⟩:=hw;have HWN:Below Wq.heap.size Wq wn:=by rw [hX];exact X.h
           clear hX X x0 xg xs xn y0 y1 y2 y3 y4 y5 y6;go_wp2;go_meet;exact⟨congrArg Value.bool (by rw [HQ.o,h1,h2,h5,h4];rfl),HWN⟩
          | true=>
           repeat (go_big_quiet_step (
            first
            | (go_at_call 82;rename_i X;exact (Zao _ _ _ _).mono fun _ _ h=>⟨h.1,X,h.2⟩)
            | (go_at_call 132;rename_i X;exact (Zae _ _ (by with_reducible assumption)).mono fun _ _ h=>⟨h.1,X,h.2⟩)
            | (go_at_call 133;rename_i X;exact (ZaF lo B.gs[m].ru _ _ (HVq.o.below X.h) HRZ.o).mono fun _ _ h=>⟨h.1,Up.next X h.2⟩)))
           refine wpQuiet_nil ?_;intro wn hw;obtain⟨X,hX⟩:=hw;have HWN:Below Wq.heap.size Wq wn:=by rw [hX];exact X.h
           clear hX X x0 xg xs xn y0 y1 y2 y3 y4 y5 y6;go_wp2;go_meet;exact⟨congrArg Value.bool (by rw [HQ.o,h1,h2,h5,h4,HRI.o];rfl),HWN⟩
     . have hd0:decide (0 < m)=true:=by simp;omega
       obtain⟨k,hkm⟩:∃ k,m=k+1:=⟨m - 1,by omega⟩
       have hltk:k < B.gs.length:=by omega
       obtain⟨hsk,vvk,hck,hvk⟩:=hc k hltk;have yk:∀ X:In (Up Wq),X.w.cell? ⟨b,off+k*7,none⟩=some (.int .i64 B.gs[k].nu):=fun X=>Up.cell X (hck.below HBw.o hbw).c0
       have HRI0:Hd (ZcP Zhm B.gs m=decide (B.gs[k].nu < B.gs[m].nu)):=by
        subst hkm;unfold Hd;rw [Zek hlt];unfold Zhm;exact decide_eq_decide.2 ZrL
       have e2:IntKind.i64.wrap ((m:Int) - 1)=k:=by rw [IntWalk.i64_left];unfold wrap64;omega
       have e3:wrap64 ((m:Int) - 1)=k:=by unfold wrap64;omega
       have e4:(m:Int) - 1=k:=by omega
       have HKM:=Zab hkm;clear h0 hc hsk hck hvk hkm;refine Za0 (Up Wq) (by kernel_rfl) (by kernel_rfl) (Zb_.drew) ?_
       cases h1:inB 1 B.given B.gs[m].nu with
       | false=>
        repeat (go_big_quiet_step (
         first
         | (go_at_call 82;rename_i X;exact (Zao _ _ _ _).mono fun _ _ h=>⟨h.1,X,h.2⟩)
         | (go_at_call 132;rename_i X;exact (Zae _ _ (by with_reducible assumption)).mono fun _ _ h=>⟨h.1,X,h.2⟩)
         | (go_at_call 133;rename_i X;exact (ZaF lo B.gs[m].ru _ _ (HVq.o.below X.h) HRZ.o).mono fun _ _ h=>⟨h.1,Up.next X h.2⟩)))
        refine wpQuiet_nil ?_;intro wn hw;obtain⟨X,hX⟩:=hw;have HWN:Below Wq.heap.size Wq wn:=by rw [hX];exact X.h
        clear hX X x0 xg xs xn y0 y1 y2 y3 y4 y5 y6;go_wp2;go_meet;exact⟨congrArg Value.bool (by rw [HQ.o,h1];rfl),HWN⟩
       | true=>
        by_cases hnu:B.gs[k].nu < B.gs[m].nu
        . have HRI:Hd (ZcP Zhm B.gs m=true):=HRI0.o.trans (decide_eq_true hnu)
          have hd1:decide (B.gs[m].nu<=B.gs[k].nu)=false:=by simp;omega
          cases h2:Zap B.gs[m].tw with
          | false=>
           repeat (go_big_quiet_step (
            first
            | (go_at_call 82;rename_i X;exact (Zao _ _ _ _).mono fun _ _ h=>⟨h.1,X,h.2⟩)
            | (go_at_call 132;rename_i X;exact (Zae _ _ (by with_reducible assumption)).mono fun _ _ h=>⟨h.1,X,h.2⟩)
            | (go_at_call 133;rename_i X;exact (ZaF lo B.gs[m].ru _ _ (HVq.o.below X.h) HRZ.o).mono fun _ _ h=>⟨h.1,Up.next X h.2⟩)))
           refine wpQuiet_nil ?_;intro wn hw;obtain⟨X,hX⟩:=hw;have HWN:Below Wq.heap.size Wq wn:=by rw [hX];exact X.h
           clear hX X x0 xg xs xn y0 y1 y2 y3 y4 y5 y6;go_wp2;go_meet;exact⟨congrArg Value.bool (by rw [HQ.o,h1,h2];rfl),HWN⟩
          | true=>
           cases hg:B.gs[m].gb.toList.isEmpty with
           | false=>
            cases h3:Zap B.gs[m].gb with
            | false=>
             have h5:Zai B.gs[m].gb=false:=by rw [HEN.o,hg,h3];rfl
             repeat (go_big_quiet_step (
              first
              | (go_at_call 82;rename_i X;exact (Zao _ _ _ _).mono fun _ _ h=>⟨h.1,X,h.2⟩)
              | (go_at_call 132;rename_i X;exact (Zae _ _ (by with_reducible assumption)).mono fun _ _ h=>⟨h.1,X,h.2⟩)
              | (go_at_call 133;rename_i X;exact (ZaF lo B.gs[m].ru _ _ (HVq.o.below X.h) HRZ.o).mono fun _ _ h=>⟨h.1,Up.next X h.2⟩)))
             refine wpQuiet_nil ?_;intro wn hw;obtain⟨X,hX⟩:=hw;have HWN:Below Wq.heap.size Wq wn:=by rw [hX];exact X.h
             clear hX X x0 xg xs xn y0 y1 y2 y3 y4 y5 y6;go_wp2;go_meet;exact⟨congrArg Value.bool (by rw [HQ.o,h1,h2,h5];rfl),HWN⟩
            | true=>
             have h5:Zai B.gs[m].gb=true:=by rw [HEN.o,hg,h3];rfl
             cases h4:ZaW B.gs[m].ru with
             | false=>
              repeat (go_big_quiet_step (
               first
               | (go_at_call 82;rename_i X;exact (Zao _ _ _ _).mono fun _ _ h=>⟨h.1,X,h.2⟩)
               | (go_at_call 132;rename_i X;exact (Zae _ _ (by with_reducible assumption)).mono fun _ _ h=>⟨h.1,X,h.2⟩)
               | (go_at_call 133;rename_i X;exact (ZaF lo B.gs[m].ru _ _ (HVq.o.below X.h) HRZ.o).mono fun _ _ h=>⟨h.1,Up.next X h.2⟩)))
              refine wpQuiet_nil ?_;intro wn hw;obtain⟨X,hX⟩:=hw;have HWN:Below Wq.heap.size Wq wn:=by rw [hX];exact X.h
              clear hX X x0 xg xs xn y0 y1 y2 y3 y4 y5 y6;go_wp2;go_meet;exact⟨congrArg Value.bool (by rw [HQ.o,h1,h2,h5,h4];rfl),HWN⟩
             | true=>
              repeat (go_big_quiet_step (
               first
               | (go_at_call 82;rename_i X;exact (Zao _ _ _ _).mono fun _ _ h=>⟨h.1,X,h.2⟩)
               | (go_at_call 132;rename_i X;exact (Zae _ _ (by with_reducible assumption)).mono fun _ _ h=>⟨h.1,X,h.2⟩)
               | (go_at_call 133;rename_i X;exact (ZaF lo B.gs[m].ru _ _ (HVq.o.below X.h) HRZ.o).mono fun _ _ h=>⟨h.1,Up.next X h.2⟩)))
              refine wpQuiet_nil ?_;intro wn hw;obtain⟨X,hX⟩:=hw;have HWN:Below Wq.heap.size Wq wn:=by rw [hX];exact X.h
              clear hX X x0 xg xs xn y0 y1 y2 y3 y4 y5 y6;go_wp2;go_meet;exact⟨congrArg Value.bool (by rw [HQ.o,h1,h2,h5,h4,HRI.o];rfl),HWN⟩
           | true=>
            have h5:Zai B.gs[m].gb=true:=by rw [HEN.o,hg];rfl
            cases h4:ZaW B.gs[m].ru with
            | false=>
             repeat (go_big_quiet_step (
              first
              | (go_at_call 82;rename_i X;exact (Zao _ _ _ _).mono fun _ _ h=>⟨h.1,X,h.2⟩)
              | (go_at_call 132;rename_i X;exact (Zae _ _ (by with_reducible assumption)).mono fun _ _ h=>⟨h.1,X,h.2⟩)
              | (go_at_call 133;rename_i X;exact (ZaF lo B.gs[m].ru _ _ (HVq.o.below X.h) HRZ.o).mono fun _ _ h=>⟨h.1,Up.next X h.2⟩)))
             refine wpQuiet_nil ?_;intro wn hw;obtain⟨X,hX⟩:=hw;have HWN:Below Wq.heap.size Wq wn:=by rw [hX];exact X.h
             clear hX X x0 xg xs xn y0 y1 y2 y3 y4 y5 y6;go_wp2;go_meet;exact⟨congrArg Value.bool (by rw [HQ.o,h1,h2,h5,h4];rfl),HWN⟩
            | true=>
             repeat (go_big_quiet_step (
              first
              | (go_at_call 82;rename_i X;exact (Zao _ _ _ _).mono fun _ _ h=>⟨h.1,X,h.2⟩)
              | (go_at_call 132;rename_i X;exact (Zae _ _ (by with_reducible assumption)).mono fun _ _ h=>⟨h.1,X,h.2⟩)
              | (go_at_call 133;rename_i X;exact (ZaF lo B.gs[m].ru _ _ (HVq.o.below X.h) HRZ.o).mono fun _ _ h=>⟨h.1,Up.next X h.2⟩)))
             refine wpQuiet_nil ?_;intro wn hw;obtain⟨X,hX⟩:=hw;have HWN:Below Wq.heap.size Wq wn:=by rw [hX];exact X.h
             clear hX X x0 xg xs xn y0 y1 y2 y3 y4 y5 y6;go_wp2;go_meet;exact⟨congrArg Value.bool (by rw [HQ.o,h1,h2,h5,h4,HRI.o];rfl),HWN⟩
        . have HRF:Hd (ZcP Zhm B.gs m=false):=HRI0.o.trans (decide_eq_false hnu)
          have hd1:decide (B.gs[m].nu<=B.gs[k].nu)=true:=by simp;omega
          repeat (go_big_quiet_step (
           first
           | (go_at_call 82;rename_i X;exact (Zao _ _ _ _).mono fun _ _ h=>⟨h.1,X,h.2⟩)
           | (go_at_call 132;rename_i X;exact (Zae _ _ (by with_reducible assumption)).mono fun _ _ h=>⟨h.1,X,h.2⟩)
           | (go_at_call 133;rename_i X;exact (ZaF lo B.gs[m].ru _ _ (HVq.o.below X.h) HRZ.o).mono fun _ _ h=>⟨h.1,Up.next X h.2⟩)))
          refine wpQuiet_nil ?_;intro wn hw;obtain⟨X,hX⟩:=hw;have HWN:Below Wq.heap.size Wq wn:=by rw [hX];exact X.h
          clear hX X x0 xg xs xn y0 y1 y2 y3 y4 y5 y6;go_wp2;go_meet;exact⟨congrArg Value.bool (by rw [HRF.o,Bool.and_false];rfl),HWN⟩
    case rest=>
     obtain⟨hc65,hwn⟩:=hcut;have HWN:=Zab hwn;have HWB:Hd (Zw_ w wc):=HBw.o.trans (HWN.o.mono HBw.o.size);clear hwn hc
     cases hgn:gnB B.given B.gs[m] with
     | false=>
      have HN:Hd (ZaT B=false):=Zoh hlt hgn;rw [hgn] at hc65;subst hc65;go_wp2;go_ret;exact⟨Zaa HN.o.symm,HWB.o⟩
     | true=>
      cases hri:ZcP Zhm B.gs m with
      | false=>
       have HN:Hd (ZaT B=false):=Zoi hlt hri;rw [hgn,hri] at hc65;subst hc65;go_wp2;go_ret;exact⟨Zaa HN.o.symm,HWB.o⟩
      | true=>
       have HT:=Zab hgn;have HR:=Zab hri;rw [hgn,hri] at hc65;subst hc65;go_wp2;go_roundw
       case rel=>exact⟨m+1,by go_num,by omega,HWB.o,HXq.o.on HWN.o,ZdE HA.o hlt HT.o,fun j hj=>by
                  by_cases e:j=m
                  . subst e;exact HR.o
                  . exact HS.o j (by omega)⟩
       . simp [intOf];omega
  . have HT:Hd (ZaT B=true):=Zoj hl (fun j hj=>HA.o j hj (by omega)) (fun j hj=>HS.o j (by omega))
    go_wp2;go_ret;exact⟨Zaa HT.o.symm,HBr.o⟩
end
end Go.Proofs.YtmappejlmapboaaGreat
