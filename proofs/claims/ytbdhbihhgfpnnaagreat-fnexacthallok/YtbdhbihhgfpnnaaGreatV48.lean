import Derived.Test.YtbdhbihhgfpnnaaGreatV38
import Derived.Test.YtbdhbihhgfpnnaaGreatV47
set_option maxHeartbeats 16000000
set_option maxRecDepth 100000
open Go.Proofs.Tryz
namespace Go.Proofs.YtbdhbihhgfpnnaaGreat
open Go.RowKit Go.Deep
def Zbs (U:Ho):Bool:=Za5 U.tm&&decide (U.gr.length<=24)&&ZeK U.gr
theorem ZiH (lo:Nat) (cs:List Value) (U:Ho) (w:World) (h:HoC lo w cs U) :
 Calls prog 16 #[.agg cs.toArray] w fun e w'=>e=.returned (.bool (Zbs U))/\Zw_ w w':=by
 obtain⟨a0,k0,a1,k1,rfl,h⟩:=h
 show Calls prog 16 #[.agg #[.slice a0 U.tm.length k0,.slice a1 U.gr.length k1]] w _
 have HT:=Zab h.l0;have HG:=Zab h.l1;have HI:Hd (Zbs U=(Za5 U.tm&&decide (U.gr.length<=24)&&ZeK U.gr)):=rfl;clear h;go_enter func16,ntmps16;go_wp2_with fail;generalize hWa:w.alloc _=Wa;have HB:Hd (Zw_ w Wa):=by unfold Hd;rw [<- hWa];exact Zac w _
 have HX:Hd (Box Wa w.heap.size #[.slice a0 U.tm.length k0,.slice a1 U.gr.length k1]):=by unfold Hd;rw [<- hWa];exact Box.new _ _ _ _ rfl
 clear hWa;refine (Zff lo _ U.tm _ (HT.o.below HB.o)).mono ?_;rintro e w1 ⟨rfl,hb1⟩;have HB1:Hd (Zw_ w w1):=bt HB.o hb1;have HX1:=Zab (HX.o.on hb1);clear hb1 HB HX
 cases ht:Za5 U.tm with
 | false=>
  have HE:Hd (Zbs U=false):=by unfold Hd;rw [HI.o,ht];rfl
  go_wp2;go_ret;exact⟨Zaa HE.o.symm,HB1.o⟩
 | true=>
  have x1:=HX1.o.cell 1;simp at x1
  by_cases hl:U.gr.length<=24
  case neg=>
   have HE:Hd (Zbs U=false):=by unfold Hd;rw [HI.o,ht,decide_eq_false hl];rfl
   have hgt:decide ((24:Int) < (U.gr.length:Int))=true:=by simp;omega
   go_wp2;go_ret;exact⟨Zaa HE.o.symm,HB1.o⟩
  have HE:Hd (Zbs U=ZeK U.gr):=by unfold Hd;rw [HI.o,ht,decide_eq_true hl];rfl
  have hgt:decide ((24:Int) < (U.gr.length:Int))=false:=by simp;omega
  go_wp2;clear x1 hgt ht
  go_loopw [3] (fun i wr=>∃ m:Nat,i=.int .i64 m/\m<=U.gr.length/\Zw_ w wr/\Box wr w.heap.size #[.slice a0 U.tm.length k0,.slice a1 U.gr.length k1]/\∀ j (h:j < U.gr.length),j < m->ZdO j U.gr[j]=true) (fun i _=>U.gr.length - (intOf i).toNat)
  case atStart=>exact⟨0,rfl,Nat.zero_le _,HB1.o,HX1.o,fun j _ h=>by omega⟩
  case round=>
   obtain⟨m,rfl,hm,hb,hx,hall⟩:=hrel;have HBr:=Zab hb;have HXr:=Zab hx;have HA:=Zab hall;have x1:=hx.cell 1;simp at x1;clear hb hx hall HB1 HX1
   by_cases hlt:m < U.gr.length
   . obtain⟨b,off,rfl,hbw,-,hc⟩:=HG.o.full' (by omega)
     obtain⟨hs,vv0,hcell,hv0⟩:=hc m hlt;obtain⟨c0,c1,c2,c3,c4,c5,c6⟩:=hcell.below HBr.o hbw;have HZ:=Zab hs;have HV:=Zab (hv0.below HBr.o);obtain⟨va,vcap,rfl⟩:=hv0.form;have HQ:Hd (ZdO m U.gr[m]=(decide (U.gr[m].nu=(m:Int)+1)&&Zan U.gr[m].tw&&U.gr[m].gb.toList.isEmpty&&ZaT U.gr[m].ru)):=rfl;have HRZ:Hd (ZeX U.gr[m].ru):=⟨HZ.o.s2,HZ.o.s3,HZ.o.s4⟩;have s0:=hs.s0;have s1:=hs.s1;have HBA:∀ o,Hd (Zw_ w (wr.alloc o)):=fun o=>HBr.o.trans ((Zac _ _).mono HBr.o.size)
     have HN:Hd (ZdO m U.gr[m]=false->Zbs U=false):=fun h=>HE.o.trans (Zje hlt h)
     clear hc hcell hv0 hs
     by_cases h1:U.gr[m].nu=(m:Int)+1
     case neg=>
      have HF:Hd (Zbs U=false):=HN.o (by rw [HQ.o,decide_eq_false h1];rfl);go_wp2;go_ret;exact⟨Zaa HF.o.symm,(HBA _).o⟩
     cases h2:Zan U.gr[m].tw with
     | false=>
      have HF:Hd (Zbs U=false):=HN.o (by rw [HQ.o,decide_eq_true h1,h2];rfl);go_wp2_with (first|(go_at_call 43;refine (Zad _ _ s0).mono ?_;rintro e w' ⟨rfl,rfl⟩));go_ret;exact⟨Zaa HF.o.symm,(HBA _).o⟩
     | true=>
      cases h3:U.gr[m].gb.toList.isEmpty with
      | false=>
       have HF:Hd (Zbs U=false):=HN.o (by rw [HQ.o,decide_eq_true h1,h2,h3];rfl);go_wp2_with (first|(go_at_call 43;refine (Zad _ _ s0).mono ?_;rintro e w' ⟨rfl,rfl⟩));go_ret;exact⟨Zaa HF.o.symm,(HBA _).o⟩
      | true=>
       cases h4:ZaT U.gr[m].ru with
       | false=>
        have HF:Hd (Zbs U=false):=HN.o (by rw [HQ.o,decide_eq_true h1,h2,h3,h4];rfl);go_wp2_with (first|(go_at_call 43;refine (Zad _ _ s0).mono ?_;rintro e w' ⟨rfl,rfl⟩)|(go_at_call 44;refine (Zaz lo U.gr[m].ru _ _ (HV.o.below (Zac _ _)) HRZ.o).mono ?_;rintro e w' ⟨rfl,hb⟩;rw [h4]));go_ret;exact⟨Zaa HF.o.symm,bt (HBA _).o hb⟩
       | true=>
        have HF:Hd (ZdO m U.gr[m]=true):=by unfold Hd;rw [HQ.o,decide_eq_true h1,h2,h3,h4];rfl
        have HXA:∀ o,Hd (Box (wr.alloc o) w.heap.size #[.slice a0 U.tm.length k0,.slice (some ⟨b,off,none⟩) U.gr.length k1]):=fun o=>HXr.o.on (Zac _ _)
        go_wp2_with (first|(go_at_call 43;refine (Zad _ _ s0).mono ?_;rintro e w' ⟨rfl,rfl⟩)|(go_at_call 44;refine (Zaz lo U.gr[m].ru _ _ (HV.o.below (Zac _ _)) HRZ.o).mono ?_;rintro e w' ⟨rfl,hb⟩;rw [h4]));go_roundw
        case measure=>simp [intOf];omega
        case rel=>
         refine⟨m+1,by go_num,by omega,bt (HBA _).o hb,(HXA _).o.on hb,fun j hj hjm=>?_⟩
         rcases Nat.lt_or_ge j m with h | h
         . exact HA.o j hj h
         . have:j=m:=by omega
           subst this;exact HF.o
   . have hme:m=U.gr.length:=by omega
     go_wp2;go_ret;exact⟨Zaa (HE.o.trans (Zhz fun j h=>HA.o j h (by omega))).symm,HBr.o⟩
theorem Zik (lo:Nat) (cs:List Value) (U:Ho) (w:World) (h:HoC lo w cs U) :
 Calls prog 25 #[.agg cs.toArray] w fun e w'=>e=.returned (.bool (Zbs U))/\Zw_ w w':=by
 obtain⟨a0,k0,a1,k1,rfl,h⟩:=h
 show Calls prog 25 #[.agg #[.slice a0 U.tm.length k0,.slice a1 U.gr.length k1]] w _
 have HT:=Zab h.l0;have HG:=Zab h.l1;have HI:Hd (Zbs U=(Za5 U.tm&&decide (U.gr.length<=24)&&ZeK U.gr)):=rfl;clear h;go_enter func25,ntmps25;go_wp2_with fail;generalize hWa:w.alloc _=Wa;have HB:Hd (Zw_ w Wa):=by unfold Hd;rw [<- hWa];exact Zac w _
 have HX:Hd (Box Wa w.heap.size #[.slice a0 U.tm.length k0,.slice a1 U.gr.length k1]):=by unfold Hd;rw [<- hWa];exact Box.new _ _ _ _ rfl
 clear hWa;refine (Ze8 lo _ U.tm _ (HT.o.below HB.o)).mono ?_;rintro e w1 ⟨rfl,hb1⟩;have HB1:Hd (Zw_ w w1):=bt HB.o hb1;have HX1:=Zab (HX.o.on hb1);clear hb1 HB HX
 cases ht:Za5 U.tm with
 | false=>
  have HE:Hd (Zbs U=false):=by unfold Hd;rw [HI.o,ht];rfl
  go_wp2;go_ret;exact⟨Zaa HE.o.symm,HB1.o⟩
 | true=>
  have x1:=HX1.o.cell 1;simp at x1
  by_cases hl:U.gr.length<=24
  case neg=>
   have HE:Hd (Zbs U=false):=by unfold Hd;rw [HI.o,ht,decide_eq_false hl];rfl
   have hgt:decide ((24:Int) < (U.gr.length:Int))=true:=by simp;omega
   go_wp2;go_ret;exact⟨Zaa HE.o.symm,HB1.o⟩
  have HE:Hd (Zbs U=ZeK U.gr):=by unfold Hd;rw [HI.o,ht,decide_eq_true hl];rfl
  have hgt:decide ((24:Int) < (U.gr.length:Int))=false:=by simp;omega
  go_wp2;clear x1 hgt ht
  go_loopw [18] (fun i wr=>∃ m:Nat,i=.int .i64 m/\m<=U.gr.length/\Zw_ w wr/\Box wr w.heap.size #[.slice a0 U.tm.length k0,.slice a1 U.gr.length k1]/\∀ j (h:j < U.gr.length),j < m->ZdO j U.gr[j]=true) (fun i _=>U.gr.length - (intOf i).toNat)
  case atStart=>exact⟨0,rfl,Nat.zero_le _,HB1.o,HX1.o,fun j _ h=>by omega⟩
  case round=>
   obtain⟨m,rfl,hm,hb,hx,hall⟩:=hrel;have HBr:=Zab hb;have HXr:=Zab hx;have HA:=Zab hall;have x1:=hx.cell 1;simp at x1;clear hb hx hall HB1 HX1
   by_cases hlt:m < U.gr.length
   . obtain⟨b,off,rfl,hbw,-,hc⟩:=HG.o.full' (by omega)
     obtain⟨hs,vv0,hcell,hv0⟩:=hc m hlt;obtain⟨c0,c1,c2,c3,c4,c5,c6⟩:=hcell.below HBr.o hbw;have HZ:=Zab hs;have HV:=Zab (hv0.below HBr.o);obtain⟨va,vcap,rfl⟩:=hv0.form;have HQ:Hd (ZdO m U.gr[m]=(decide (U.gr[m].nu=(m:Int)+1)&&Zan U.gr[m].tw&&U.gr[m].gb.toList.isEmpty&&ZaT U.gr[m].ru)):=rfl;have HRZ:Hd (ZeX U.gr[m].ru):=⟨HZ.o.s2,HZ.o.s3,HZ.o.s4⟩;have s0:=hs.s0;have s1:=hs.s1;have HBA:∀ o,Hd (Zw_ w (wr.alloc o)):=fun o=>HBr.o.trans ((Zac _ _).mono HBr.o.size)
     have HN:Hd (ZdO m U.gr[m]=false->Zbs U=false):=fun h=>HE.o.trans (Zje hlt h)
     clear hc hcell hv0 hs
     by_cases h1:U.gr[m].nu=(m:Int)+1
     case neg=>
      have HF:Hd (Zbs U=false):=HN.o (by rw [HQ.o,decide_eq_false h1];rfl);go_wp2;go_ret;exact⟨Zaa HF.o.symm,(HBA _).o⟩
     cases h2:Zan U.gr[m].tw with
     | false=>
      have HF:Hd (Zbs U=false):=HN.o (by rw [HQ.o,decide_eq_true h1,h2];rfl);go_wp2_with (first|(go_at_call 68;refine (Zak _ _ s0).mono ?_;rintro e w' ⟨rfl,rfl⟩));go_ret;exact⟨Zaa HF.o.symm,(HBA _).o⟩
     | true=>
      cases h3:U.gr[m].gb.toList.isEmpty with
      | false=>
       have HF:Hd (Zbs U=false):=HN.o (by rw [HQ.o,decide_eq_true h1,h2,h3];rfl);go_wp2_with (first|(go_at_call 68;refine (Zak _ _ s0).mono ?_;rintro e w' ⟨rfl,rfl⟩));go_ret;exact⟨Zaa HF.o.symm,(HBA _).o⟩
      | true=>
       cases h4:ZaT U.gr[m].ru with
       | false=>
        have HF:Hd (Zbs U=false):=HN.o (by rw [HQ.o,decide_eq_true h1,h2,h3,h4];rfl);go_wp2_with (first|(go_at_call 68;refine (Zak _ _ s0).mono ?_;rintro e w' ⟨rfl,rfl⟩)|(go_at_call 69;refine (Zd6 lo U.gr[m].ru _ _ (HV.o.below (Zac _ _)) HRZ.o).mono ?_;rintro e w' ⟨rfl,hb⟩;rw [h4]));go_ret;exact⟨Zaa HF.o.symm,bt (HBA _).o hb⟩
       | true=>
        have HF:Hd (ZdO m U.gr[m]=true):=by unfold Hd;rw [HQ.o,decide_eq_true h1,h2,h3,h4];rfl
        have HXA:∀ o,Hd (Box (wr.alloc o) w.heap.size #[.slice a0 U.tm.length k0,.slice (some ⟨b,off,none⟩) U.gr.length k1]):=fun o=>HXr.o.on (Zac _ _)
        go_wp2_with (first|(go_at_call 68;refine (Zak _ _ s0).mono ?_;rintro e w' ⟨rfl,rfl⟩)|(go_at_call 69;refine (Zd6 lo U.gr[m].ru _ _ (HV.o.below (Zac _ _)) HRZ.o).mono ?_;rintro e w' ⟨rfl,hb⟩;rw [h4]));go_roundw
        case measure=>simp [intOf];omega
        case rel=>
         refine⟨m+1,by go_num,by omega,bt (HBA _).o hb,(HXA _).o.on hb,fun j hj hjm=>?_⟩
         rcases Nat.lt_or_ge j m with h | h
         . exact HA.o j hj h
         . have:j=m:=by omega
           subst this;exact HF.o
   . have hme:m=U.gr.length:=by omega
     go_wp2;go_ret;exact⟨Zaa (HE.o.trans (Zhz fun j h=>HA.o j h (by omega))).symm,HBr.o⟩
theorem Zko (kd nm tm:Zy_) (vv hv:Value) (en:Bool) (ver:Int) (V Hs:List Zy_) (w:World) (hV:Zae w vv V) (hH:Zae w hv Hs) :
 Calls prog 78 #[.agg #[.string kd,.string nm,.string tm,vv,.bool en,hv,.int .i64 ver]] w fun e w'=>e=.returned (.bool (ZdC Hs ZfE))/\Zw_ w w':=by
 obtain⟨va,vc,rfl⟩:=hV.form';obtain⟨ha,hc,rfl⟩:=hH.form';have HH:=Zab hH;clear hV hH;go_enter func78,ntmps78;go_wp2_with fail;refine (Zc8 _ Hs ZfE _ (HH.o.below (Zac _ _))).mono ?_;rintro e w1 ⟨rfl,hw⟩;have:=hw.symm;subst this;go_wp2;go_ret;exact⟨rfl,Zac _ _⟩
theorem ZeB (o:Ob) (vv hv:Value) (s:Sv) (w:World) (hV:Zae w vv o.vs) (hH:Zae w hv o.hs) :
 Calls prog 79 #[.agg (svL s).toArray,.agg #[.string o.kd,.string o.nm,.string o.tm,vv,.bool o.en,hv,.int .i64 o.ver]] w fun e w'=>e=.returned (.bool (Zce o s))/\Zw_ w w':=by
 obtain⟨va,vc,rfl⟩:=hV.form';obtain⟨ha,hc,rfl⟩:=hH.form';have HV:=Zab hV;have HQ:Hd (Zce o s=ZrG { Zcu o.nm o.en o.vs s with ve:=s.ve,nx:=s.nx,cl:=s.cl } s):=rfl;clear hV hH
 show Calls prog 79 #[.agg #[.string s.nm,.int .i64 s.ve,.bool s.gn,.int .i64 s.im,.int .i64 s.wa,.int .i64 s.dn,.int .i64 s.ov,.int .i64 s.nx,.int .i64 s.pr,.int .i64 s.ls,.int .i64 s.ms,.int .i64 s.ld,.int .i64 s.cl],.agg #[.string o.kd,.string o.nm,.string o.tm,.slice va o.vs.length vc,.bool o.en,.slice ha o.hs.length hc,.int .i64 o.ver]] w _
 go_enter func79,ntmps79;go_wp2_with fail;generalize hWa:(World.alloc (w.alloc _) _)=Wa;have HB:Hd (Zw_ w Wa):=by unfold Hd;rw [<- hWa];exact (Zac w _).alloc (by simp) _
 have FS:Hd (Box Wa w.heap.size #[.string s.nm,.int .i64 s.ve,.bool s.gn,.int .i64 s.im,.int .i64 s.wa,.int .i64 s.dn,.int .i64 s.ov,.int .i64 s.nx,.int .i64 s.pr,.int .i64 s.ls,.int .i64 s.ms,.int .i64 s.ld,.int .i64 s.cl]):=by unfold Hd;rw [<- hWa];exact (Box.new _ _ _ _ rfl).on (Zac _ _)
 clear hWa;refine (ZgC o.kd o.nm o.tm _ _ o.en o.ver o.vs s _ (HV.o.below HB.o)).mono ?_;rintro e w1 ⟨rfl,hb⟩;replace HB:Hd (Zw_ w w1):=bt HB.o hb;replace FS:=Zab (FS.o.on hb);clear hb;generalize Zcu o.nm o.en o.vs s=R at*;rw [show (svL R).toArray=#[.string R.nm,.int .i64 R.ve,.bool R.gn,.int .i64 R.im,.int .i64 R.wa,.int .i64 R.dn,.int .i64 R.ov,.int .i64 R.nx,.int .i64 R.pr,.int .i64 R.ls,.int .i64 R.ms,.int .i64 R.ld,.int .i64 R.cl] from rfl]
 go_upto_region 1 with fail
 generalize hWb:w1.alloc _=Wb;have hbx:Below w1.heap.size w1 Wb:=by rw [<- hWb];exact Zac _ _
 have FR:Hd (Box Wb w1.heap.size #[.string R.nm,.int .i64 R.ve,.bool R.gn,.int .i64 R.im,.int .i64 R.wa,.int .i64 R.dn,.int .i64 R.ov,.int .i64 R.nx,.int .i64 R.pr,.int .i64 R.ls,.int .i64 R.ms,.int .i64 R.ld,.int .i64 R.cl]):=by unfold Hd;rw [<- hWb];exact Box.new _ _ _ _ rfl
 have hne:w.heap.size≠w1.heap.size:=Nat.ne_of_lt FS.o.lt;have hge:w.heap.size<=w1.heap.size:=HB.o.size;replace HB:Hd (Zw_ w Wb):=bt HB.o hbx;replace FS:=Zab (FS.o.on hbx);clear hWb hbx;generalize w1.heap.size=β at*;have hf:=FR.o.free;have hr:=FR.o.cell
 go_cut [] (fun wc=>Box wc β #[.string R.nm,.int .i64 s.ve,.bool R.gn,.int .i64 R.im,.int .i64 R.wa,.int .i64 R.dn,.int .i64 R.ov,.int .i64 s.nx,.int .i64 R.pr,.int .i64 R.ls,.int .i64 R.ms,.int .i64 R.ld,.int .i64 s.cl]/\Box wc w.heap.size #[.string s.nm,.int .i64 s.ve,.bool s.gn,.int .i64 s.im,.int .i64 s.wa,.int .i64 s.dn,.int .i64 s.ov,.int .i64 s.nx,.int .i64 s.pr,.int .i64 s.ls,.int .i64 s.ms,.int .i64 s.ld,.int .i64 s.cl]/\Zw_ w wc)
 case first=>
  go_region_held3 (fun W=>∀ i,W.cell? ⟨w.heap.size,i,none⟩=#[Value.string s.nm,.int .i64 s.ve,.bool s.gn,.int .i64 s.im,.int .i64 s.wa,.int .i64 s.dn,.int .i64 s.ov,.int .i64 s.nx,.int .i64 s.pr,.int .i64 s.ls,.int .i64 s.ms,.int .i64 s.ld,.int .i64 s.cl][i]?)
   (first | exact FS.o.cell | exact fun i=>(World.cell?_setCell_far _ _ _ _ (by simpa using Ne.symm hne)).trans (by with_reducible apply_assumption))
   (fail)
  go_wp2;go_meet;refine⟨Box.drew (((FR.o.set (k:=1) _ (by simp)).set (k:=7) _ (by simp)).set (k:=12) _ (by simp)),Box.drew ?_,Below.drew ?_⟩
  . repeat (refine Box.setFar ?_ (by simpa using Ne.symm hne) _)
    exact FS.o
  . repeat (refine Below.setCell ?_ hge _)
    exact HB.o
 case rest=>
  clear FR FS hf hr;obtain⟨fr,fs,hb⟩:=hcut;have FR:=Zab fr;have FS:=Zab fs;have HC:=Zab hb;clear fr fs hb;have gr:=FR.o.cell;have gs:=FS.o.cell;go_wp2
  all_goals
   go_ret;refine⟨Zaa ?_,HC.o⟩;rw [HQ.o];unfold ZrG;simp [*]
theorem Zbx.tail {lo:Nat}{w:World}{b off cap:Nat}{s:Sv}{L:List Sv} (h:Zbx lo w (.slice (some ⟨b,off,none⟩) (L.length+1) cap) (s :: L)) :
 Zbx lo w (.slice (if cap=1 then some ⟨b,off,none⟩ else some ⟨b,off+13,none⟩) L.length (cap - 1)) L:=by
 rcases h with ⟨_,_,_,h⟩ | ⟨b',off',cap',h1,_,h3,h4,h5,h6,h7⟩
 . cases h
 . injection h1 with e1 e2 e3
   injection e1 with e1
   injection e1 with e1 e4
   subst e1 e3 e4
   cases L with
   | nil=>exact Or.inl ⟨_,_,rfl,rfl⟩
   | cons t T=>
    have h6':T.length+1+1<=cap:=by simpa using h6
    have h3':T.length+1+1<=maxLen:=by simpa using h3
    rw [if_neg (by omega)];refine Or.inr ⟨b,off+13,cap - 1,rfl,by simp,by simp only [List.length_cons];omega,h4,h5,by simp only [List.length_cons];omega,fun i hi=>?_⟩;have:=h7 (i+1) (by simpa using hi);rw [show off+(i+1)*13=off+13+i*13 by omega] at this;exact this
theorem Zor (lo:Nat) (ov gv lv pv sv cv bv:Value) (B:Bk) (T:Sb) (w:World) (h:ZpP lo w ov gv lv pv sv cv bv B T) :
 Calls prog 29 #[.agg #[.int .i64 B.now,.int .i64 B.tick,.int .i64 B.given,ov,gv,lv,pv,.int .i64 T.now,sv,cv,bv]] w fun e w'=>e=.returned (.bool (Zb6 B.os T.ss))/\Zw_ w w':=by
 have HK:=Zab h;obtain⟨a0,k0,rfl⟩:=h.g.obs.form;obtain⟨a1,k1,rfl⟩:=h.g.grs.form;obtain⟨a2,k2,rfl⟩:=h.g.les.form;obtain⟨a3,k3,rfl⟩:=h.g.pus.form;obtain⟨a4,k4,rfl⟩:=h.s.svs.form;obtain⟨a5,k5,rfl⟩:=h.s.cps.form;obtain⟨a6,k6,rfl⟩:=h.s.bes.form;have hmx:=h.g.obs.max;unfold maxLen at hmx;clear h;go_enter func29,ntmps29;go_wp2_with fail;generalize hWa:w.alloc _=Wa;have HB:Hd (Zw_ w Wa):=by unfold Hd;rw [<- hWa];exact Zac _ _
 clear hWa
 go_loopw [13,3] (fun i lf wr=>∃ (m:Nat) (L:List Sv),i=.int .i64 m/\m<=B.os.length/\Zw_ w wr/\Zbx lo wr lf L/\Zb6 (B.os.drop m) L=Zb6 B.os T.ss) (fun i _ _=>B.os.length - (intOf i).toNat)
 case atStart=>exact⟨0,T.ss,rfl,Nat.zero_le _,HB.o,HK.o.s.svs.below HB.o,rfl⟩
 case round=>
  obtain⟨m,L,rfl,hm,hb,hs,he⟩:=hrel;have HBr:=Zab hb;have HS:=Zab hs;have HE:=Zab he;obtain⟨la,lc,rfl⟩:=hs.form;clear hb hs he HB
  by_cases hlt:m < B.os.length
  . have hd:=List.drop_eq_getElem_cons hlt
    obtain⟨b,off,rfl,hbw,-,hc⟩:=HK.o.g.obs.full' (by omega);obtain⟨hsz,vv0,vv1,hcell,hv0,hv1⟩:=hc m hlt;obtain⟨c0,c1,c2,c3,c4,c5,c6⟩:=hcell.below HBr.o hbw;have HV:=Zab (hv0.at.below HBr.o);have HH:=Zab (hv1.at.below HBr.o);obtain⟨va,vcap,rfl⟩:=hv0.at.form';obtain⟨ha,hcap,rfl⟩:=hv1.at.form';have HN:Hd (Zb6 (B.os[m] :: B.os.drop (m+1)) L=Zb6 B.os T.ss):=by unfold Hd;rw [<- hd];exact HE.o
    clear hc hcell hsz hv0 hv1 hd HE;generalize B.os[m]=o at*;go_wp2_with fail;generalize hWb:wr.alloc _=Wb;have hbb:Below wr.heap.size wr Wb:=by rw [<- hWb];exact Zac _ _
    have HBb:Hd (Zw_ w Wb):=bt HBr.o hbb;have HP:Hd (Box Wb wr.heap.size #[.string o.kd,.string o.nm,.string o.tm,.slice va o.vs.length vcap,.bool o.en,.slice ha o.hs.length hcap,.int .i64 o.ver]):=by unfold Hd;rw [<- hWb];exact Box.new _ _ _ _ rfl
    replace HV:=Zab (HV.o.below hbb);replace HH:=Zab (HH.o.below hbb);replace HS:=Zab (HS.o.below hbb);clear hWb hbb c0 c1 c2 c3 c4 c5 c6 HBr;generalize wr.heap.size=β at*;refine (Zko o.kd o.nm o.tm _ _ o.en o.ver o.vs o.hs _ HV.o HH.o).mono ?_;rintro e w3 ⟨rfl,hb3⟩;have HB3:Hd (Zw_ w w3):=bt HBb.o hb3;replace HP:=Zab (HP.o.on hb3);replace HV:=Zab (HV.o.below hb3);replace HH:=Zab (HH.o.below hb3);replace HS:=Zab (HS.o.below hb3);clear hb3 HBb
    cases hf:ZdC o.hs ZfE with
    | false=>
     have HT:Hd (Zb6 B.os T.ss=(o.en&&Zb6 (B.os.drop (m+1)) L)):=by
      unfold Hd;rw [<- HN.o,Zen];unfold Zk7;rw [hf,if_neg Bool.false_ne_true]
     have p4:=HP.o.cell 4;simp at p4
     cases hen:o.en with
     | false=>
      rw [hen] at p4;have HE:Hd (Zb6 B.os T.ss=false):=by unfold Hd;rw [HT.o,hen];rfl
      go_wp2;go_ret;exact⟨Zaa HE.o.symm,HB3.o⟩
     | true=>
      rw [hen] at p4;have HE:Hd (Zb6 (B.os.drop (m+1)) L=Zb6 B.os T.ss):=by unfold Hd;rw [HT.o,hen];rfl
      go_wp2;go_roundw
      case measure=>simp [intOf];omega
      case rel=>exact⟨m+1,L,by go_num,by omega,HB3.o,HS.o,HE.o⟩
    | true=>
     cases L with
     | nil=>
      have HE:Hd (Zb6 B.os T.ss=false):=by
       unfold Hd;rw [<- HN.o,Zen];unfold Zk7;rw [hf,if_pos rfl]
      go_wp2
      go_quiet (fail)
      go_wp2;go_ret;exact⟨Zaa HE.o.symm,below_drewN HB3.o _⟩
     | cons s L'=>
      have HT:Hd (Zb6 B.os T.ss=(Zce o s&&Zb6 (B.os.drop (m+1)) L')):=by
       unfold Hd;rw [<- HN.o,Zen];unfold Zk7;rw [hf,if_pos rfl]
      obtain⟨b',off',rfl,hbw',-,hc'⟩:=HS.o.full' (by simp);obtain⟨hsz',hcell'⟩:=hc' 0 (by simp);have hcell'':Zcn w3 b' off' s:=by simpa using hcell'
      have HC:=Zab hcell'';clear hc' hcell' hsz' hcell'';have hln:(((L'.length:Int)+1) == 0)=false:=by rw [beq_eq_false_iff_ne];omega
      have hln':¬ ((L'.length:Int)+1=0):=by omega
      go_wp2
      go_cut [33] (fun c wc=>c=.bool (!Zce o s)/\Below w3.heap.size w3 wc)
      case first=>
       have xn:Nonempty (In (Up w3)):=⟨⟨w3,Below.refl _ _⟩⟩;have xs:=fun (X:In (Up w3))=>Zb4 X
       have x0:∀ (X:In (Up w3)) i,X.w.cell? ⟨β,i,none⟩=#[Value.string o.kd,.string o.nm,.string o.tm,.slice va o.vs.length vcap,.bool o.en,.slice ha o.hs.length hcap,.int .i64 o.ver][i]?:=fun X i=>(HP.o.on X.h).cell i
       refine Zal (Up w3) (by kernel_rfl) (by kernel_rfl) (Zb_.drew) ?_
       repeat (go_big_quiet_step (first|(go_at_call 79;rename_i X;exact (ZeB o _ _ s _ (HV.o.below X.h) (HH.o.below X.h)).mono fun _ _ h=>⟨h.1,Up.next X h.2⟩)))
       refine Za3 (by rfl) 118 (.tmp 28) rfl b' off' rfl (svL s) _ (fun W hW=>by obtain⟨X,rfl⟩:=hW;exact Zc1 HC.o.rng X.h hbw') underlying118 rfl Za9 ?_;simp only [Act.put,List.setIfInBounds_toArray,List.set_cons_zero,List.set_cons_succ]
       repeat (go_big_quiet_step (first|(go_at_call 79;rename_i X;exact (ZeB o _ _ s _ (HV.o.below X.h) (HH.o.below X.h)).mono fun _ _ h=>⟨h.1,Up.next X h.2⟩)))
       refine wpQuiet_nil ?_;intro wn hw;obtain⟨X,hX⟩:=hw;have HWN:Below w3.heap.size w3 wn:=by rw [hX];exact X.h
       clear hX X x0 xs xn;go_wp2;go_meet;exact⟨rfl,HWN⟩
      case rest=>
       obtain⟨rfl,hbc⟩:=hcut;have HBc:Hd (Zw_ w wc):=bt HB3.o hbc;have HSc:=Zab (HS.o.below hbc);clear hbc HB3 HS HP HV HH HC
       cases hsv:Zce o s with
       | false=>
        have HE:Hd (Zb6 B.os T.ss=false):=by unfold Hd;rw [HT.o,hsv];rfl
        go_wp2;go_ret;exact⟨Zaa HE.o.symm,HBc.o⟩
       | true=>
        have HE:Hd (Zb6 (B.os.drop (m+1)) L'=Zb6 B.os T.ss):=by unfold Hd;rw [HT.o,hsv];rfl
        go_wp2;exact⟨⟨m+1,L',by go_num,by omega,HBc.o,HSc.o.tail,HE.o⟩,by simp [intOf];omega⟩
  . have hme:m=B.os.length:=by omega
    have HX:Hd (Zb6 B.os T.ss=((L.length:Int) == 0)):=by
     unfold Hd;rw [<- HE.o,hme,List.drop_length]
     cases L with
     | nil=>rfl
     | cons s L'=>
      symm
      show (((L'.length+1:Nat):Int) == 0)=false
      rw [beq_eq_false_iff_ne]
      omega
    go_wp2;go_ret;exact⟨Zaa HX.o.symm,HBr.o⟩
end Go.Proofs.YtbdhbihhgfpnnaaGreat
