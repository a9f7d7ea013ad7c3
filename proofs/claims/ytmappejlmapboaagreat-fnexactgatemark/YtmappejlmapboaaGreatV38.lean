import Derived.Test.YtmappejlmapboaaGreatV37
set_option maxHeartbeats 16000000
set_option maxRecDepth 100000
open Go.Proofs.Tryz
namespace Go.Proofs.YtmappejlmapboaaGreat
open Go.RowKit Go.Deep
variable {Fs:List Fd} {wr W:World} {β rb ro vb:Nat} {cs:Array Value}
def Zck (Ss:List Sh) (Ms:List Md) (kind:Zy_) (V F:List Zy_):Prop:=
 (∃ x,Zax Ss Ms=true/\Zca Ss kind=some x/\x.fields.length=V.length/\Znc x Ms (ZeA V x.fields) F)\/
 ((Zax Ss Ms=false\/∀ x,Zca Ss kind=some x->x.fields.length≠V.length)/\F=V)
theorem Zck.unique {Ss:List Sh}{Ms:List Md}{kind:Zy_}{V F G:List Zy_} (h1:Zck Ss Ms kind V F) (h2:Zck Ss Ms kind V G):F=G:=by
 rcases h1 with ⟨x,a1,a2,a3,a4⟩ | ⟨a1,a2⟩
 . rcases h2 with ⟨y,b1,b2,b3,b4⟩ | ⟨b1,b2⟩
   . rw [a2] at b2;cases b2
     exact Znc.unique a1 (Zcg a2).1 a4 b4
   . rcases b1 with b1 | b1
     . rw [a1] at b1;cases b1
     . exact absurd a3 (b1 x a2)
 . rcases h2 with ⟨y,b1,b2,b3,b4⟩ | ⟨b1,b2⟩
   . rcases a1 with a1 | a1
     . rw [b1] at a1;cases a1
     . exact absurd b3 (a1 y b2)
   . rw [a2,b2]
section
variable (kind nm team:Zy_) (vv hv sv mv fv:Value) (en:Bool) (ver:Int) (V Ho:List Zy_) (Ss:List Sh) (Ms:List Md) (x:Sh) (k0:Zy_) (w:World) (lo lm:Nat)
theorem ZjH (hV:Zaf w vv V) (hH:Zaf w hv Ho) (hF:Zau lo w fv x.fields) (hM:Za7 lm w mv Ms) (hmb:Zax Ss Ms=true) (hx:Zca Ss k0=some x) (hl:x.fields.length=V.length) (n2:Ho.length<=1048576) :
 Calls prog 243 #[.agg #[.string x.kind,fv],mv,.agg #[.string kind,.string nm,.string team,vv,.bool en,hv,.int .i64 ver]] w
  fun e w'=>∃ v' h' F,e=.returned (.agg #[.string kind,.string nm,.string team,v',.bool en,h',.int .i64 ver])/\Zw_ w w'/\Ze5 w.heap.size w' v' h' F Ho/\Znc x Ms (ZeA V x.fields) F:=by
 have HV:=Zab hV;have HH:=Zab hH;have HF:=Zab hF;have HM:=Zab hM;have HMB:=Zab hmb;have HX:=Zab hx;have h6:x.fields.length<=6:=ZcL (ZbG (ZcJ hmb) (Zcg hx).1);have n1:V.length<=6:=by omega
 obtain⟨a,cap,rfl⟩:=hV.form';obtain⟨a',cap',rfl⟩:=hH.form';obtain⟨a1,cap1,rfl⟩:=hF.form;obtain⟨ma,mcap,rfl⟩:=hM.form;have HL:=Zab hl;have HFL:Hd (x.fields.length=(ZeA V x.fields).length):=by unfold Hd;rw [Zea hl];exact hl
 clear hV hH hF hM hl hmb hx;go_enter func243,ntmps243;go_wp2;generalize hWa:w.alloc _=Wa;have hza:Wa.heap.size=w.heap.size+1:=by rw [<- hWa];simp
 have HBa:Hd (Zw_ w Wa):=by rw [<- hWa];exact Zac _ _
 have FS:Hd (Box Wa w.heap.size #[.string x.kind,.slice a1 x.fields.length cap1]):=by rw [<- hWa];exact Box.new _ _ _ _ rfl
 clear hWa;generalize hWb:Wa.alloc _=Wb;have hzb:Wb.heap.size=w.heap.size+1+1:=by rw [<- hWb];simp [hza]
 have hbb:Below Wa.heap.size Wa Wb:=by rw [<- hWb];exact Zac _ _
 have HBb:Hd (Zw_ w Wb):=HBa.o.trans (hbb.mono (by omega));have FS:=Zab (FS.o.on hbb);have FO:Hd (Box Wb (w.heap.size+1) #[.string kind,.string nm,.string team,.slice a V.length cap,.bool en,.slice a' Ho.length cap',.int .i64 ver]):=by rw [<- hWb];exact Box.new _ _ _ _ hza
 clear hWb hbb HBa;generalize hWc:Wb.alloc _=Wc;have hzc:Wc.heap.size=w.heap.size+3:=by rw [<- hWc];simp [hzb]
 have hbc:Below Wb.heap.size Wb Wc:=by rw [<- hWc];exact Zac _ _
 have HBc:Hd (Zw_ w Wc):=HBb.o.trans (hbc.mono (by omega));have FS:=Zab (FS.o.on hbc);have FO:=Zab (FO.o.on hbc);have FR:Hd (Box Wc (w.heap.size+1+1) #[.string ⟨#[]⟩,.string ⟨#[]⟩,.string ⟨#[]⟩,.slice none 0 0,.bool false,.slice none 0 0,.int .i64 0]):=by rw [<- hWc];exact Box.new _ _ _ _ hzb
 clear hWc hbc HBb hza hzb;have g1:=FS.o.cell;have gl:=FS.o.lt;have g2:=FO.o.cell;have gl2:=FO.o.lt
 go_region_with (first
  | (go_at_call 273
     refine (Zka _ _ _ _ _ _ _ _ _ V Ho x.fields _ lo (HV.o.below (HBc.o.drew)) (HH.o.below (HBc.o.drew)) (HF.o.below (HBc.o.drew)) (by omega) n2 HL.o).mono ?_;rintro e w1 ⟨v1,h1,rfl,hb1,mid1,hlo1,hmi1,hs1,hs2⟩;obtain⟨a2,cap2,rfl⟩:=hs1.form;obtain⟨a3,cap3,rfl⟩:=hs2.form;have hb1':=Zj4 hb1;have HB1:Hd (Zw_ w w1):=HBc.o.trans (hb1'.mono HBc.o.size);have g3:∀ i,w1.cell? ⟨w.heap.size,i,none⟩=(#[.string x.kind,.slice a1 x.fields.length cap1]:Array Value)[i]?:=(FS.o.on hb1').cell
     have gl3:w.heap.size < w1.heap.size:=(FS.o.on hb1').lt
     have FR1:=Zab (FR.o.on hb1');have HV1:=Zab hs1.at;have HH1:=Zab hs2.at;clear hb1 hb1' hs1 hs2 hlo1 hmi1)
  | (go_at_call 272
     refine (Zky _ _ _ _ _ _ _ _ _ (ZeA V x.fields) Ho Ss Ms x k0 _ lo lm HV1.o HH1.o (HF.o.below HB1.o) (HM.o.below HB1.o) HMB.o HX.o HFL.o n2).mono ?_;rintro e w2 ⟨v2,h2,F,rfl,hb2,⟨mid2,hlo2,hmi2,hs3,hs4⟩,hfix⟩;obtain⟨a4,cap4,rfl⟩:=hs3.form;obtain⟨a5,cap5,rfl⟩:=hs4.form;have HB2:Hd (Zw_ w w2):=HB1.o.trans (hb2.mono HB1.o.size);have hz2:=hb2.size;have FR2:=Zab (FR1.o.on hb2);have hb12:w.heap.size+3<=w1.heap.size:=by have:=FR1.o.lt;omega
     have HV2:=Zab hs3;have HH2:=Zab hs4;have HFIX:=Zab hfix;have rr:=FR2.o.cell;have rf:=FR2.o.free;have rl:=FR2.o.lt;have r0:w2.cell? ⟨w.heap.size+1+1,0,none⟩=some (.string ⟨#[]⟩):=rr 0;have r1:w2.cell? ⟨w.heap.size+1+1,1,none⟩=some (.string ⟨#[]⟩):=rr 1;have r2:w2.cell? ⟨w.heap.size+1+1,2,none⟩=some (.string ⟨#[]⟩):=rr 2;have r3:w2.cell? ⟨w.heap.size+1+1,3,none⟩=some (.slice none 0 0):=rr 3;have r4:w2.cell? ⟨w.heap.size+1+1,4,none⟩=some (.bool false):=rr 4;have r5:w2.cell? ⟨w.heap.size+1+1,5,none⟩=some (.slice none 0 0):=rr 5;have r6:w2.cell? ⟨w.heap.size+1+1,6,none⟩=some (.int .i64 0):=rr 6;clear rr;clear hb2 hs3 hs4 hfix))
 all_goals
  go_wp2;refine bodyPost_ret (v:=.agg #[.string kind,.string nm,.string team,.slice a4 F.length cap4,.bool en,.slice a5 Ho.length cap5,.int .i64 ver]) (by simp [results,results243,go_sem,r0,r1,r2,r3,r4,r5,r6]) rfl ⟨_,_,F,rfl,?_,⟨mid2,?_,?_,?_,?_⟩,HFIX.o⟩
  . repeat (refine Below.setCell ?_ (by simp only [];omega) _)
    exact HB2.o
  . omega
  . simp only [World.setCell,Array.size_modify];omega
  . refine Zad.wide (lo:=w1.heap.size) (hi:=mid2) ?_ (by omega) Zl_
    repeat (refine Zad.setCell ?_ (by simp only [];omega) _)
    exact HV2.o
  . refine Zad.wide (lo:=mid2) (hi:=w2.heap.size) ?_ Zl_ (by simp only [World.setCell,Array.size_modify];omega)
    repeat (refine Zad.setCell ?_ (by simp only [];omega) _)
    exact HH2.o
end
theorem Zis (lo lm:Nat) (kind nm team f:Zy_) (v mv vv hv:Value) (en:Bool) (ver:Int) (Fs:List Fd) (Ms:List Md) (V Ho:List Zy_) (w:World) (hF:Zau lo w v Fs) (hM:Za7 lm w mv Ms) (hV:Zaf w vv V) (hH:Zaf w hv Ho)
 (h6:Fs.length<=6) (hl:Fs.length=V.length) (hn:ZoY Fs kind Ms) (h12:Ms.length<=12) (hf:f ∈ ZaA Fs) :
 Calls prog 203 #[v,mv,.agg #[.string kind,.string nm,.string team,vv,.bool en,hv,.int .i64 ver],.string f] w fun e w'=>e=.returned (.string ((ZcB Fs kind Ms V f).getD (ZbD Fs V f)))/\Zw_ w w':=by
 have HF:=Zab hF;have HM:=Zab hM;have HVV:=Zab hV;have HN:=Zab hn;have HIN:=Zab hf;obtain⟨fa,fcap,rfl⟩:=hF.form;obtain⟨ma,mcap,rfl⟩:=hM.form;obtain⟨a,cap,rfl⟩:=hV.form';obtain⟨a',cap',rfl⟩:=hH.form';have HL:=Zab hl;have n1:V.length<=6:=by omega
 clear hF hM hV hH hn hf hl;have hpf:ZaN Fs f < Fs.length:=Zb4.2 HIN.o
 have hpfv:ZaN Fs f < V.length:=by have:=HL.o;omega
 obtain⟨vb,vo,rfl,hvb,hvc0⟩:=HVV.o.full' (by omega);go_enter func203,ntmps203;go_wp2;generalize hWa:w.alloc _=Wa;have hza:Wa.heap.size=w.heap.size+1:=by rw [<- hWa];simp
 have HBa:Hd (Zw_ w Wa):=by rw [<- hWa];exact Zac _ _
 have FO:Hd (Box Wa w.heap.size #[.string kind,.string nm,.string team,.slice (some ⟨vb,vo,none⟩) V.length cap,.bool en,.slice a' Ho.length cap',.int .i64 ver]):=by rw [<- hWa];exact Box.new _ _ _ _ rfl
 clear hWa
 go_loopw [9] (fun i wr=>∃ k:Nat,i=.int .i64 k/\k<=Ms.length/\Below Wa.heap.size Wa wr/\∀ i (h:i < Ms.length),i < k->(ZcQ kind f Ms[i]&&Zge Fs V Ms[i])=false) (fun i _=>Ms.length - (intOf i).toNat)
 case atStart=>exact⟨0,rfl,by omega,Below.refl _ _,fun i _ h=>by omega⟩
 case round=>
  obtain⟨k,rfl,hk,hb,hall⟩:=hrel;have HA:=Zab hall;have HB:=Zab hb;have HBw:Hd (Zw_ w wr):=HBa.o.trans (hb.mono (by omega));have FOr:=Zab (FO.o.on hb);clear hall hb;have g1:=FOr.o.cell;have gl:=FOr.o.lt;have hvr:vb < wr.heap.size:=Zk_ hvb HBw.o.size
  have hvc:∀ i (h:i < V.length),wr.cell? ⟨vb,vo+i,none⟩=some (.string V[i]):=fun i h=>by rw [HBw.o.cell (p:=⟨vb,_,none⟩) hvb];exact hvc0 i h
  by_cases hlt:k < Ms.length
  . obtain⟨b,off,rfl,hbw,hc⟩:=HM.o.full' (by omega)
    obtain⟨hsz,hcell⟩:=hc k hlt;obtain⟨c0,c1,c2,c3,c4,c5⟩:=hcell.below HBw.o hbw;clear hcell hc
    have HNX:Hd ((ZcQ kind f Ms[k]&&Zge Fs V Ms[k])=false->∀ i (h:i < Ms.length),i < k+1->(ZcQ kind f Ms[i]&&Zge Fs V Ms[i])=false):=fun h i hi hik=>by
     by_cases e:i=k
     . subst e;exact h
     . exact HA.o i hi (by omega)
    have HFr:∀ o n,Hd (Zau lo ((wr.alloc o).drewN n) (.slice fa Fs.length fcap) Fs):=fun o n=>HF.o.below (below_drewN (HBw.o.alloc HBw.o.size _) _)
    cases hk1:(Ms[k].kind.toList == kind.toList) with
    | false=>
     go_wp2
     go_quiet (fail)
     go_wp2;go_roundw
     . exact⟨k+1,by go_num,by omega,below_drewN (HB.o.alloc HB.o.size _) _,HNX.o (by unfold ZcQ;simp [hk1])⟩
     . simp [intOf];omega
    | true=>
     cases hf1:(Ms[k].field.toList == f.toList) with
     | false=>
      go_wp2
      go_quiet (fail)
      go_wp2;go_roundw
      . exact⟨k+1,by go_num,by omega,below_drewN (HB.o.alloc HB.o.size _) _,HNX.o (by unfold ZcQ;simp [hf1])⟩
      . simp [intOf];omega
     | true=>
      have HFOR:Hd (ZcQ kind f Ms[k]=true):=by unfold Hd ZcQ;simp [hk1,hf1]
      have HNM:=Zab (HN.o Ms[k] (List.getElem_mem hlt) (ZaF.1 hk1))
      cases hwe:Ms[k].wh.toList.isEmpty with
      | true=>
       go_wp2
       go_quiet (fail)
       cases hfe:Ms[k].fr.toList.isEmpty with
       | true=>
        have HD:Hd (ZcB Fs kind Ms V f=some (Zcf Fs V Ms[k])):=Zd7 hlt (by rw [HFOR.o];unfold Zge;simp [hwe,hfe]) HA.o;have HV2:Hd ((ZcB Fs kind Ms V f).getD (ZbD Fs V f)=Ms[k].put):=by unfold Hd;rw [HD.o];unfold Zcf;rw [if_pos hfe];rfl
        go_wp2;go_ret;exact⟨by rw [HV2.o];rfl,below_drewN (HBw.o.alloc HBw.o.size _) _⟩
       | false=>
        have hp2:ZaN Fs Ms[k].fr < Fs.length:=Zb4.2 (by rcases HNM.o.2 with h | h;rw [h] at hfe;cases hfe;exact h)
        have hp2v:ZaN Fs Ms[k].fr < V.length:=by have:=HL.o;omega
        have hpi2:ZbW Fs Ms[k].fr=(ZaN Fs Ms[k].fr:Int):=ZbB hp2;have ck2:=hvc _ hp2v;have HVA2:Hd (ZbD Fs V Ms[k].fr=V[ZaN Fs Ms[k].fr]):=by unfold Hd ZbD;rw [List.getElem?_eq_getElem hp2v];rfl
        generalize hpp2:ZaN Fs Ms[k].fr=p2 at*;go_wp2
        go_quiet ((go_at_call 200;exact (Zbf lo _ Fs Ms[k].fr _ (HFr _ _).o).mono fun _ _ h=>⟨h.1,_,h.2⟩))
        cases hve:V[p2].toList.isEmpty with
        | true=>
         go_wp2;go_roundw
         . exact⟨k+1,by go_num,by omega,(by first | exact below_drewN (HB.o.alloc HB.o.size _) _ | exact below_drewN (below_drewN (HB.o.alloc HB.o.size _) _) _),HNX.o (by unfold Zge;simp [hfe,HVA2.o,hve])⟩
         . simp [intOf];omega
        | false=>
         have HD:Hd (ZcB Fs kind Ms V f=some (Zcf Fs V Ms[k])):=Zd7 hlt (by rw [HFOR.o];unfold Zge;simp [hwe,hfe,HVA2.o,hve]) HA.o;have HV2:Hd ((ZcB Fs kind Ms V f).getD (ZbD Fs V f)=V[p2]):=by unfold Hd;rw [HD.o];unfold Zcf;rw [if_neg (by rw [hfe];simp),HVA2.o];rfl
         go_wp2;go_ret;exact⟨by rw [HV2.o];rfl,by first | exact below_drewN (HBw.o.alloc HBw.o.size _) _ | exact below_drewN (below_drewN (HBw.o.alloc HBw.o.size _) _) _⟩
      | false=>
       have hp1:ZaN Fs Ms[k].wh < Fs.length:=Zb4.2 (by rcases HNM.o.1 with h | h;rw [h] at hwe;cases hwe;exact h)
       have hp1v:ZaN Fs Ms[k].wh < V.length:=by have:=HL.o;omega
       have hpi1:ZbW Fs Ms[k].wh=(ZaN Fs Ms[k].wh:Int):=ZbB hp1;have ck1:=hvc _ hp1v;have HVA1:Hd (ZbD Fs V Ms[k].wh=V[ZaN Fs Ms[k].wh]):=by unfold Hd ZbD;rw [List.getElem?_eq_getElem hp1v];rfl
       generalize hpp1:ZaN Fs Ms[k].wh=p1 at*
       cases hvi:(V[p1].toList == Ms[k].is.toList) with
       | false=>
        go_wp2
        go_quiet ((go_at_call 200;exact (Zbf lo _ Fs Ms[k].wh _ (HFr _ _).o).mono fun _ _ h=>⟨h.1,_,h.2⟩))
        go_wp2;go_roundw
        . exact⟨k+1,by go_num,by omega,below_drewN (HB.o.alloc HB.o.size _) _,HNX.o (by unfold Zge;simp [hwe,HVA1.o,hvi])⟩
        . simp [intOf];omega
       | true=>
        go_wp2
        go_quiet ((go_at_call 200;exact (Zbf lo _ Fs Ms[k].wh _ (HFr _ _).o).mono fun _ _ h=>⟨h.1,_,h.2⟩))
        cases hfe:Ms[k].fr.toList.isEmpty with
        | true=>
         have HD:Hd (ZcB Fs kind Ms V f=some (Zcf Fs V Ms[k])):=Zd7 hlt (by rw [HFOR.o];unfold Zge;simp [hwe,HVA1.o,hvi,hfe]) HA.o;have HV2:Hd ((ZcB Fs kind Ms V f).getD (ZbD Fs V f)=Ms[k].put):=by unfold Hd;rw [HD.o];unfold Zcf;rw [if_pos hfe];rfl
         go_wp2;go_ret;exact⟨by rw [HV2.o];rfl,below_drewN (HBw.o.alloc HBw.o.size _) _⟩
        | false=>
         have hp2:ZaN Fs Ms[k].fr < Fs.length:=Zb4.2 (by rcases HNM.o.2 with h | h;rw [h] at hfe;cases hfe;exact h)
         have hp2v:ZaN Fs Ms[k].fr < V.length:=by have:=HL.o;omega
         have hpi2:ZbW Fs Ms[k].fr=(ZaN Fs Ms[k].fr:Int):=ZbB hp2;have ck2:=hvc _ hp2v;have HVA2:Hd (ZbD Fs V Ms[k].fr=V[ZaN Fs Ms[k].fr]):=by unfold Hd ZbD;rw [List.getElem?_eq_getElem hp2v];rfl
         generalize hpp2:ZaN Fs Ms[k].fr=p2 at*;go_wp2
         go_quiet ((go_at_call 200;exact (Zbf lo _ Fs Ms[k].fr _ (HFr _ _).o).mono fun _ _ h=>⟨h.1,_,h.2⟩))
         cases hve:V[p2].toList.isEmpty with
         | true=>
          go_wp2;go_roundw
          . exact⟨k+1,by go_num,by omega,(by first | exact below_drewN (HB.o.alloc HB.o.size _) _ | exact below_drewN (below_drewN (HB.o.alloc HB.o.size _) _) _),HNX.o (by unfold Zge;simp [hfe,HVA2.o,hve])⟩
          . simp [intOf];omega
         | false=>
          have HD:Hd (ZcB Fs kind Ms V f=some (Zcf Fs V Ms[k])):=Zd7 hlt (by rw [HFOR.o];unfold Zge;simp [hwe,HVA1.o,hvi,hfe,HVA2.o,hve]) HA.o;have HV2:Hd ((ZcB Fs kind Ms V f).getD (ZbD Fs V f)=V[p2]):=by unfold Hd;rw [HD.o];unfold Zcf;rw [if_neg (by rw [hfe];simp),HVA2.o];rfl
          go_wp2;go_ret;exact⟨by rw [HV2.o];rfl,by first | exact below_drewN (HBw.o.alloc HBw.o.size _) _ | exact below_drewN (below_drewN (HBw.o.alloc HBw.o.size _) _) _⟩
  . have HD:Hd (ZcB Fs kind Ms V f=none):=Zi4 fun i h=>HA.o i h (by omega)
    have HV2:Hd ((ZcB Fs kind Ms V f).getD (ZbD Fs V f)=V[ZaN Fs f]):=by unfold Hd;rw [HD.o];unfold ZbD;rw [List.getElem?_eq_getElem hpfv];rfl
    have hpi:ZbW Fs f=(ZaN Fs f:Int):=ZbB hpf;have ckf:=hvc _ hpfv;have HFr:∀ n,Hd (Zau lo (wr.drewN n) (.slice fa Fs.length fcap) Fs):=fun n=>HF.o.below (below_drewN HBw.o _)
    generalize hppf:ZaN Fs f=pf at*;go_wp2
    go_quiet ((go_at_call 200;exact Calls.quiet_of_same (Zbf lo _ Fs f _ (HFr _).o)))
    go_wp2;go_ret;exact⟨by rw [HV2.o];rfl,below_drewN HBw.o _⟩
theorem Zof {kind:Zy_}{Ms:List Md}{V:List Zy_}{f:Zy_} (hp:ZaN Fs f < V.length):setp (ZaN Fs) (ZcB Fs kind Ms) V f=V.set (ZaN Fs f) ((ZcB Fs kind Ms V f).getD (ZbD Fs V f)):=by
 unfold setp
 cases h:ZcB Fs kind Ms V f with
 | some v=>rfl
 | none=>
  unfold ZbD;rw [List.getElem?_eq_getElem hp];simp
theorem ZnF {kind:Zy_}{Ms:List Md}{V:List Zy_}{f:Zy_} (hm:∀ m ∈ Ms,ZdK m) (hv:∀ s ∈ V,s.size<=maxLen) (hp:ZaN Fs f < V.length):((ZcB Fs kind Ms V f).getD (ZbD Fs V f)).size<=maxLen:=by
 cases h:ZcB Fs kind Ms V f with
 | some v=>exact Zi5 hm hv h
 | none=>unfold ZbD;rw [List.getElem?_eq_getElem hp];exact hv _ (List.getElem_mem hp)
theorem Zjk (lo:Nat) (v:Value) (Fs:List Fd) (s:Zy_) (w:World) (hv:Zau lo w v Fs) :
 Calls prog 200 #[v,.string s] w fun e w'=>e=.returned (.int .i64 (ZbW Fs s))/\Zw_ w w':=
 (Zbf lo v Fs s w hv).mono fun _ _ h=>⟨h.1,by rw [h.2];exact Below.refl _ _⟩
abbrev Zgd (wr:World) (β:Nat) (cs:Array Value) (rb ro:Nat) (s:Zy_) (vb:Nat) (W:World):Prop:=
 (∀ i,W.cell? ⟨β,i,none⟩=cs[i]?)/\W.cell? ⟨rb,ro,none⟩=some (.string s)/\Hd (Below vb wr W/\β < W.heap.size/\rb < W.heap.size/\vb≠β/\vb≠rb)
theorem Zgd.start {s:Zy_} (h:Hd (Box wr β cs)) (h1:Hd (wr.cell? ⟨rb,ro,none⟩=some (.string s))) (hr:rb < wr.heap.size) (e1:Hd (vb≠β)) (e2:Hd (vb≠rb)):Zgd wr β cs rb ro s vb wr.drew:=
 ⟨h.o.cell,h1.o,Zb_.drew,h.o.lt,hr,e1.o,e2.o⟩
theorem Zgd.on {W':World}{s:Zy_} (h:Zgd wr β cs rb ro s vb W) (hb:Below W.heap.size W W') (hv:vb<=W.heap.size):Zgd wr β cs rb ro s vb W':=by
 obtain⟨h1,h2,h5,h6,h7,h8,h9⟩:=h;exact⟨fun i=>(hb.cell (p:=⟨β,i,none⟩) h6).trans (h1 i),(hb.cell (p:=⟨rb,ro,none⟩) h7).trans h2,h5.trans (hb.mono hv),Zk_ h6 hb.size,Zk_ h7 hb.size,h8,h9⟩
theorem Zgd.set {s:Zy_}{vo:Nat} (h:Zgd wr β cs rb ro s vb W) (u:Value):Zgd wr β cs rb ro s vb (W.setCell ⟨vb,vo,none⟩ u):=by
 obtain⟨h1,h2,h5,h6,h7,h8,h9⟩:=h;exact⟨fun i=>(World.cell?_setCell_far _ _ _ _ h8).trans (h1 i),(World.cell?_setCell_far _ _ _ _ h9).trans h2,h5.setCell Zl_ _,by simpa [World.setCell] using h6,by simpa [World.setCell] using h7,h8,h9⟩
section
variable (kind nm team:Zy_) (vv hv sv mv:Value) (en:Bool) (ver:Int) (V Ho:List Zy_) (Ss:List Sh) (Ms:List Md) (w:World) (lo lm:Nat)
theorem Zjm (hS:ZaH lo w sv Ss) (hM:Za7 lm w mv Ms) (hV:Zaf w vv V) (hH:Zaf w hv Ho) (n1:V.length<=1048576) (n2:Ho.length<=1048576) (hmb:Zax Ss Ms=true) :
 Calls prog 173 #[sv,mv,.agg #[.string kind,.string nm,.string team,vv,.bool en,hv,.int .i64 ver]] w
  fun e w'=>∃ v' h' F,e=.returned (.agg #[.string kind,.string nm,.string team,v',.bool en,h',.int .i64 ver])/\Zw_ w w'/\Ze5 w.heap.size w' v' h' F Ho/\ZkY Ss Ms kind V F:=by
 have HV:=Zab hV;have HH:=Zab hH;have HS:=Zab hS;have HM:=Zab hM;have HMB:=Zab hmb;have h12:Ms.length<=12:=Zfk hmb;obtain⟨a,cap,rfl⟩:=hV.form';obtain⟨a',cap',rfl⟩:=hH.form';obtain⟨a1,cap1,rfl⟩:=hS.form;obtain⟨ma,mcap,rfl⟩:=hM.form;clear hV hH hS hM hmb;go_enter func173,ntmps173;go_wp2_with fail;generalize hWa:w.alloc _=Wa;have hza:Wa.heap.size=w.heap.size+1:=by rw [<- hWa];simp
 have HBa:Hd (Zw_ w Wa):=by rw [<- hWa];exact Zac _ _
 have FI:Hd (Box Wa w.heap.size #[.string kind,.string nm,.string team,.slice a V.length cap,.bool en,.slice a' Ho.length cap',.int .i64 ver]):=by rw [<- hWa];exact Box.new _ _ _ _ rfl
 clear hWa;generalize hWb:Wa.alloc _=Wb;have hzb:Wb.heap.size=w.heap.size+2:=by rw [<- hWb];simp [hza]
 have hbb:Below Wa.heap.size Wa Wb:=by rw [<- hWb];exact Zac _ _
 have HBb:Hd (Zw_ w Wb):=HBa.o.trans (hbb.mono (by omega));have FI:=Zab (FI.o.on hbb);have FR:Hd (Box Wb (w.heap.size+1) #[.string ⟨#[]⟩,.string ⟨#[]⟩,.string ⟨#[]⟩,.slice none 0 0,.bool false,.slice none 0 0,.int .i64 0]):=by rw [<- hWb];exact Box.new _ _ _ _ hza
 clear hWb hbb HBa hza;refine (ZhH _ _ _ _ _ _ _ V Ho _ (HV.o.below HBb.o) (HH.o.below HBb.o) n1 n2).mono ?_;rintro e w1 ⟨v1,h1,rfl,hb1,mid,hlo,hmid,hs1,hs2⟩;obtain⟨a2,cap2,rfl⟩:=hs1.form;obtain⟨a3,cap3,rfl⟩:=hs2.form;have hz1:=hb1.size;have FI:=Zab (FI.o.on hb1);have FR:=Zab (FR.o.on hb1);have HB1:Hd (Zw_ w w1):=HBb.o.trans (hb1.mono HBb.o.size);have HS1:Hd (Zad (w.heap.size+2) mid w1 (.slice a2 V.length cap2) V):=by rw [<- hzb];exact hs1
 have HS2:=Zab hs2;have hlo':w.heap.size+2<=mid:=by omega
 clear hb1 hs1 hs2 HBb hlo;have g1:=FI.o.cell;have gl:=FI.o.lt;go_wp2_with fail;clear g1 gl;generalize hWd:w1.alloc _=Wd;have hzd:Wd.heap.size=w1.heap.size+1:=by rw [<- hWd];simp
 have hbd:Below w1.heap.size w1 Wd:=by rw [<- hWd];exact Zac _ _
 have HBd:Hd (Zw_ w Wd):=HB1.o.trans (hbd.mono HB1.o.size);have FI:=Zab (FI.o.on hbd);have FR:=Zab (FR.o.on hbd);have FO:Hd (Box Wd w1.heap.size #[.string kind,.string nm,.string team,.slice a2 V.length cap2,.bool en,.slice a3 Ho.length cap3,.int .i64 ver]):=by rw [<- hWd];exact Box.new _ _ _ _ rfl
 have HS1:=Zab (HS1.o.below hbd);have HS2:=Zab (HS2.o.below hbd);clear hWd hbd HB1;refine (Zb8 _ _ _ _ _ _ _ _ V Ho Ss _ lo w HS.o HBd.o (HV.o.below HBd.o) (HH.o.below HBd.o)).mono ?_;rintro e w2 ⟨hb2,hlf⟩;have hz2:=hb2.size;have HB2:Hd (Zw_ w w2):=HBd.o.trans (hb2.mono HBd.o.size);have FI:=Zab (FI.o.on hb2);have FR:=Zab (FR.o.on hb2);have FO:=Zab (FO.o.on hb2);have HS1:=Zab (HS1.o.below hb2);have HS2:=Zab (HS2.o.below hb2);clear hb2 HBd
 rcases hlf with ⟨x,fv,hx,hlx,rfl,hfd⟩ | ⟨hno,fa0,fcap0,rfl⟩
 . obtain⟨fa,fcap,rfl⟩:=hfd.form
   have HFD:=Zab hfd;have HX:=Zab hx;have HL:=Zab hlx;have hfb:Zaz Ss x.fields=true:=ZbG (ZcJ HMB.o) (Zcg hx).1;have h6:x.fields.length<=6:=ZcL hfb;have n6:V.length<=6:=by omega
   have HNA:Hd (ZoY x.fields kind Ms):=by unfold Hd;have:=Zk7 HMB.o hx;rw [(Zcg hx).2] at this;exact this
   have HKX:Hd (x.kind=kind):=(Zcg hx).2;have HRB:Hd (Zbk Ms x=true):=Zeq HMB.o (Zcg hx).1;have hs6:Ss.length<=6:=ZhZ (ZcJ HMB.o);clear hfd hx hlx hfb;have g1:=FI.o.cell;have gl:=FI.o.lt;go_wp2_with fail;refine (Zed lo _ Ss kind _ (HS.o.below HB2.o)).mono ?_;rintro e w2' ⟨rfl,⟨k,hk,rfl,hsh⟩ | ⟨rfl,hsh⟩⟩
   . have HXK:Hd (Ss[k]=x):=by
      have:=HX.o;rw [hsh,List.getElem?_eq_getElem hk] at this;exact Option.some.inj this
     clear hsh;obtain⟨b,off,rfl,hbw,hc⟩:=HS.o.full' (by omega);obtain⟨_,fv',d0,d1,hst⟩:=hc k hk;rw [HXK.o] at d0 hst;obtain⟨fa',fcap',rfl⟩:=hst.form;have HST:=Zab hst;have c0:w2'.cell? ⟨b,off+k*2,none⟩=some (.string x.kind):=by rw [HB2.o.cell (p:=⟨b,_,none⟩) hbw];exact d0
     have c1:w2'.cell? ⟨b,off+k*2+1,none⟩=some (.slice fa' x.fields.length fcap'):=by rw [HB2.o.cell (p:=⟨b,_,none⟩) hbw];exact d1
     clear d0 d1 hst hc;go_wp2_with fail;clear g1 gl c0 c1;refine (Zjn lo lm _ _ x Ms _ (HST.o.below HB2.o) (HM.o.below HB2.o) (by omega)).mono ?_;rintro e w3 ⟨rv,R,rfl,hb3,ho,hro⟩;have hz3:=hb3.size;have HB3:Hd (Zw_ w w3):=HB2.o.trans (hb3.mono HB2.o.size);have FR:=Zab (FR.o.on hb3);have FO:=Zab (FO.o.on hb3);have HS1:=Zab (HS1.o.below hb3);have HS2:=Zab (HS2.o.below hb3);have HO:=Zab ho;obtain⟨ra,rcap,rfl⟩:=ho.form;have HG:Hd (ZcF (ZaA x.fields) (Zam x.kind Ms) R):=hro.1;have HFIX:Hd (Znc x Ms V (ZcI (ZaN x.fields) (ZcB x.fields x.kind Ms) R V)):=Ziu hro.1 (by rw [Zef];have:=hro.2.2.2 HRB.o;omega) HL.o;have hRl:R.length<=6:=Nat.le_trans hro.2.1 h6;clear hb3 ho hro HB2;rw [HKX.o] at HG HFIX;go_wp2
     go_loopw [11] (fun i wr=>∃ j:Nat,i=.int .i64 j/\j<=R.length/\Zad (w.heap.size+2) mid wr (.slice a2 V.length cap2) (ZcI (ZaN x.fields) (ZcB x.fields kind Ms) (R.take j) V)/\Zag (w.heap.size+2) mid w3 wr) (fun i _=>R.length - (intOf i).toNat)
     case atStart=>exact⟨0,rfl,by omega,HS1.o,Zag.refl _ _ _⟩
     case round=>
      obtain⟨j,rfl,hj,hso,ht⟩:=hrel;have HSO:=Zab hso;have HT:=Zab ht;have hzr:=ht.size;have HBr:Hd (Zw_ w wr):=HB3.o.trans ((ht.under (by omega)).mono (by omega));have FRr:=Zab (FR.o.touch ht (by omega));have FOr:=Zab (FO.o.touch ht (by omega));have HOr:=Zab (HO.o.touch ht (by omega));clear hso ht HS1
      by_cases hlt:j < R.length
      . obtain⟨rb,ro,rfl,hrb,hrc⟩:=HOr.o.strs.full' (by omega)
        have ck:=hrc j hlt;clear hrc;have HLv:Hd ((ZcI (ZaN x.fields) (ZcB x.fields kind Ms) (R.take j) V).length=V.length):=ZgV _ _ _ _;have HNEXT:=Zab (ZhJ (ZaN x.fields) (ZcB x.fields kind Ms) hlt V);have HIN:Hd (R[j] ∈ ZaA x.fields):=HG.o.sub (List.getElem_mem hlt);generalize hcur:ZcI (ZaN x.fields) (ZcB x.fields kind Ms) (R.take j) V=L at*;have hp:ZaN x.fields R[j] < x.fields.length:=Zb4.2 HIN.o
        have hpL:ZaN x.fields R[j] < L.length:=by have:=HLv.o;have:=HL.o;omega
        have hpV:ZaN x.fields R[j] < V.length:=by have:=HL.o;omega
        have hpi:ZbW x.fields R[j]=(ZaN x.fields R[j]:Int):=ZbB hp;have HNX:Hd (ZcI (ZaN x.fields) (ZcB x.fields kind Ms) (R.take (j+1)) V=L.set (ZaN x.fields R[j]) ((ZcB x.fields kind Ms L R[j]).getD (ZbD x.fields L R[j]))):=by unfold Hd;rw [HNEXT.o];exact Zof hpL
        have HNS:Hd (((ZcB x.fields kind Ms L R[j]).getD (ZbD x.fields L R[j])).size<=maxLen):=ZnF HM.o.sizes HSO.o.at.sizes hpL;have hLl:L.length<=6:=by have:=HLv.o;omega
        have HSH:=Zab (HS2.o.touch HT.o (Or.inr Zl_));clear HNEXT;obtain⟨vb,vo,rfl,hVL,hvb,hv1,hv2,hvc,hvf⟩:=HSO.o.full (by omega);clear hVL;have ck3:=hvc _ hpL;have fz3:=hvf (ZaN x.fields R[j]);have g1:=FOr.o.cell;have gl:=FOr.o.lt;clear hvc hvf;generalize hpp:ZaN x.fields R[j]=p at*;generalize hdv:(ZcB x.fields kind Ms L R[j]).getD (ZbD x.fields L R[j])=dv at*;have HCK:=Zab ck;have HCK3:=Zab ck3;have HFZ3:=Zab fz3;clear ck ck3 fz3 g1 gl;have HFDr:=Zab (HFD.o.below HBr.o);have HMr:=Zab (HM.o.below HBr.o);have HE1:Hd (vb≠w1.heap.size):=by unfold Hd;omega
        have HE2:Hd (vb≠rb):=by
         have:=HOr.o.row.form (by omega);obtain⟨g,cp,e1,e2,_⟩:=this;injection e1 with e1
         injection e1 with e1
         injection e1 with e1
         unfold Hd;omega
        have hvl:vb<=wr.drew.heap.size:=Nat.le_of_lt hvb;go_wp2
        go_region_held3 (Zgd wr w1.heap.size #[.string kind,.string nm,.string team,.slice (some ⟨vb,vo,none⟩) V.length cap2,.bool en,.slice a3 Ho.length cap3,.int .i64 ver] rb (ro+j) R[j] vb)
         (first
           | (with_reducible exact Zgd.start FOr HCK hrb HE1 HE2)
           | (with_reducible exact Zgd.set (by assumption) _)
           | (with_reducible exact Zgd.on (by assumption) (by assumption) (by assumption)))
         (first
           | (go_at_call 200
              refine (Zjk lo _ x.fields R[j] _ (HFDr.o.below (Zb_.drew))).mono ?_;rintro e w4 ⟨rfl,hb4⟩;rw [hpi];have hq4:Below wr.heap.size wr w4:=Zj4 hb4;have HQ4:=Zab hq4;have hvl4:vb<=w4.heap.size:=Nat.le_trans (Nat.le_of_lt hvb) hq4.size;clear hq4)
           | (go_at_call 203
              refine (Zis lo lm _ _ _ R[j] _ _ _ _ _ _ x.fields Ms L Ho _ (HFDr.o.below HQ4.o) (HMr.o.below HQ4.o) (HSO.o.at.below HQ4.o) (HSH.o.at.below HQ4.o) h6 (HL.o.trans HLv.o.symm) HNA.o h12 HIN.o).mono ?_;rintro e w5 ⟨rfl,hb5⟩;rw [hdv];have HB5:Hd (Below wr.heap.size wr w5):=HQ4.o.trans (hb5.mono HQ4.o.size);have ck5:w5.cell? ⟨vb,vo+p,none⟩=some (.string L[p]):=(HB5.o.cell (p:=⟨vb,vo+p,none⟩) hvb).trans HCK3.o;have fz5:w5.frozen? ⟨vb,vo+p,none⟩=false:=(HB5.o.frozen (p:=⟨vb,vo+p,none⟩) hvb).trans HFZ3.o))
        all_goals
         go_wp2;go_roundw
         . exact⟨j+1,by go_num,by omega,by rw [HNX.o];exact (HSO.o.below HB5.o).put hpL HNS.o,(HT.o.trans (Zag.below HB5.o)).trans (Zag.setCell _ _ _ _ _ ⟨hv1,hv2⟩)⟩
         . simp [intOf];omega
      . have e:j=R.length:=by omega
        subst e;have HE:Hd (R.take R.length=R):=List.take_length;have g2:=FOr.o.cell;have gl2:=FOr.o.lt;have HS2r:=Zab (HS2.o.touch HT.o (Or.inr Zl_));have HR:Hd (ZkY Ss Ms kind V (ZcI (ZaN x.fields) (ZcB x.fields kind Ms) (R.take R.length) V)):=Or.inl ⟨x,HMB.o,HX.o,HL.o,by rw [HE.o];exact HFIX.o⟩;have rr:=FRr.o.cell;have rf:=FRr.o.free;have rl:=FRr.o.lt;have r0:wr.cell? ⟨w.heap.size+1,0,none⟩=some (.string ⟨#[]⟩):=rr 0;have r1:wr.cell? ⟨w.heap.size+1,1,none⟩=some (.string ⟨#[]⟩):=rr 1;have r2:wr.cell? ⟨w.heap.size+1,2,none⟩=some (.string ⟨#[]⟩):=rr 2;have r3:wr.cell? ⟨w.heap.size+1,3,none⟩=some (.slice none 0 0):=rr 3;have r4:wr.cell? ⟨w.heap.size+1,4,none⟩=some (.bool false):=rr 4;have r5:wr.cell? ⟨w.heap.size+1,5,none⟩=some (.slice none 0 0):=rr 5;have r6:wr.cell? ⟨w.heap.size+1,6,none⟩=some (.int .i64 0):=rr 6;clear rr;go_wp2
        refine bodyPost_ret (v:=.agg #[.string kind,.string nm,.string team,.slice a2 V.length cap2,.bool en,.slice a3 Ho.length cap3,.int .i64 ver]) (by simp [results,results173,go_sem,r0,r1,r2,r3,r4,r5,r6]) rfl ⟨_,_,_,rfl,?_,⟨mid,?_,?_,?_,?_⟩,HR.o⟩
        . repeat (refine Below.setCell ?_ (by simp only [];omega) _)
          exact HBr.o
        . omega
        . simp only [World.setCell,Array.size_modify];omega
        . refine Zad.wide (lo:=w.heap.size+2) (hi:=mid) ?_ (by omega) Zl_
          repeat (refine Zad.setCell ?_ (by simp only [];omega) _)
          exact HSO.o
        . refine Zad.wide (lo:=mid) (hi:=w1.heap.size) ?_ Zl_ (by simp only [World.setCell,Array.size_modify];omega)
          repeat (refine Zad.setCell ?_ (by simp only [];omega) _)
          exact HS2r.o
   . rw [hsh] at HX;cases HX.o
 . have HR:Hd (ZkY Ss Ms kind V V):=Or.inr ⟨Or.inr hno,rfl⟩
   clear hno;have g2:=FO.o.cell;have gl2:=FO.o.lt;have rr:=FR.o.cell;have rf:=FR.o.free;have rl:=FR.o.lt;have r0:w2.cell? ⟨w.heap.size+1,0,none⟩=some (.string ⟨#[]⟩):=rr 0;have r1:w2.cell? ⟨w.heap.size+1,1,none⟩=some (.string ⟨#[]⟩):=rr 1;have r2:w2.cell? ⟨w.heap.size+1,2,none⟩=some (.string ⟨#[]⟩):=rr 2;have r3:w2.cell? ⟨w.heap.size+1,3,none⟩=some (.slice none 0 0):=rr 3;have r4:w2.cell? ⟨w.heap.size+1,4,none⟩=some (.bool false):=rr 4;have r5:w2.cell? ⟨w.heap.size+1,5,none⟩=some (.slice none 0 0):=rr 5;have r6:w2.cell? ⟨w.heap.size+1,6,none⟩=some (.int .i64 0):=rr 6;clear rr;go_wp2;refine bodyPost_ret (v:=.agg #[.string kind,.string nm,.string team,.slice a2 V.length cap2,.bool en,.slice a3 Ho.length cap3,.int .i64 ver]) (by simp [results,results173,go_sem,r0,r1,r2,r3,r4,r5,r6]) rfl ⟨_,_,V,rfl,?_,⟨mid,?_,?_,?_,?_⟩,HR.o⟩
   . repeat (refine Below.setCell ?_ (by simp only [];omega) _)
     exact HB2.o
   . omega
   . simp only [World.setCell,Array.size_modify];omega
   . refine Zad.wide (lo:=w.heap.size+2) (hi:=mid) ?_ (by omega) Zl_
     repeat (refine Zad.setCell ?_ (by simp only [];omega) _)
     exact HS1.o
   . refine Zad.wide (lo:=mid) (hi:=w1.heap.size) ?_ Zl_ (by simp only [World.setCell,Array.size_modify];omega)
     repeat (refine Zad.setCell ?_ (by simp only [];omega) _)
     exact HS2.o
end
theorem Zmx {Ss:List Sh}{Ms:List Md}{kind:Zy_}{V F:List Zy_} (hm:Zax Ss Ms=true) (h:ZkY Ss Ms kind (ZgJ Ss kind V) F):Zck Ss Ms kind V F:=by
 by_cases hx:∃ x,Zca Ss kind=some x/\x.fields.length=V.length
 . obtain⟨x,h1,h2⟩:=hx
   rw [ZgK h1 h2] at h
   rcases h with ⟨y,a1,a2,a3,a4⟩ | ⟨a1,a2⟩
   . rw [h1] at a2;cases a2
     exact Or.inl ⟨x,a1,h1,h2,a4⟩
   . rcases a1 with a1 | a1
     . rw [hm] at a1;cases a1
     . exact absurd (by rw [Zea h2];exact h2) (a1 x h1)
 . have hno:∀ x,Zca Ss kind=some x->x.fields.length≠V.length:=fun x h1 h2=>hx ⟨x,h1,h2⟩
   rw [Zih hno] at h
   rcases h with ⟨y,a1,a2,a3,a4⟩ | ⟨a1,a2⟩
   . exact absurd a3 (hno y a2)
   . exact Or.inr ⟨a1,a2⟩
theorem ZnC (Ss:List Sh) (kind:Zy_) (V:List Zy_):(ZgJ Ss kind V).length=V.length:=by
 by_cases hx:∃ x,Zca Ss kind=some x/\x.fields.length=V.length
 . obtain⟨x,h1,h2⟩:=hx
   rw [ZgK h1 h2,Zea h2]
 . rw [Zih fun x h1 h2=>hx ⟨x,h1,h2⟩]
section
variable (kind nm team:Zy_) (vv hv sv mv:Value) (en:Bool) (ver:Int) (V Ho:List Zy_) (Ss:List Sh) (Ms:List Md) (w:World) (lo lm:Nat)
theorem Zjo (hS:ZaH lo w sv Ss) (hM:Za7 lm w mv Ms) (hV:Zaf w vv V) (hH:Zaf w hv Ho) (n1:V.length<=1048576) (n2:Ho.length<=1048576) (hmb:Zax Ss Ms=true) :
 Calls prog 130 #[sv,mv,.agg #[.string kind,.string nm,.string team,vv,.bool en,hv,.int .i64 ver]] w
  fun e w'=>∃ v' h' F,e=.returned (.agg #[.string kind,.string nm,.string team,v',.bool en,h',.int .i64 ver])/\Zw_ w w'/\Ze5 w.heap.size w' v' h' F Ho/\Zck Ss Ms kind V F:=by
 have HV:=Zab hV;have HH:=Zab hH;have HS:=Zab hS;have HM:=Zab hM;obtain⟨a,cap,rfl⟩:=hV.form';obtain⟨a',cap',rfl⟩:=hH.form';obtain⟨a1,cap1,rfl⟩:=hS.form;obtain⟨ma,mcap,rfl⟩:=hM.form;clear hV hH hS hM;go_enter func130,ntmps130;go_wp2_with fail;generalize hWa:w.alloc _=Wa;have hza:Wa.heap.size=w.heap.size+1:=by rw [<- hWa];simp
 have HBa:Hd (Zw_ w Wa):=by rw [<- hWa];exact Zac _ _
 have FO:Hd (Box Wa w.heap.size #[.string kind,.string nm,.string team,.slice a V.length cap,.bool en,.slice a' Ho.length cap',.int .i64 ver]):=by rw [<- hWa];exact Box.new _ _ _ _ rfl
 clear hWa;generalize hWb:Wa.alloc _=Wb;have hzb:Wb.heap.size=w.heap.size+2:=by rw [<- hWb];simp [hza]
 have hbb:Below Wa.heap.size Wa Wb:=by rw [<- hWb];exact Zac _ _
 have HBb:Hd (Zw_ w Wb):=HBa.o.trans (hbb.mono (by omega));have FO:=Zab (FO.o.on hbb);have FR:Hd (Box Wb (w.heap.size+1) #[.string ⟨#[]⟩,.string ⟨#[]⟩,.string ⟨#[]⟩,.slice none 0 0,.bool false,.slice none 0 0,.int .i64 0]):=by rw [<- hWb];exact Box.new _ _ _ _ hza
 clear hWb hbb HBa hza;refine (Zl3 _ _ _ _ _ _ _ _ V Ho Ss _ lo (HS.o.below HBb.o) (HV.o.below HBb.o) (HH.o.below HBb.o) n1 n2).mono ?_;rintro e w1 ⟨v1,h1,rfl,hb1,mid1,hlo1,hmi1,hs1,hs2⟩;obtain⟨a2,cap2,rfl⟩:=hs1.form;obtain⟨a3,cap3,rfl⟩:=hs2.form;have FR:=Zab (FR.o.on hb1);have HB1:Hd (Zw_ w w1):=HBb.o.trans (hb1.mono HBb.o.size);have hz1:=hb1.size;have HV1:=Zab hs1.at;have HH1:=Zab hs2.at;have HMB:=Zab hmb;have nf:(ZgJ Ss kind V).length<=1048576:=by rw [ZnC];exact n1
 clear hb1 HBb hs1 hs2 hlo1 hmi1 FO hmb;go_wp2_with fail;refine (Zjm _ _ _ _ _ _ _ _ _ (ZgJ Ss kind V) Ho Ss Ms _ lo lm (HS.o.below HB1.o) (HM.o.below HB1.o) HV1.o HH1.o nf n2 HMB.o).mono ?_;rintro e w2 ⟨v2,h2,F,rfl,hb2,⟨mid2,hlo2,hmi2,hs3,hs4⟩,hfix⟩;have HR:=Zab (Zmx HMB.o hfix);clear hfix;have HB2:Hd (Zw_ w w2):=HB1.o.trans (hb2.mono HB1.o.size);have hz2:=hb2.size;have FR2:=Zab (FR.o.on hb2);obtain⟨a4,cap4,rfl⟩:=hs3.form;obtain⟨a5,cap5,rfl⟩:=hs4.form;have HV2:=Zab hs3;have HH2:=Zab hs4;clear hb2 hs3 hs4;have rr:=FR2.o.cell;have rf:=FR2.o.free;have rl:=FR2.o.lt;have r0:w2.cell? ⟨w.heap.size+1,0,none⟩=some (.string ⟨#[]⟩):=rr 0;have r1:w2.cell? ⟨w.heap.size+1,1,none⟩=some (.string ⟨#[]⟩):=rr 1;have r2:w2.cell? ⟨w.heap.size+1,2,none⟩=some (.string ⟨#[]⟩):=rr 2
 have r3:w2.cell? ⟨w.heap.size+1,3,none⟩=some (.slice none 0 0):=rr 3;have r4:w2.cell? ⟨w.heap.size+1,4,none⟩=some (.bool false):=rr 4;have r5:w2.cell? ⟨w.heap.size+1,5,none⟩=some (.slice none 0 0):=rr 5;have r6:w2.cell? ⟨w.heap.size+1,6,none⟩=some (.int .i64 0):=rr 6;clear rr;go_wp2;refine bodyPost_ret (v:=.agg #[.string kind,.string nm,.string team,.slice a4 F.length cap4,.bool en,.slice a5 Ho.length cap5,.int .i64 ver]) (by simp [results,results130,go_sem,r0,r1,r2,r3,r4,r5,r6]) rfl ⟨_,_,F,rfl,?_,⟨mid2,?_,?_,?_,?_⟩,HR.o⟩
 . repeat (refine Below.setCell ?_ (by simp only [];omega) _)
   exact HB2.o
 . omega
 . simp only [World.setCell,Array.size_modify];omega
 . refine Zad.wide (lo:=w1.heap.size) (hi:=mid2) ?_ (by omega) Zl_
   repeat (refine Zad.setCell ?_ (by simp only [];omega) _)
   exact HV2.o
 . refine Zad.wide (lo:=mid2) (hi:=w2.heap.size) ?_ Zl_ (by simp only [World.setCell,Array.size_modify];omega)
   repeat (refine Zad.setCell ?_ (by simp only [];omega) _)
   exact HH2.o
end
theorem Zck.exists (Ss:List Sh) (Ms:List Md) (kind:Zy_) (V:List Zy_):∃ F,Zck Ss Ms kind V F:=by
 by_cases hm:Zax Ss Ms=true
 . by_cases hx:∃ x,Zca Ss kind=some x/\x.fields.length=V.length
   . obtain⟨x,h1,h2⟩:=hx
     obtain⟨R,hg,hl⟩:=ZjG (Zeq hm (Zcg h1).1);exact⟨_,Or.inl ⟨x,hm,h1,h2,Ziu hg hl (by rw [Zea h2];exact h2)⟩⟩
   . exact⟨V,Or.inr ⟨Or.inr fun x h1 h2=>hx ⟨x,h1,h2⟩,rfl⟩⟩
 . exact⟨V,Or.inr ⟨Or.inl (by simpa using hm),rfl⟩⟩
end Go.Proofs.YtmappejlmapboaaGreat
