import Derived.Test.YtmappejlmapboaaGreatV43
import Derived.Test.YtmappejlmapboaaGreatV47
import Derived.Maps.AppendAt
set_option maxHeartbeats 16000000
set_option maxRecDepth 100000
open Go.Proofs.Tryz
namespace Go.Proofs.YtmappejlmapboaaGreat
open Go.RowKit Go.Deep
variable {w w':World}
theorem Zoe {base:Nat}{v:Value}{n:Nat}{xs:List Value} (h:w.ownsRow base 3 1 v n xs) (hb:Zw_ w w'):w'.ownsRow base 3 1 v n xs:=
 ⟨h.1,h.2.imp id fun ⟨g,cap,cur,h0,h3,h4,h5⟩=>⟨g,cap,cur,h0,h3,(hb.block g (Array.getElem?_eq_some_iff.1 h4).1).trans h4,h5⟩⟩
theorem Box.row {β:Nat}{cs:Array Value} (h:Box w β cs) {row:Option Nat} (hg:w.grownBy w' row) (hr:row≠some β):Box w' β cs:=by
 have e:=hg.block β h.lt (fun e=>hr e.symm);exact⟨Zk_ h.lt hg.size,fun i=>(World.cell?_of_block (a:=⟨β,i,none⟩) e).trans (h.cell i),fun i=>(World.frozen?_of_block (a:=⟨β,i,none⟩) e).trans (h.free i)⟩
theorem Zrf (W:World) (o:Obj) (b:Nat) (h:b=W.heap.size):(W.alloc o).heap[b]?=some o:=by rw [h];exact heap_alloc_new W o
theorem Zms {P:Program}{S:TypeId} (hS:P.underlying S=some (.slice 3)) (i0:TypeInfo) (hi:P.info? 3=some i0) (hz0:i0.zero=some (.int .i64 0)) (hz1:i0.size=1) (hz2:i0.bytes=8) {W:World} {base:Nat} {v:Value} {L:List Int} (h:W.ownsRow base 3 1 v L.length (L.map (Value.int .i64))) (hb:base<=W.heap.size) (hl:L.length<=1099511627776) (i:Int) :
 ∃ v' W',(Builtin.append_ #[S,S] S #[v,.slice (some ⟨W.heap.size,0,none⟩) 1 1]).run P (W.alloc (.cells #[.int .i64 i] 3))=.ok v' W'/\W'.ownsRow base 3 1 v' (L ++ [i]).length ((L ++ [i]).map (Value.int .i64))/\W.grownBy W' v.ownBlock/\(∀ g,v.ownBlock=some g->base<=g):=by
 have hlow:∀ g,v.ownBlock=some g->base<=g/\g < W.heap.size:=fun g e=>by
  rcases h.2 with ⟨rfl,-⟩ | ⟨g',_,_,rfl,h3,h4,_⟩
  . cases e
  . injection e with e
    have e:g'=g:=e;subst e;exact⟨h3,(Array.getElem?_eq_some_iff.1 h4).1⟩
 have h1:(W.alloc (.cells #[.int .i64 i] 3)).ownsRow base 3 1 v L.length (L.map (Value.int .i64)):=by
  obtain⟨h1,h2⟩:=h;refine⟨h1,?_⟩
  rcases h2 with h2 | ⟨g,cap,cur,rfl,h3,h4,h5⟩
  . exact Or.inl h2
  . exact Or.inr ⟨g,cap,cur,rfl,h3,(Below.heap_alloc W _ g (Array.getElem?_eq_some_iff.1 h4).1).trans h4,h5⟩
 obtain⟨v',W',hrun,hrow,hg,-,-⟩:=run_append_own_at (P:=P) (w:=W.alloc (.cells #[.int .i64 i] 3)) base S S 3 i0 (.int .i64 0) 1 8 hS hi hz0 hz1 hz2 rfl (by decide) v L.length (L.map (Value.int .i64)) h1 ⟨W.heap.size,0,none⟩ 1 1 [.int .i64 i] rfl
  (fun j u hu=>by
    have hj:j=0:=by
     cases j with
     | zero=>rfl
     | succ j=>simp at hu
    subst hj;have:=Zbb W #[.int .i64 i] 3 W.heap.size 0 rfl;simp at hu;rw [<- hu];exact this) (fun u hu=>by simp at hu;subst hu;rfl) (by unfold maxLen;omega) (by omega) (by simp;omega)
 refine⟨v',W',hrun,by simpa using hrow,((World.grownBy_alloc W _ none).but _).trans hg,fun g e=>(hlow g e).1⟩
theorem Zl4 (lo:Nat) (sv mv tv ov gv lv pv:Value) (Ss:List Sh) (Ms:List Md) (Ts:List Tm) (B:Bk) (w:World) (hl:Zbw lo w sv mv tv Ss Ms Ts) (h:ZaX lo w ov gv lv pv B) (hs:ZiZ Ss B.os) (hn:B.os.length<=1048576) :
 Calls prog 35 #[.agg #[sv,mv,tv],.agg #[.int .i64 B.now,.int .i64 B.tick,.int .i64 B.given,ov,gv,lv,pv]] w fun e w'=>∃ v,e=.returned v/\Zw_ w w'/\Zaw w.heap.size w'.heap.size w' v (Zc1 Ss B.os B.os.length):=by
 obtain⟨i0,hi,hz0,hz1,hz2⟩:=info_parts Tryz.info3;have HI3:=Zab (And.intro hi (And.intro hz0 (And.intro hz1 hz2)));clear hi hz0 hz1 hz2;have HL:=Zab hl;have HK:=Zab h;have HSH:=Zab hs;obtain⟨sa,sc,rfl⟩:=hl.shs.form;obtain⟨ma,mc,rfl⟩:=hl.mds.form;obtain⟨ta,tc,rfl⟩:=hl.tms.form;obtain⟨a0,k0,rfl⟩:=h.obs.form;obtain⟨a1,k1,rfl⟩:=h.grs.form;obtain⟨a2,k2,rfl⟩:=h.les.form;obtain⟨a3,k3,rfl⟩:=h.pus.form;clear hl h hs;go_enter func35,ntmps35;go_wp2_with fail;generalize hWa:World.alloc (World.alloc (World.alloc w _) _) _=Wa;have HB:Hd (Zw_ w Wa):=by unfold Hd;rw [<- hWa];exact ((Zac w _).alloc (by simp) _).alloc (by simp;omega) _
 have FL:Hd (Box Wa w.heap.size #[.slice sa Ss.length sc,.slice ma Ms.length mc,.slice ta Ts.length tc]):=by unfold Hd;rw [<- hWa];exact ((Box.new _ _ _ _ rfl).on (Zac _ _)).on (Zac _ _)
 have FB:Hd (Box Wa (w.heap.size+1) #[.int .i64 B.now,.int .i64 B.tick,.int .i64 B.given,.slice a0 B.os.length k0,.slice a1 B.gs.length k1,.slice a2 B.ls.length k2,.slice a3 B.ps.length k3]):=by unfold Hd;rw [<- hWa];exact (Box.new _ _ _ _ (by simp)).on (Zac _ _)
 have FR:Hd (Wa.ownsRow (w.heap.size+2) 3 1 (.slice (some ⟨w.heap.size+1+1,0,none⟩) 0 0) (Zc1 Ss B.os 0).length ((Zc1 Ss B.os 0).map (Value.int .i64))):=by
  unfold Hd;rw [<- hWa];exact⟨rfl,Or.inr ⟨_,0,#[],rfl,by omega,Zrf _ _ _ (by simp),Nat.le_refl _,by unfold maxLen;omega,rfl,rfl⟩⟩
 clear hWa
 go_loopw [6,5] (fun q v wr=>∃ m:Nat,q=.int .i64 m/\m<=B.os.length/\Zw_ w wr/\Box wr w.heap.size #[.slice sa Ss.length sc,.slice ma Ms.length mc,.slice ta Ts.length tc]/\Box wr (w.heap.size+1) #[.int .i64 B.now,.int .i64 B.tick,.int .i64 B.given,.slice a0 B.os.length k0,.slice a1 B.gs.length k1,.slice a2 B.ls.length k2,.slice a3 B.ps.length k3]/\wr.ownsRow (w.heap.size+2) 3 1 v (Zc1 Ss B.os m).length ((Zc1 Ss B.os m).map (Value.int .i64))) (fun q _ _=>B.os.length - (intOf q).toNat)
 case atStart=>exact⟨0,rfl,Nat.zero_le _,HB.o,FL.o,FB.o,FR.o⟩
 case round=>
  obtain⟨m,rfl,hm,hb,hx,hy,hr⟩:=hrel;have HBr:=Zab hb;have HXr:=Zab hx;have HYr:=Zab hy;have HR:=Zab hr;clear hb hx hy hr HB FL FB FR;have y:=HYr.o.cell
  by_cases hlt:m < B.os.length
  . obtain⟨b,off,rfl,hbw,-,hc⟩:=HK.o.obs.full' (by omega)
    obtain⟨_,jv0,jv1,hcell,_,_⟩:=hc m hlt;have HCO:=Zab (hcell.below HBr.o hbw);have HMS:Hd (Zc1 Ss B.os (m+1)=Zc1 Ss B.os m ++ (if Zee Ss B.os m then [(m:Int)] else [])):=Zl7 _ _ _;have HMA:Hd (Zee Ss B.os m=(!B.os[m].en&&(B.os.take B.os.length).any fun e=>e.en&&Zbq Ss B.os[m] 3 e.kd e.nm)):=by unfold Hd Zee;rw [List.getElem?_eq_getElem hlt,List.take_length]
    have HNS:Hd (∀ (r:Nat) (hr:r < B.os.length) (W:World),Zw_ w W->Calls prog 72 #[.agg #[.slice sa Ss.length sc,.slice ma Ms.length mc,.slice ta Ts.length tc],.agg #[.int .i64 B.now,.int .i64 B.tick,.int .i64 B.given,.slice (some ⟨b,off,none⟩) B.os.length k0,.slice a1 B.gs.length k1,.slice a2 B.ls.length k2,.slice a3 B.ps.length k3],.int .i64 m,.int .i64 r,.int .i64 3] W fun e w'=>e=.returned (.bool (Zbq Ss B.os[m] 3 B.os[r].kd B.os[r].nm))/\Below W.heap.size W w'):=fun r hr W hW=>Zkf lo _ _ _ _ _ _ _ Ss Ms Ts B m r 3 W (HL.o.below hW) (HK.o.below hW) HSH.o hlt hr
    have HEN:Hd (∀ (r:Nat) (hr:r < B.os.length) (W:World),Zw_ w W->W.cell? ⟨b,off+r*7+4,none⟩=some (.bool B.os[r].en)):=fun r hr W hW=>by
     obtain⟨_,rv0,rv1,hcr,_,_⟩:=hc r hr;exact (hcr.below hW hbw).c4
    clear hc hcell;go_wp2;clear y;have hsw:w.heap.size<=wr.heap.size:=HBr.o.size
    go_loopw [8,7] (fun q ow ws=>∃ r:Nat,q=.int .i64 r/\r<=B.os.length/\ow=.bool ((B.os.take r).any fun e=>e.en&&Zbq Ss B.os[m] 3 e.kd e.nm)/\Below wr.heap.size wr ws) (fun q _ _=>B.os.length - (intOf q).toNat)
    case atStart=>exact⟨0,rfl,Nat.zero_le _,rfl,Below.refl _ _⟩
    case round=>
     obtain⟨r,rfl,hr,rfl,hbs⟩:=hrel;have HBs:=Zab hbs;clear hbs;have HXs:=Zab (HXr.o.on HBs.o);have HYs:=Zab (HYr.o.on HBs.o);have HBw:=Zab (bt HBr.o HBs.o);have x:=HXs.o.cell;have y:=HYs.o.cell
     by_cases hrt:r < B.os.length
     . have HAT:Hd (((B.os.take (r+1)).any fun e=>e.en&&Zbq Ss B.os[m] 3 e.kd e.nm)=(((B.os.take r).any fun e=>e.en&&Zbq Ss B.os[m] 3 e.kd e.nm) || (B.os[r].en&&Zbq Ss B.os[m] 3 B.os[r].kd B.os[r].nm))):=ZdA hrt
       have hen:=HEN.o r hrt _ HBw.o;have HNR:=Zab (HNS.o r hrt _ HBw.o);generalize hav:((B.os.take r).any fun e=>e.en&&Zbq Ss B.os[m] 3 e.kd e.nm)=av at*
       cases he:B.os[r].en with
       | false=>
        rw [he] at hen;have HE:Hd (av=((B.os.take (r+1)).any fun e=>e.en&&Zbq Ss B.os[m] 3 e.kd e.nm)):=by unfold Hd;rw [HAT.o,he,Bool.false_and,Bool.or_false]
        go_wp2;go_roundw
        case measure=>simp [intOf];omega
        case rel=>exact⟨r+1,by go_num,by omega,by rw [<- HE.o],HBs.o⟩
       | true=>
        rw [he] at hen
        cases hq:Zbq Ss B.os[m] 3 B.os[r].kd B.os[r].nm with
        | false=>
         have HE:Hd (av=((B.os.take (r+1)).any fun e=>e.en&&Zbq Ss B.os[m] 3 e.kd e.nm)):=by unfold Hd;rw [HAT.o,hq,Bool.and_false,Bool.or_false]
         go_wp2_with (first|(go_at_call 72;refine HNR.o.mono ?_;rintro e w2 ⟨rfl,hb2⟩;rw [hq]));go_roundw
         case measure=>simp [intOf];omega
         case rel=>exact⟨r+1,by go_num,by omega,by rw [<- HE.o],bt HBs.o hb2⟩
        | true=>
         have HE:Hd (true=((B.os.take (r+1)).any fun e=>e.en&&Zbq Ss B.os[m] 3 e.kd e.nm)):=by unfold Hd;rw [HAT.o,he,hq,Bool.and_true,Bool.or_true]
         go_wp2_with (first|(go_at_call 72;refine HNR.o.mono ?_;rintro e w2 ⟨rfl,hb2⟩;rw [hq]));go_roundw
         case measure=>simp [intOf];omega
         case rel=>exact⟨r+1,by go_num,by omega,by rw [<- HE.o],bt HBs.o hb2⟩
     . have hre:r=B.os.length:=by omega
       have hen:=HEN.o m hlt _ HBw.o;have HAV:Hd (Zee Ss B.os m=(!B.os[m].en&&((B.os.take r).any fun e=>e.en&&Zbq Ss B.os[m] 3 e.kd e.nm))):=by unfold Hd;rw [HMA.o,hre]
       generalize hav:((B.os.take r).any fun e=>e.en&&Zbq Ss B.os[m] 3 e.kd e.nm)=av at*;have HRs:=Zab (Zoe HR.o HBs.o);clear HR
       cases he:B.os[m].en with
       | true=>
        rw [he] at hen;have HE:Hd (Zc1 Ss B.os (m+1)=Zc1 Ss B.os m):=by unfold Hd;rw [HMS.o,HAV.o,he];simp
        go_wp2;exact⟨⟨m+1,by go_num,by omega,HBw.o,HXs.o,HYs.o,by rw [HE.o];exact HRs.o⟩,by simp [intOf];omega⟩
       | false=>
        rw [he] at hen
        cases hq:av with
        | false=>
         have HE:Hd (Zc1 Ss B.os (m+1)=Zc1 Ss B.os m):=by unfold Hd;rw [HMS.o,HAV.o,he,hq];simp
         go_wp2;exact⟨⟨m+1,by go_num,by omega,HBw.o,HXs.o,HYs.o,by rw [HE.o];exact HRs.o⟩,by simp [intOf];omega⟩
        | true=>
         have HE:Hd (Zc1 Ss B.os (m+1)=Zc1 Ss B.os m ++ [(m:Int)]):=by unfold Hd;rw [HMS.o,HAV.o,he,hq];simp
         have hll:=Zjt Ss B.os m;obtain⟨v2,W2,hrun,hrow,hg,hlow⟩:=Zms (P:=prog) (S:=35) underlying35 i0 HI3.o.1 HI3.o.2.1 HI3.o.2.2.1 HI3.o.2.2.2 HRs.o (by have:=HYs.o.lt;omega) (by omega) (m:Int);have HW2:=Zab hrow;have HX2:=Zab (HXs.o.row hg (fun e=>by have:=hlow _ e;omega));have HY2:=Zab (HYs.o.row hg (fun e=>by have:=hlow _ e;omega));have HB2:Hd (Zw_ w W2):=HBw.o.trans ⟨hg.os,hg.tape,hg.output,hg.size,fun k hk=>hg.block k (by have:=HBw.o.size;omega) (fun e=>by have:=hlow _ e.symm;omega)⟩;clear hrow hg hlow HRs;go_wp2_with (at_builtin;refine Zco rfl (.tmp 47) (.tmp 49) 35 rfl rfl rfl hrun ?_);exact⟨⟨m+1,by go_num,by omega,HB2.o,HX2.o,HY2.o,by rw [HE.o];exact HW2.o⟩,by simp [intOf];omega⟩
  . have hme:m=B.os.length:=by omega
    have HI:=Zab ((Zer HR.o).wide (by omega:w.heap.size<=w.heap.size+2) Zl_);rw [hme] at HI;go_wp2;go_ret;exact⟨_,rfl,HBr.o,HI.o⟩
end Go.Proofs.YtmappejlmapboaaGreat
