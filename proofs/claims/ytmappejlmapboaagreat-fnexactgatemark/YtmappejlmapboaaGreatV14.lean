import Derived.Test.YtmappejlmapboaaGreatV12
set_option maxHeartbeats 16000000
set_option maxRecDepth 100000
open Go.Proofs.Tryz
namespace Go.Proofs.YtmappejlmapboaaGreat
open Go.RowKit Go.Deep
def Zhz (Ss:List Sh) (kind nm team:Zy_) (V Ho:List Zy_) (ver:Int):Int×Int:=
 match Zca Ss kind with
 | none=>(1,0)
 | some x=>ZaO x.fields nm team V Ho ver
theorem ZgC {Ss:List Sh}{kind nm team:Zy_}{V Ho:List Zy_}{ver:Int}{x:Sh} (h:Zca Ss kind=some x):Zhz Ss kind nm team V Ho ver=ZaO x.fields nm team V Ho ver:=by unfold Zhz;rw [h]
theorem Zi3 {Ss:List Sh}{kind nm team:Zy_}{V Ho:List Zy_}{ver:Int} (h:∀ x,Zca Ss kind=some x->x.fields.length≠V.length):Zhz Ss kind nm team V Ho ver=(1,0):=by
 unfold Zhz
 cases hx:Zca Ss kind with
 | none=>rfl
 | some x=>
  have hd:decide (V.length=x.fields.length)=false:=by simpa using fun e=>h x hx e.symm
  show ZaO x.fields nm team V Ho ver=(1,0)
  unfold ZaO ZjY;rw [hd];simp
section
variable (kind nm team:Zy_) (vv hv sv:Value) (en:Bool) (ver:Int) (V Ho:List Zy_) (Ss:List Sh) (w:World) (lo:Nat)
theorem Zkd (hS:ZaH lo w sv Ss) (hV:Zaf w vv V) (hH:Zaf w hv Ho) (s2:nm.size<=maxLen) (s3:team.size<=maxLen) :
 Calls prog 126 #[sv,.agg #[.string kind,.string nm,.string team,vv,.bool en,hv,.int .i64 ver]] w
  fun e w'=>e=.returned (.tuple #[.int .i64 (Zhz Ss kind nm team V Ho ver).1,.int .i64 (Zhz Ss kind nm team V Ho ver).2])/\Zw_ w w':=by
 have HV:=Zab hV;have HH:=Zab hH;have HS:=Zab hS;obtain⟨a,cap,rfl⟩:=hV.formz;obtain⟨a',cap',rfl⟩:=hH.formz;obtain⟨a1,cap1,rfl⟩:=hS.form;clear hV hH hS;go_enter func126,ntmps126;go_wp2_with fail;generalize hW0:w.alloc _=W0;have HB0:Hd (Zw_ w W0):=by rw [<- hW0];exact Zsk _ _
 have G0:Hd (∀ i,W0.cell? ⟨w.heap.size,i,none⟩=(#[.string kind,.string nm,.string team,.slice a V.length cap,.bool en,.slice a' Ho.length cap',.int .i64 ver]:Array Value)[i]?):=fun i=>by rw [<- hW0];exact Zjz _ _ _ _ _ rfl
 have hz0:w.heap.size < W0.heap.size:=by rw [<- hW0];simp
 clear hW0;refine (Zb8 _ _ _ _ _ _ _ _ V Ho Ss _ lo w HS.o HB0.o (HV.o.below HB0.o) (HH.o.below HB0.o)).mono ?_;rintro e w1 ⟨hb1,hsh⟩;have HB1:Hd (Zw_ w w1):=btz HB0.o hb1;have hz1:w.heap.size < w1.heap.size:=Zk_ hz0 hb1.size
 have g1:∀ i,w1.cell? ⟨w.heap.size,i,none⟩=(#[.string kind,.string nm,.string team,.slice a V.length cap,.bool en,.slice a' Ho.length cap',.int .i64 ver]:Array Value)[i]?:=fun i=>by rw [hb1.cell (p:=⟨w.heap.size,i,none⟩) hz0];exact G0.o i
 clear hb1 HB0 G0
 rcases hsh with ⟨x,fv,hx,hlen,rfl,hfd⟩ | ⟨hx,fa,fcap,rfl⟩
 . obtain⟨fa,fcap,rfl⟩:=hfd.form
   have HF:=Zab hfd;have HX:=Zab (ZgC (nm:=nm) (team:=team) (V:=V) (Ho:=Ho) (ver:=ver) hx);have HL:Hd (V.length=x.fields.length):=hlen.symm;have HD:Hd (decide (V.length=x.fields.length)=true):=by unfold Hd;simpa using HL.o
   clear hx hfd hlen
   cases hn:Zap nm with
   | false=>
    have HR:Hd (ZaO x.fields nm team V Ho ver=(1,0)):=by unfold Hd ZaO ZjY;rw [hn];simp
    go_wp2_with (first
     | (go_at_call 132;refine (Zae _ _ (by assumption)).mono ?_;rintro e w' ⟨rfl,rfl⟩)
     | (go_at_call 170;refine (Zct _ Ho _ (HH.o.below HB1.o)).mono ?_;rintro e w2 ⟨rfl,hb2⟩;have HB2:Hd (Zw_ w w2):=btz HB1.o hb2;have g2:∀ i,w2.cell? ⟨w.heap.size,i,none⟩=(#[.string kind,.string nm,.string team,.slice a V.length cap,.bool en,.slice a' Ho.length cap',.int .i64 ver]:Array Value)[i]?:=(fun i=>by rw [hb2.cell (p:=⟨w.heap.size,i,none⟩) hz1];exact g1 i);clear hb2)
     | (go_at_call 82;refine (Zao _ _ _ _).mono ?_;rintro e w5 ⟨rfl,rfl⟩))
    go_ret2
    exact⟨by rw [HX.o,HR.o];rfl,HB1.o⟩
   | true=>
    cases ht:Zap team with
    | false=>
     have HR:Hd (ZaO x.fields nm team V Ho ver=(1,0)):=by unfold Hd ZaO ZjY;rw [hn,ht];simp
     go_wp2_with (first
      | (go_at_call 132;refine (Zae _ _ (by assumption)).mono ?_;rintro e w' ⟨rfl,rfl⟩)
      | (go_at_call 170;refine (Zct _ Ho _ (HH.o.below HB1.o)).mono ?_;rintro e w2 ⟨rfl,hb2⟩;have HB2:Hd (Zw_ w w2):=btz HB1.o hb2;have g2:∀ i,w2.cell? ⟨w.heap.size,i,none⟩=(#[.string kind,.string nm,.string team,.slice a V.length cap,.bool en,.slice a' Ho.length cap',.int .i64 ver]:Array Value)[i]?:=(fun i=>by rw [hb2.cell (p:=⟨w.heap.size,i,none⟩) hz1];exact g1 i);clear hb2)
      | (go_at_call 82;refine (Zao _ _ _ _).mono ?_;rintro e w5 ⟨rfl,rfl⟩))
     go_ret2
     exact⟨by rw [HX.o,HR.o];rfl,HB1.o⟩
    | true=>
     by_cases h3:Ho.length<=3
     . have h3d:decide (Ho.length<=3)=true:=by simpa using h3
       have h3i:¬ (3 < (Ho.length:Int)):=by omega
       cases hs:Zm8 Ho with
       | false=>
        have HR:Hd (ZaO x.fields nm team V Ho ver=(1,0)):=by unfold Hd ZaO ZjY;rw [hn,ht,h3d,hs];simp
        clear h3d
        go_wp2_with (first
         | (go_at_call 132;refine (Zae _ _ (by assumption)).mono ?_;rintro e w' ⟨rfl,rfl⟩)
         | (go_at_call 170;refine (Zct _ Ho _ (HH.o.below HB1.o)).mono ?_;rintro e w2 ⟨rfl,hb2⟩;have HB2:Hd (Zw_ w w2):=btz HB1.o hb2;have g2:∀ i,w2.cell? ⟨w.heap.size,i,none⟩=(#[.string kind,.string nm,.string team,.slice a V.length cap,.bool en,.slice a' Ho.length cap',.int .i64 ver]:Array Value)[i]?:=(fun i=>by rw [hb2.cell (p:=⟨w.heap.size,i,none⟩) hz1];exact g1 i);clear hb2)
         | (go_at_call 82;refine (Zao _ _ _ _).mono ?_;rintro e w5 ⟨rfl,rfl⟩))
        go_ret2
        exact⟨by rw [HX.o,HR.o];rfl,HB2.o⟩
       | true=>
        cases hi:inB 0 1000000 ver with
        | false=>
         have HR:Hd (ZaO x.fields nm team V Ho ver=(1,0)):=by unfold Hd ZaO ZjY;rw [hn,ht,h3d,hs,hi];simp
         clear h3d
         go_wp2_with (first
          | (go_at_call 132;refine (Zae _ _ (by assumption)).mono ?_;rintro e w' ⟨rfl,rfl⟩)
          | (go_at_call 170;refine (Zct _ Ho _ (HH.o.below HB1.o)).mono ?_;rintro e w2 ⟨rfl,hb2⟩;have HB2:Hd (Zw_ w w2):=btz HB1.o hb2;have g2:∀ i,w2.cell? ⟨w.heap.size,i,none⟩=(#[.string kind,.string nm,.string team,.slice a V.length cap,.bool en,.slice a' Ho.length cap',.int .i64 ver]:Array Value)[i]?:=(fun i=>by rw [hb2.cell (p:=⟨w.heap.size,i,none⟩) hz1];exact g1 i);clear hb2)
          | (go_at_call 82;refine (Zao _ _ _ _).mono ?_;rintro e w5 ⟨rfl,rfl⟩))
         go_ret2
         exact⟨by rw [HX.o,HR.o];rfl,HB2.o⟩
        | true=>
         have HR:Hd (ZaO x.fields nm team V Ho ver=ff (Za9 x.fields V) 0):=by unfold Hd ZaO ZjY;rw [hn,ht,h3d,hs,hi,HD.o];rfl
         clear h3d
         go_wp2_with (first
          | (go_at_call 132;refine (Zae _ _ (by assumption)).mono ?_;rintro e w' ⟨rfl,rfl⟩)
          | (go_at_call 170;refine (Zct _ Ho _ (HH.o.below HB1.o)).mono ?_;rintro e w2 ⟨rfl,hb2⟩;have HB2:Hd (Zw_ w w2):=btz HB1.o hb2;have g2:∀ i,w2.cell? ⟨w.heap.size,i,none⟩=(#[.string kind,.string nm,.string team,.slice a V.length cap,.bool en,.slice a' Ho.length cap',.int .i64 ver]:Array Value)[i]?:=(fun i=>by rw [hb2.cell (p:=⟨w.heap.size,i,none⟩) hz1];exact g1 i);clear hb2)
          | (go_at_call 82;refine (Zao _ _ _ _).mono ?_;rintro e w5 ⟨rfl,rfl⟩))
         clear hn ht hs hi h3i h3 g1;have hn:=HF.o.len;unfold maxLen at hn;have hz2:w.heap.size < w5.heap.size:=by have:=HB2.o.size;have h:=World.block_lt_of_cell? w5 ⟨w.heap.size,0,none⟩ (g2 0);exact h
         have G2:=Zab g2;clear g2
         go_loopw [8] (fun i wr=>∃ k:Nat,i=.int .i64 k/\k<=x.fields.length/\Below w5.heap.size w5 wr/\∀ j (h1:j < x.fields.length) (h2:j < V.length),j < k->Zbo x.fields[j] V[j]=0) (fun i _=>x.fields.length - (intOf i).toNat)
         case atStart=>exact⟨0,rfl,by omega,Below.refl _ _,fun j _ _ h=>by omega⟩
         case round=>
          obtain⟨k,rfl,hk,hb,hall⟩:=hrel;have HA:=Zab hall;have HBB:=Zab hb;have hszr:w.heap.size < wr.heap.size:=Zk_ hz2 hb.size
          have HBr:Hd (Zw_ w wr):=btz HB2.o hb
          have hO:∀ i,wr.cell? ⟨w.heap.size,i,none⟩=(#[.string kind,.string nm,.string team,.slice a V.length cap,.bool en,.slice a' Ho.length cap',.int .i64 ver]:Array Value)[i]?:=fun i=>by
           rw [hb.cell (p:=⟨w.heap.size,i,none⟩) hz2];exact G2.o i
          clear hb hall
          by_cases hlt:k < x.fields.length
          . have hlv:k < V.length:=by have:=HL.o;omega
            obtain⟨fb,foff,rfl,hfb0,hfc⟩:=HF.o.fullz (by omega);obtain⟨hsz,wv,hcell,hst⟩:=hfc k hlt;obtain⟨c0,c1,c2,c3,c4,c5,c6,c7,c8,c9,c10⟩:=hcell.below HBr.o hfb0;obtain⟨wa,wn,wcap,rfl⟩:=hst.form;obtain⟨vb,voff,rfl,hvn,hvb0,hvc⟩:=HV.o.fullz (by omega);have hvk:wr.cell? ⟨vb,voff+k,none⟩=some (.string V[k]):=by rw [HBr.o.cell (p:=⟨vb,_,none⟩) hvb0];exact (hvc k hlv).2
            have hfb:fb < wr.heap.size:=by have:=HBr.o.size;omega
            have hvb:vb < wr.heap.size:=by have:=HBr.o.size;omega
            have HZ:=Zab (hvc k hlv).1;have HST:=Zab hst;clear hcell hst hvc hfc hsz hvn hfb0 hvb0
            cases he:V[k].toList.isEmpty with
            | true=>
             cases hm:x.fields[k].mu with
             | true=>
              have HY:Hd (ff (Za9 x.fields V) 0=(2,(k:Int))):=Zem HL.o hlt hlv (by unfold Zbo;rw [he,hm];rfl) (by decide) HA.o;rw [hm] at c7;clear HA;go_wp2
              go_ret2
              exact⟨by rw [HX.o,HR.o,HY.o];rfl,HBr.o⟩
             | false=>
              have HY:Hd (Zbo x.fields[k] V[k]=0):=by unfold Hd Zbo;rw [he,hm];rfl
              rw [hm] at c7;go_wp2;go_roundw
              case rel=>exact⟨k+1,by go_num,by omega,HBB.o,fun j h1 h2 hj=>by
                         by_cases e:j=k
                         . subst e;exact HY.o
                         . exact HA.o j h1 h2 (by omega)⟩
              . simp [intOf];omega
            | false=>
             go_wp2
             go_region_held3 (fun W=>(∀ i,W.cell? ⟨w.heap.size,i,none⟩=(#[.string kind,.string nm,.string team,.slice (some ⟨vb,voff,none⟩) V.length cap,.bool en,.slice a' Ho.length cap',.int .i64 ver]:Array Value)[i]?)/\W.cell? ⟨vb,voff+k,none⟩=some (.string V[k])/\W.cell? ⟨fb,foff+k*11,none⟩=some (.string x.fields[k].nm)/\W.cell? ⟨fb,foff+k*11+1,none⟩=some (.int .i64 x.fields[k].kd)/\W.cell? ⟨fb,foff+k*11+2,none⟩=some (.int .i64 x.fields[k].le)/\W.cell? ⟨fb,foff+k*11+3,none⟩=some (.int .i64 x.fields[k].mo)/\W.cell? ⟨fb,foff+k*11+4,none⟩=some (.slice wa wn wcap)/\W.cell? ⟨fb,foff+k*11+5,none⟩=some (.string x.fields[k].to)/\W.cell? ⟨fb,foff+k*11+6,none⟩=some (.int .i64 x.fields[k].ro)/\W.cell? ⟨fb,foff+k*11+7,none⟩=some (.bool x.fields[k].mu)/\W.cell? ⟨fb,foff+k*11+8,none⟩=some (.bool x.fields[k].fx)/\W.cell? ⟨fb,foff+k*11+9,none⟩=some (.string x.fields[k].df)/\W.cell? ⟨fb,foff+k*11+10,none⟩=some (.string x.fields[k].we))
              (first
                | (with_reducible exact⟨hO,hvk,c0,c1,c2,c3,c4,c5,c6,c7,c8,c9,c10⟩)
                | exact⟨fun i=>(hb4.cell (p:=⟨w.heap.size,i,none⟩) hszr).trans (hO i),(hb4.cell (p:=⟨vb,_,none⟩) hvb).trans hvk,(hb4.cell (p:=⟨fb,_,none⟩) hfb).trans c0,(hb4.cell (p:=⟨fb,_,none⟩) hfb).trans c1,(hb4.cell (p:=⟨fb,_,none⟩) hfb).trans c2,(hb4.cell (p:=⟨fb,_,none⟩) hfb).trans c3,(hb4.cell (p:=⟨fb,_,none⟩) hfb).trans c4,(hb4.cell (p:=⟨fb,_,none⟩) hfb).trans c5,(hb4.cell (p:=⟨fb,_,none⟩) hfb).trans c6,(hb4.cell (p:=⟨fb,_,none⟩) hfb).trans c7,(hb4.cell (p:=⟨fb,_,none⟩) hfb).trans c8,(hb4.cell (p:=⟨fb,_,none⟩) hfb).trans c9,(hb4.cell (p:=⟨fb,_,none⟩) hfb).trans c10⟩
                | exact⟨hO,hvk,c0,c1,c2,c3,c4,c5,c6,c7,c8,c9,c10⟩)
              (first
                | (go_at_call 171
                   refine (Zbn _ _ _ _ _ _ _ _ _ _ x.fields[k].words _ _ _ ((HST.o.below HBr.o).below (Zb_.drew)) HZ.o).mono ?_;rintro e w4 ⟨rfl,hb4'⟩;have hb4:Below wr.heap.size wr w4:=((Below.refl wr.heap.size wr).drew).trans (hb4'.mono Zl_);clear hb4'))
             have HB4:=Zab hb4;have HBw:Hd (Zw_ w w4):=btz HBr.o hb4;have HB5:Hd (Below w5.heap.size w5 w4):=btz HBB.o hb4;clear hb4
             cases hf:ZaL x.fields[k].kd x.fields[k].le x.fields[k].mo x.fields[k].words V[k] with
             | true=>
              have HY:Hd (Zbo x.fields[k] V[k]=0):=by unfold Hd Zbo;rw [he,hf];rfl
              go_wp2;go_roundw
              case rel=>exact⟨k+1,by go_num,by omega,HB5.o,fun j h1 h2 hj=>by
                         by_cases e:j=k
                         . subst e;exact HY.o
                         . exact HA.o j h1 h2 (by omega)⟩
              . simp [intOf];omega
             | false=>
              have HY:Hd (ff (Za9 x.fields V) 0=(3,(k:Int))):=Zem HL.o hlt hlv (by unfold Zbo;rw [he,hf];rfl) (by decide) HA.o;clear HA;go_wp2
              go_ret2
              exact⟨by rw [HX.o,HR.o,HY.o];rfl,HBw.o⟩
          . have HY:Hd (ff (Za9 x.fields V) 0=(0,0)):=ZgI HL.o (fun j h1 h2 _=>HA.o j h1 h2 (by omega))
            clear HA;go_wp2
            go_ret2
            exact⟨by rw [HX.o,HR.o,HY.o];rfl,HBr.o⟩
     . have h3d:decide (Ho.length<=3)=false:=by simpa using h3
       have h3i:3 < (Ho.length:Int):=by omega
       have HR:Hd (ZaO x.fields nm team V Ho ver=(1,0)):=by unfold Hd ZaO ZjY;rw [hn,ht,h3d];simp
       clear h3d
       go_wp2_with (first
        | (go_at_call 132;refine (Zae _ _ (by assumption)).mono ?_;rintro e w' ⟨rfl,rfl⟩)
        | (go_at_call 170;refine (Zct _ Ho _ (HH.o.below HB1.o)).mono ?_;rintro e w2 ⟨rfl,hb2⟩;have HB2:Hd (Zw_ w w2):=btz HB1.o hb2;have g2:∀ i,w2.cell? ⟨w.heap.size,i,none⟩=(#[.string kind,.string nm,.string team,.slice a V.length cap,.bool en,.slice a' Ho.length cap',.int .i64 ver]:Array Value)[i]?:=(fun i=>by rw [hb2.cell (p:=⟨w.heap.size,i,none⟩) hz1];exact g1 i);clear hb2)
        | (go_at_call 82;refine (Zao _ _ _ _).mono ?_;rintro e w5 ⟨rfl,rfl⟩))
       go_ret2
       exact⟨by rw [HX.o,HR.o];rfl,HB1.o⟩
 . have HX:=Zab (Zi3 (nm:=nm) (team:=team) (Ho:=Ho) (ver:=ver) hx)
   clear hx;go_wp2
   go_ret2
   exact⟨by rw [HX.o];rfl,HB1.o⟩
end
end Go.Proofs.YtmappejlmapboaaGreat
