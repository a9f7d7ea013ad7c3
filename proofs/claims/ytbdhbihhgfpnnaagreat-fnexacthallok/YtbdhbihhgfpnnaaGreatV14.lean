import Derived.Test.YtbdhbihhgfpnnaaGreatV07
import Derived.Test.YtbdhbihhgfpnnaaGreatV09
set_option maxHeartbeats 16000000
set_option maxRecDepth 100000
open Go.Proofs.Tryz
namespace Go.Proofs.YtbdhbihhgfpnnaaGreat
open Go.RowKit Go.Deep
section
def Zhu (Ss:List Sh) (kind nm team:Zy_) (V Ho:List Zy_) (ver:Int):Int×Int:=
 match Zci Ss kind with
 | none=>(1,0)
 | some x=>ZaS x.fields nm team V Ho ver
theorem Zgp {Ss:List Sh}{kind nm team:Zy_}{V Ho:List Zy_}{ver:Int}{x:Sh} (h:Zci Ss kind=some x):Zhu Ss kind nm team V Ho ver=ZaS x.fields nm team V Ho ver:=by unfold Zhu;rw [h]
theorem Zi2 {Ss:List Sh}{kind nm team:Zy_}{V Ho:List Zy_}{ver:Int} (h:∀ x,Zci Ss kind=some x->x.fields.length≠V.length):Zhu Ss kind nm team V Ho ver=(1,0):=by
 unfold Zhu
 cases hx:Zci Ss kind with
 | none=>rfl
 | some x=>
  have hd:decide (V.length=x.fields.length)=false:=by simpa using fun e=>h x hx e.symm
  show ZaS x.fields nm team V Ho ver=(1,0)
  unfold ZaS Zj5;rw [hd];simp
section
variable (kind nm team:Zy_) (vv hv sv:Value) (en:Bool) (ver:Int) (V Ho:List Zy_) (Ss:List Sh) (w:World) (lo:Nat)
theorem Zkr (hS:Zba lo w sv Ss) (hV:Zae w vv V) (hH:Zae w hv Ho) (s2:nm.size<=maxLen) (s3:team.size<=maxLen) :
 Calls prog 99 #[sv,.agg #[.string kind,.string nm,.string team,vv,.bool en,hv,.int .i64 ver]] w
  fun e w'=>e=.returned (.tuple #[.int .i64 (Zhu Ss kind nm team V Ho ver).1,.int .i64 (Zhu Ss kind nm team V Ho ver).2])/\Zw_ w w':=by
 have HV:=Zab hV;have HH:=Zab hH;have HS:=Zab hS;obtain⟨a,cap,rfl⟩:=hV.formz;obtain⟨a',cap',rfl⟩:=hH.formz;obtain⟨a1,cap1,rfl⟩:=hS.form;clear hV hH hS;go_enter func99,ntmps99;go_wp2_with fail;generalize hW0:w.alloc _=W0;have HB0:Hd (Zw_ w W0):=by rw [<- hW0];exact ZsU _ _
 have G0:Hd (∀ i,W0.cell? ⟨w.heap.size,i,none⟩=(#[.string kind,.string nm,.string team,.slice a V.length cap,.bool en,.slice a' Ho.length cap',.int .i64 ver]:Array Value)[i]?):=fun i=>by rw [<- hW0];exact ZjC _ _ _ _ _ rfl
 have hz0:w.heap.size < W0.heap.size:=by rw [<- hW0];simp
 clear hW0;refine (Zcw _ _ _ _ _ _ _ _ V Ho Ss _ lo w HS.o HB0.o (HV.o.below HB0.o) (HH.o.below HB0.o)).mono ?_;rintro e w1 ⟨hb1,hsh⟩;have HB1:Hd (Zw_ w w1):=btz HB0.o hb1;have hz1:w.heap.size < w1.heap.size:=Zk_ hz0 hb1.size
 have g1:∀ i,w1.cell? ⟨w.heap.size,i,none⟩=(#[.string kind,.string nm,.string team,.slice a V.length cap,.bool en,.slice a' Ho.length cap',.int .i64 ver]:Array Value)[i]?:=fun i=>by rw [hb1.cell (p:=⟨w.heap.size,i,none⟩) hz0];exact G0.o i
 clear hb1 HB0 G0
 rcases hsh with ⟨x,fv,hx,hlen,rfl,hfd⟩ | ⟨hx,fa,fcap,rfl⟩
 . obtain⟨fa,fcap,rfl⟩:=hfd.form
   have HF:=Zab hfd;have HX:=Zab (Zgp (nm:=nm) (team:=team) (V:=V) (Ho:=Ho) (ver:=ver) hx);have HL:Hd (V.length=x.fields.length):=hlen.symm;have HD:Hd (decide (V.length=x.fields.length)=true):=by unfold Hd;simpa using HL.o
   clear hx hfd hlen
   cases hn:Zan nm with
   | false=>
    have HR:Hd (ZaS x.fields nm team V Ho ver=(1,0)):=by unfold Hd ZaS Zj5;rw [hn];simp
    go_wp2_with (first
     | (go_at_call 43;refine (Zad _ _ (by assumption)).mono ?_;rintro e w' ⟨rfl,rfl⟩)
     | (go_at_call 151;refine (Zcv _ Ho _ (HH.o.below HB1.o)).mono ?_;rintro e w2 ⟨rfl,hb2⟩;have HB2:Hd (Zw_ w w2):=btz HB1.o hb2;have g2:∀ i,w2.cell? ⟨w.heap.size,i,none⟩=(#[.string kind,.string nm,.string team,.slice a V.length cap,.bool en,.slice a' Ho.length cap',.int .i64 ver]:Array Value)[i]?:=(fun i=>by rw [hb2.cell (p:=⟨w.heap.size,i,none⟩) hz1];exact g1 i);clear hb2)
     | (go_at_call 46;refine (Zap _ _ _ _).mono ?_;rintro e w5 ⟨rfl,rfl⟩))
    go_ret2
    exact⟨by rw [HX.o,HR.o];rfl,HB1.o⟩
   | true=>
    cases ht:Zan team with
    | false=>
     have HR:Hd (ZaS x.fields nm team V Ho ver=(1,0)):=by unfold Hd ZaS Zj5;rw [hn,ht];simp
     go_wp2_with (first
      | (go_at_call 43;refine (Zad _ _ (by assumption)).mono ?_;rintro e w' ⟨rfl,rfl⟩)
      | (go_at_call 151;refine (Zcv _ Ho _ (HH.o.below HB1.o)).mono ?_;rintro e w2 ⟨rfl,hb2⟩;have HB2:Hd (Zw_ w w2):=btz HB1.o hb2;have g2:∀ i,w2.cell? ⟨w.heap.size,i,none⟩=(#[.string kind,.string nm,.string team,.slice a V.length cap,.bool en,.slice a' Ho.length cap',.int .i64 ver]:Array Value)[i]?:=(fun i=>by rw [hb2.cell (p:=⟨w.heap.size,i,none⟩) hz1];exact g1 i);clear hb2)
      | (go_at_call 46;refine (Zap _ _ _ _).mono ?_;rintro e w5 ⟨rfl,rfl⟩))
     go_ret2
     exact⟨by rw [HX.o,HR.o];rfl,HB1.o⟩
    | true=>
     by_cases h3:Ho.length<=3
     . have h3d:decide (Ho.length<=3)=true:=by simpa using h3
       have h3i:¬ (3 < (Ho.length:Int)):=by omega
       cases hs:ZmU Ho with
       | false=>
        have HR:Hd (ZaS x.fields nm team V Ho ver=(1,0)):=by unfold Hd ZaS Zj5;rw [hn,ht,h3d,hs];simp
        clear h3d
        go_wp2_with (first
         | (go_at_call 43;refine (Zad _ _ (by assumption)).mono ?_;rintro e w' ⟨rfl,rfl⟩)
         | (go_at_call 151;refine (Zcv _ Ho _ (HH.o.below HB1.o)).mono ?_;rintro e w2 ⟨rfl,hb2⟩;have HB2:Hd (Zw_ w w2):=btz HB1.o hb2;have g2:∀ i,w2.cell? ⟨w.heap.size,i,none⟩=(#[.string kind,.string nm,.string team,.slice a V.length cap,.bool en,.slice a' Ho.length cap',.int .i64 ver]:Array Value)[i]?:=(fun i=>by rw [hb2.cell (p:=⟨w.heap.size,i,none⟩) hz1];exact g1 i);clear hb2)
         | (go_at_call 46;refine (Zap _ _ _ _).mono ?_;rintro e w5 ⟨rfl,rfl⟩))
        go_ret2
        exact⟨by rw [HX.o,HR.o];rfl,HB2.o⟩
       | true=>
        cases hi:inB 0 1000000 ver with
        | false=>
         have HR:Hd (ZaS x.fields nm team V Ho ver=(1,0)):=by unfold Hd ZaS Zj5;rw [hn,ht,h3d,hs,hi];simp
         clear h3d
         go_wp2_with (first
          | (go_at_call 43;refine (Zad _ _ (by assumption)).mono ?_;rintro e w' ⟨rfl,rfl⟩)
          | (go_at_call 151;refine (Zcv _ Ho _ (HH.o.below HB1.o)).mono ?_;rintro e w2 ⟨rfl,hb2⟩;have HB2:Hd (Zw_ w w2):=btz HB1.o hb2;have g2:∀ i,w2.cell? ⟨w.heap.size,i,none⟩=(#[.string kind,.string nm,.string team,.slice a V.length cap,.bool en,.slice a' Ho.length cap',.int .i64 ver]:Array Value)[i]?:=(fun i=>by rw [hb2.cell (p:=⟨w.heap.size,i,none⟩) hz1];exact g1 i);clear hb2)
          | (go_at_call 46;refine (Zap _ _ _ _).mono ?_;rintro e w5 ⟨rfl,rfl⟩))
         go_ret2
         exact⟨by rw [HX.o,HR.o];rfl,HB2.o⟩
        | true=>
         have HR:Hd (ZaS x.fields nm team V Ho ver=ff (Zbg x.fields V) 0):=by unfold Hd ZaS Zj5;rw [hn,ht,h3d,hs,hi,HD.o];rfl
         clear h3d
         go_wp2_with (first
          | (go_at_call 43;refine (Zad _ _ (by assumption)).mono ?_;rintro e w' ⟨rfl,rfl⟩)
          | (go_at_call 151;refine (Zcv _ Ho _ (HH.o.below HB1.o)).mono ?_;rintro e w2 ⟨rfl,hb2⟩;have HB2:Hd (Zw_ w w2):=btz HB1.o hb2;have g2:∀ i,w2.cell? ⟨w.heap.size,i,none⟩=(#[.string kind,.string nm,.string team,.slice a V.length cap,.bool en,.slice a' Ho.length cap',.int .i64 ver]:Array Value)[i]?:=(fun i=>by rw [hb2.cell (p:=⟨w.heap.size,i,none⟩) hz1];exact g1 i);clear hb2)
          | (go_at_call 46;refine (Zap _ _ _ _).mono ?_;rintro e w5 ⟨rfl,rfl⟩))
         clear hn ht hs hi h3i h3 g1;have hn:=HF.o.len;unfold maxLen at hn;have hz2:w.heap.size < w5.heap.size:=by have:=HB2.o.size;have h:=World.block_lt_of_cell? w5 ⟨w.heap.size,0,none⟩ (g2 0);exact h
         have G2:=Zab g2;clear g2
         go_loopw [8] (fun i wr=>∃ k:Nat,i=.int .i64 k/\k<=x.fields.length/\Below w5.heap.size w5 wr/\∀ j (h1:j < x.fields.length) (h2:j < V.length),j < k->Zbq x.fields[j] V[j]=0) (fun i _=>x.fields.length - (intOf i).toNat)
         case atStart=>exact⟨0,rfl,by omega,Below.refl _ _,fun j _ _ h=>by omega⟩
         case round=>
          obtain⟨k,rfl,hk,hb,hall⟩:=hrel;have HA:=Zab hall;have HBB:=Zab hb;have hszr:w.heap.size < wr.heap.size:=Zk_ hz2 hb.size
          have HBr:Hd (Zw_ w wr):=btz HB2.o hb
          have hO:∀ i,wr.cell? ⟨w.heap.size,i,none⟩=(#[.string kind,.string nm,.string team,.slice a V.length cap,.bool en,.slice a' Ho.length cap',.int .i64 ver]:Array Value)[i]?:=fun i=>by
           rw [hb.cell (p:=⟨w.heap.size,i,none⟩) hz2];exact G2.o i
          clear hb hall
          by_cases hlt:k < x.fields.length
          . have hlv:k < V.length:=by have:=HL.o;omega
            obtain⟨fb,foff,rfl,hfb0,hfc⟩:=HF.o.fullz (by omega);obtain⟨hsz,wv,hcell,hst⟩:=hfc k hlt;obtain⟨c0,c1,c2,c3,c4,c5,c6,c7,c8,c9,c10⟩:=hcell.below HBr.o hfb0;obtain⟨wa,wn,wcap,rfl⟩:=hst.form;obtain⟨vb,voff,rfl,hvn,hvb0,hvc⟩:=HV.o.fullz (by omega);have hvk:wr.cell? ⟨vb,voff+k,none⟩=some (.string V[k]):=by rw [HBr.o.cell (p:=⟨vb,_,none⟩) hvb0];exact (hvc k hlv).2
            have hfb:fb < wr.heap.size:=by have:=HBr.o.size;omega
            have hvb:vb < wr.heap.size:=by have:=HBr.o.size;omega
            have HZ:=Zab (hvc k hlv).1;have HST:=Zab hst;clear hcell hst hvc hfc hsz hvn hfb0 hvb0
            cases he:V[k].toList.isEmpty with
            | true=>
             cases hm:x.fields[k].mu with
             | true=>
              have HY:Hd (ff (Zbg x.fields V) 0=(2,(k:Int))):=Zei HL.o hlt hlv (by unfold Zbq;rw [he,hm];rfl) (by decide) HA.o;rw [hm] at c7;clear HA;go_wp2
              go_ret2
              exact⟨by rw [HX.o,HR.o,HY.o];rfl,HBr.o⟩
             | false=>
              have HY:Hd (Zbq x.fields[k] V[k]=0):=by unfold Hd Zbq;rw [he,hm];rfl
              rw [hm] at c7;go_wp2;go_roundw
              case rel=>exact⟨k+1,by go_num,by omega,HBB.o,fun j h1 h2 hj=>by
                         by_cases e:j=k
                         . subst e;exact HY.o
                         . exact HA.o j h1 h2 (by omega)⟩
              . simp [intOf];omega
            | false=>
             go_wp2
             go_region_held3 (fun W=>(∀ i,W.cell? ⟨w.heap.size,i,none⟩=(#[.string kind,.string nm,.string team,.slice (some ⟨vb,voff,none⟩) V.length cap,.bool en,.slice a' Ho.length cap',.int .i64 ver]:Array Value)[i]?)/\W.cell? ⟨vb,voff+k,none⟩=some (.string V[k])/\W.cell? ⟨fb,foff+k*11,none⟩=some (.string x.fields[k].nm)/\W.cell? ⟨fb,foff+k*11+1,none⟩=some (.int .i64 x.fields[k].kd)/\W.cell? ⟨fb,foff+k*11+2,none⟩=some (.int .i64 x.fields[k].le)/\W.cell? ⟨fb,foff+k*11+3,none⟩=some (.int .i64 x.fields[k].mo)/\W.cell? ⟨fb,foff+k*11+4,none⟩=some (.slice wa wn wcap)/\W.cell? ⟨fb,foff+k*11+5,none⟩=some (.string x.fields[k].to)/\W.cell? ⟨fb,foff+k*11+6,none⟩=some (.int .i64 x.fields[k].ro)/\W.cell? ⟨fb,foff+k*11+7,none⟩=some (.bool x.fields[k].mu)/\W.cell? ⟨fb,foff+k*11+8,none⟩=some (.bool x.fields[k].fx)/\W.cell? ⟨fb,foff+k*11+9,none⟩=some (.string x.fields[k].df)/\W.cell? ⟨fb,foff+k*11+10,none⟩=some (.string x.fields[k].we))
              (first
                | (with_reducible exact⟨hO,hvk,c0,c1,c2,c3,c4,c5,c6,c7,c8,c9,c10⟩)
                | exact⟨fun i=>(hb4.cell (p:=⟨w.heap.size,i,none⟩) hszr).trans (hO i),(hb4.cell (p:=⟨vb,_,none⟩) hvb).trans hvk,(hb4.cell (p:=⟨fb,_,none⟩) hfb).trans c0,(hb4.cell (p:=⟨fb,_,none⟩) hfb).trans c1,(hb4.cell (p:=⟨fb,_,none⟩) hfb).trans c2,(hb4.cell (p:=⟨fb,_,none⟩) hfb).trans c3,(hb4.cell (p:=⟨fb,_,none⟩) hfb).trans c4,(hb4.cell (p:=⟨fb,_,none⟩) hfb).trans c5,(hb4.cell (p:=⟨fb,_,none⟩) hfb).trans c6,(hb4.cell (p:=⟨fb,_,none⟩) hfb).trans c7,(hb4.cell (p:=⟨fb,_,none⟩) hfb).trans c8,(hb4.cell (p:=⟨fb,_,none⟩) hfb).trans c9,(hb4.cell (p:=⟨fb,_,none⟩) hfb).trans c10⟩
                | exact⟨hO,hvk,c0,c1,c2,c3,c4,c5,c6,c7,c8,c9,c10⟩)
              (first
                | (go_at_call 152
                   refine (Zbp _ _ _ _ _ _ _ _ _ _ x.fields[k].words _ _ _ ((HST.o.below HBr.o).below (Zb_.drew)) HZ.o).mono ?_;rintro e w4 ⟨rfl,hb4'⟩;have hb4:Below wr.heap.size wr w4:=((Below.refl wr.heap.size wr).drew).trans (hb4'.mono Zl_);clear hb4'))
             have HB4:=Zab hb4;have HBw:Hd (Zw_ w w4):=btz HBr.o hb4;have HB5:Hd (Below w5.heap.size w5 w4):=btz HBB.o hb4;clear hb4
             cases hf:ZaN x.fields[k].kd x.fields[k].le x.fields[k].mo x.fields[k].words V[k] with
             | true=>
              have HY:Hd (Zbq x.fields[k] V[k]=0):=by unfold Hd Zbq;rw [he,hf];rfl
              go_wp2;go_roundw
              case rel=>exact⟨k+1,by go_num,by omega,HB5.o,fun j h1 h2 hj=>by
                         by_cases e:j=k
                         . subst e;exact HY.o
                         . exact HA.o j h1 h2 (by omega)⟩
              . simp [intOf];omega
             | false=>
              have HY:Hd (ff (Zbg x.fields V) 0=(3,(k:Int))):=Zei HL.o hlt hlv (by unfold Zbq;rw [he,hf];rfl) (by decide) HA.o;clear HA;go_wp2
              go_ret2
              exact⟨by rw [HX.o,HR.o,HY.o];rfl,HBw.o⟩
          . have HY:Hd (ff (Zbg x.fields V) 0=(0,0)):=Zgu HL.o (fun j h1 h2 _=>HA.o j h1 h2 (by omega))
            clear HA;go_wp2
            go_ret2
            exact⟨by rw [HX.o,HR.o,HY.o];rfl,HBr.o⟩
     . have h3d:decide (Ho.length<=3)=false:=by simpa using h3
       have h3i:3 < (Ho.length:Int):=by omega
       have HR:Hd (ZaS x.fields nm team V Ho ver=(1,0)):=by unfold Hd ZaS Zj5;rw [hn,ht,h3d];simp
       clear h3d
       go_wp2_with (first
        | (go_at_call 43;refine (Zad _ _ (by assumption)).mono ?_;rintro e w' ⟨rfl,rfl⟩)
        | (go_at_call 151;refine (Zcv _ Ho _ (HH.o.below HB1.o)).mono ?_;rintro e w2 ⟨rfl,hb2⟩;have HB2:Hd (Zw_ w w2):=btz HB1.o hb2;have g2:∀ i,w2.cell? ⟨w.heap.size,i,none⟩=(#[.string kind,.string nm,.string team,.slice a V.length cap,.bool en,.slice a' Ho.length cap',.int .i64 ver]:Array Value)[i]?:=(fun i=>by rw [hb2.cell (p:=⟨w.heap.size,i,none⟩) hz1];exact g1 i);clear hb2)
        | (go_at_call 46;refine (Zap _ _ _ _).mono ?_;rintro e w5 ⟨rfl,rfl⟩))
       go_ret2
       exact⟨by rw [HX.o,HR.o];rfl,HB1.o⟩
 . have HX:=Zab (Zi2 (nm:=nm) (team:=team) (Ho:=Ho) (ver:=ver) hx)
   clear hx;go_wp2
   go_ret2
   exact⟨by rw [HX.o];rfl,HB1.o⟩
end
end
variable {k:Nat}
def Zlo:Value->Nat
 | .slice _ n _=>n
 | _=>0
def Zly (N:List Zy_) (rd:Zy_->List Zy_) (R:List Zy_) (k:Nat):Prop:=∀ i (h:i < N.length),i < k->N[i] ∈ R\/¬ ∀ r ∈ rd N[i],r ∈ R
theorem Zly.stuck {N:List Zy_}{rd:Zy_->List Zy_}{R:List Zy_} (h:Zly N rd R k) (hk:N.length<=k):Zh4 N rd R:=by
 intro x hx hn;obtain⟨i,hi,rfl⟩:=List.getElem_of_mem hx
 rcases h i hi (by omega) with h1 | h1
 . exact absurd h1 hn
 . exact h1
theorem Zly.succ {N:List Zy_}{rd:Zy_->List Zy_}{R:List Zy_} (h:Zly N rd R k) (hk:k < N.length) (hx:N[k] ∈ R\/¬ ∀ r ∈ rd N[k],r ∈ R):Zly N rd R (k+1):=by
 intro i hi hik
 by_cases e:i=k
 . subst e;exact hx
 . exact h i hi (by omega)
theorem Zjh {N:List Zy_}{rd:Zy_->List Zy_}{R:List Zy_} (h:ZcF N rd R):R.length<=N.length:=List.Nodup.length_le_of_subset h.nodup h.sub
def Zsq (N:List Zy_) (rd:Zy_->List Zy_) (R R':List Zy_) (k:Nat):Prop:=(R'=R/\Zly N rd R k)\/R.length < R'.length
def ZsW (base:Nat) (N:List Zy_) (rd:Zy_->List Zy_) (e:Ending) (w':World):Prop:=
 (∃ v R,e=.returned (.tuple #[v,.bool true])/\Zdw base w' v R/\ZcF N rd R/\N.length<=R.length)\/
 (ZmX N rd=false/\e=.returned (.tuple #[.slice none 0 0,.bool false]))
theorem Zdw.room {base:Nat} (W:World) (n g:Nat) (hg:W.heap.size=g) (hb:base<=g) (hn:n<=maxLen):Zdw base (W.alloc (.cells (madeCells #[.string ⟨#[]⟩] n) 9)) (.slice (some ⟨g,0,none⟩) 0 n) []:=by
 subst hg;exact⟨World.ownsRow_made (base:=base) (e:=9) (size:=1) W _ n hb hn (by rw [size_madeCells,Nat.mul_one]),fun s h=>by simp at h⟩
theorem Zkn (lo:Nat) (tv mv:Value) (N:List Zy_) (Ms:List Md) (kind:Zy_) (B1 B2:Nat) (w:World) (ht:Zae w tv N) (hnn:N.length<=1048576) (hb1:B1 < w.heap.size) (hb2:B2 < w.heap.size)
 (h1:w.cell? ⟨B1,0,none⟩=some (.string kind)) (h2:w.cell? ⟨B2,0,none⟩=some mv) (hv:ZbY lo w mv Ms) (hn:Ms.length<=1048576) :
 Calls prog 236 #[tv,.func (.func 237) #[] #[.pointer (some ⟨B1,0,none⟩),.pointer (some ⟨B2,0,none⟩)]] w fun e w'=>Zw_ w w'/\ZsW w.heap.size N (Zao kind Ms) e w':=by
 obtain⟨i0,hi,hz0,hz1,hz2⟩:=info_parts Tryz.info9;have HT:=Zab ht;have HV:=Zab hv;have H1:=Zab h1;have H2:=Zab h2;obtain⟨ta,tcap,rfl⟩:=ht.form_len;clear ht hv h1 h2
 have hmk:∀ u:World,(Instr.makeSlice 107 (.int .i64 0) (.int .i64 (N.length:Int))).run prog u=.ok (.slice (some ⟨u.heap.size,0,none⟩) 0 N.length) (u.alloc (.cells (madeCells #[.string ⟨#[]⟩] N.length) 9)):=fun u=>by
  have h:=run_make (P:=prog) u 107 9 i0 _ underlying107 hi hz0 .i64 .i64 0 N.length (by omega) (by omega) (by rw [hz2];omega) (by omega);have ec:(Value.string ⟨#[]⟩).cells=#[.string ⟨#[]⟩]:=rfl;rw [hz1,ec] at h
  simpa using h
 have HI:=Zab (And.intro hi (And.intro hz0 (And.intro hz1 hz2)));clear hi hz0 hz1 hz2;go_enter func236,ntmps236;go_wp2;clear hmk
 go_loopw [6] (fun r wr=>∃ R:List Zy_,Zdw w.heap.size wr r R/\Zw_ w wr/\ZcF N (Zao kind Ms) R) (fun r _=>N.length - Zlo r)
 case atStart=>exact⟨[],Zdw.room w _ _ rfl Zl_ (by unfold maxLen;omega),Zb_.alloc Zl_ _,ZcF.nil⟩
 case round=>
  obtain⟨R,hown,hb,hgood⟩:=hrel;have HO:=Zab hown;have HB:=Zab hb;have HG:=Zab hgood;obtain⟨ra,rcap,rfl⟩:=hown.form;have hRl:R.length<=N.length:=Zjh hgood;clear hown hb hgood
  by_cases hlt:R.length < N.length
  . go_wp2
    go_loopw [6,22] (fun r i wr=>∃ (k:Nat) (R':List Zy_),i=.int .i64 k/\k<=N.length/\Zdw w.heap.size wr r R'/\Zw_ w wr/\ZcF N (Zao kind Ms) R'/\Zsq N (Zao kind Ms) R R' k) (fun _ i _=>N.length - (intOf i).toNat)
    case atStart=>exact⟨0,R,rfl,by omega,HO.o,HB.o,HG.o,Or.inl ⟨rfl,fun i _ h=>by omega⟩⟩
    case round=>
     obtain⟨k,R',rfl,hk,hown,hb,hgood,hpass⟩:=hrel;have HO':=Zab hown;have HB':=Zab hb;have HG':=Zab hgood;have HP:=Zab hpass;obtain⟨ra',rcap',rfl⟩:=hown.form;have hRl':R'.length<=N.length:=Zjh hgood;clear hown hb hgood hpass HO HB
     by_cases hkl:k < N.length
     . obtain⟨tb,toff,htw,hta,hcN,hszN⟩:∃ tb toff,tb < w.heap.size/\ta=some ⟨tb,toff,none⟩/\(∀ i (h:i < N.length),w.cell? ⟨tb,toff+i,none⟩=some (.string N[i]))/\∀ s ∈ N,s.size<=maxLen:=by
        rcases HT.o with ⟨_,_,_,h⟩ | ⟨b,off,cap,h1,h2,h3,h4,h5,h6⟩
        . rw [h] at hkl;simp at hkl
        . injection h1 with e1 e2 e3;exact⟨b,off,h4,e1,h5,h6⟩
       subst hta;have ck:wr.cell? ⟨tb,toff+k,none⟩=some (.string N[k]):=by rw [HB'.o.cell (p:=⟨tb,_,none⟩) htw];exact hcN k hkl
       have HSZ:Hd (N[k].size<=maxLen):=hszN _ (List.getElem_mem hkl);clear hcN hszN;go_wp2_with fail;refine (Zc8 _ R' N[k] _ HO'.o.strs).mono ?_;rintro e w1 ⟨rfl,rfl⟩
       cases hh:ZdC R' N[k] with
       | true=>
        have HNX:Hd (Zsq N (Zao kind Ms) R R' (k+1)):=by
         rcases HP.o with ⟨e1,e2⟩ | h
         . subst e1;exact Or.inl ⟨rfl,e2.succ hkl (Or.inl (Zc9.1 hh))⟩
         . exact Or.inr h
        go_wp2;go_roundw
        . exact⟨k+1,R',by go_num,by omega,HO'.o,HB'.o,HG'.o,HNX.o⟩
        . simp [intOf];omega
       | false=>
        go_wp2_with fail;refine (ZkJ lo mv Ms kind N[k] B1 B2 _ (by rw [HB'.o.cell (p:=⟨B1,0,none⟩) hb1];exact H1.o) (by rw [HB'.o.cell (p:=⟨B2,0,none⟩) hb2];exact H2.o) (HV.o.below HB'.o) hn).mono ?_;rintro e w2 ⟨v2,rfl,hbw2,ho2⟩;have HO2:=Zab (HO'.o.below hbw2);have HB2:Hd (Zw_ w w2):=HB'.o.trans (hbw2.mono HB'.o.size);have HS2:=Zab ho2.strs;obtain⟨va,vcap,rfl⟩:=ho2.form;clear hbw2 ho2 ck;go_wp2_with fail;refine (ZiU _ _ R' (Zao kind Ms N[k]) _ HO2.o.strs HS2.o).mono ?_;rintro e w3 ⟨rfl,rfl⟩
        cases hrd:(Zao kind Ms N[k]).all (ZdC R') with
        | false=>
         have HNX:Hd (Zsq N (Zao kind Ms) R R' (k+1)):=by
          rcases HP.o with ⟨e1,e2⟩ | h
          . subst e1;exact Or.inl ⟨rfl,e2.succ hkl (Or.inr fun h=>by have:=Zc0.2 h;unfold Zfb at this;rw [this] at hrd;cases hrd)⟩
          . exact Or.inr h
         go_wp2;go_roundw
         . exact⟨k+1,R',by go_num,by omega,HO2.o,HB2.o,HG'.o,HNX.o⟩
         . simp [intOf];omega
        | true=>
         have HG1:Hd (ZcF N (Zao kind Ms) (R' ++ [N[k]])):=ZcF.snoc HG'.o (List.getElem_mem hkl) (Zij hh) (Zc0.1 hrd)
         have HNX:Hd (Zsq N (Zao kind Ms) R (R' ++ [N[k]]) (k+1)):=by
          refine Or.inr ?_;rw [List.length_append]
          rcases HP.o with ⟨e1,_⟩ | h
          . subst e1;simp
          . simp;omega
         clear hh hrd;go_wp2_with (at_builtin;refine wpList_append_lies _ rfl (.tmp 37) (.tmp 39) 107 rfl w.heap.size 9 i0 (.string ⟨#[]⟩) 1 16 underlying107 HI.o.1 HI.o.2.1 HI.o.2.2.1 HI.o.2.2.2 rfl (by decide) _ _ _ rfl (HO2.o.below (Zb_.alloc Zl_ _)).row ⟨w3.heap.size,0,none⟩ 1 1 [.string N[k]] rfl rfl (Ze1 _ _ _ _ rfl) (ZdG _) (by decide) (by unfold maxLen;omega) (by omega) (by have:=HB2.o.size;simp;omega) _ rfl ?_;intro g cap1 w4 hown4 hgrow4 hat4 hlt4);go_roundw
         . exact⟨k+1,R' ++ [N[k]],by go_num,by omega,HO2.o.snoc hown4 HSZ.o,(HB2.o.alloc HB2.o.size _).trans ((HO2.o.below (Zb_.alloc Zl_ _)).grown hgrow4 (by have:=HB2.o.size;simp;omega)),HG1.o,HNX.o⟩
         . simp [intOf];omega
     . by_cases hgr:(R'.length:Int)=(R.length:Int)
       . have HNO:Hd (ZmX N (Zao kind Ms)=false):=by
          rcases HP.o with ⟨e1,e2⟩ | h
          . subst e1;exact Zn4 (e2.stuck (by omega)) hlt
          . omega
         go_wp2;refine bodyPost_ret (v:=.tuple #[.slice none 0 0,.bool false]) (by simp [results,results236,go_sem]) rfl ⟨HB'.o,Or.inr ⟨HNO.o,rfl⟩⟩
       . have hgt:R.length < R'.length:=by
          rcases HP.o with ⟨e1,e2⟩ | h
          . subst e1;omega
          . exact h
         go_wp2;exact⟨⟨R',HO'.o,HB'.o,HG'.o⟩,by simp only [Zlo];omega⟩
  . go_wp2
    refine bodyPost_ret (v:=.tuple #[.slice ra R.length rcap,.bool true]) (by simp [results,results236,go_sem]) rfl ⟨HB.o,Or.inl ⟨_,R,rfl,HO.o,HG.o,by omega⟩⟩
theorem Zck.below {wr w1:World}{B:Nat}{L:List Zy_} (h:Zck wr B L k) (hb:Below wr.heap.size wr w1):Zck w1 B L k:=World.rowIs.of_block h (hb.block B (World.rowIs.lt h))
theorem ZfA (lo lm:Nat) (fv mv:Value) (x:Sh) (Ms:List Md) (w0 w:World) (hf:ZaU lo w0 fv x.fields) (h0:Below w0.heap.size w0 w) (hv:ZbY lm w mv Ms) (hn:x.fields.length<=1048576) (hm:Ms.length<=1048576) :
 Calls prog 201 #[.agg #[.string x.kind,fv],mv] w fun e w'=>Zw_ w w'/\ZsW w.heap.size (ZaG x.fields) (Zao x.kind Ms) e w':=by
 have HF:=Zab hf;have H0:=Zab h0;have HV:=Zab hv;obtain⟨a,cap,rfl⟩:=hf.form;obtain⟨ma,mcap,rfl⟩:=hv.form;clear hf hv h0;have hNl:=Zd8 x.fields
 have hmk:∀ u:World,(Instr.makeSlice 107 (.int .i64 (x.fields.length:Int)) (.int .i64 (x.fields.length:Int))).run prog u=.ok (.slice (some ⟨u.heap.size,0,none⟩) x.fields.length x.fields.length) (u.alloc (.cells (madeCells #[.string ⟨#[]⟩] x.fields.length) 9)):=
  fun u=>run_make_row' 107 9 (.string ⟨#[]⟩) 16 underlying107 Tryz.info9 rfl .i64 .i64 x.fields.length (by omega) (by omega) u
 go_enter func201,ntmps201;go_wp2;clear hmk;generalize hWa:w.alloc _=Wa;have hza:Wa.heap.size=w.heap.size+1:=by rw [<- hWa];simp
 have HBa:Hd (Zw_ w Wa):=by rw [<- hWa];exact Zac _ _
 have FS:Hd (Box Wa w.heap.size #[.string x.kind,.slice a x.fields.length cap]):=by rw [<- hWa];exact Box.new _ _ _ _ rfl
 clear hWa;generalize hWb:Wa.alloc _=Wb;have hzb:Wb.heap.size=w.heap.size+1+1:=by rw [<- hWb];simp [hza]
 have hbb:Below Wa.heap.size Wa Wb:=by rw [<- hWb];exact Zac _ _
 have HBb:Hd (Zw_ w Wb):=HBa.o.trans (hbb.mono (by omega));have FS:=Zab (FS.o.on hbb);have FM:Hd (Box Wb (w.heap.size+1) #[.slice ma Ms.length mcap]):=by rw [<- hWb];exact Box.new _ _ _ _ hza
 clear hWb hbb HBa hza
 have HMD:Hd (Zck (Wb.alloc (.cells (madeCells #[.string ⟨#[]⟩] x.fields.length) 9)) (w.heap.size+1+1) (ZaG x.fields) 0):=by
  have:=World.rowIs_made Wb (.string ⟨#[]⟩) x.fields.length 9;rw [hzb,<- hNl] at this;unfold Hd Zck;rw [hNl] at*;exact this
 have HSZ:Hd (∀ s ∈ ZaG x.fields,s.size<=maxLen):=fun s hs=>by
  obtain⟨i,hi,rfl⟩:=Zcp.1 hs;obtain⟨_,_,_,_,hc⟩:=HF.o.full' (by omega);exact (hc i hi).1.s0
 go_loopw [16] (fun i wr=>∃ k:Nat,i=.int .i64 k/\k<=x.fields.length/\Below (w.heap.size+1+1) Wb wr/\Zck wr (w.heap.size+1+1) (ZaG x.fields) k) (fun i _=>x.fields.length - (intOf i).toNat)
 case atStart=>exact⟨0,rfl,by omega,Zb_.alloc (by omega) _,HMD.o⟩
 case round=>
  obtain⟨k,rfl,hk,hb,hfl⟩:=hrel;have HB:=Zab hb;have HFL:=Zab hfl;have HBw:Hd (Zw_ w wr):=HBb.o.trans (hb.mono (by omega));have hBl:w.heap.size+1+1 < wr.heap.size:=World.rowIs.lt hfl
  clear hb hfl HMD
  by_cases hlt:k < x.fields.length
  . obtain⟨b,off,rfl,hbw,hc⟩:=HF.o.full' (by omega)
    obtain⟨_,wv,hcell,hwd⟩:=hc k hlt;obtain⟨wa,wn,wcap,rfl⟩:=hwd.form;obtain⟨c0,c1,c2,c3,c4,c5,c6,c7,c8,c9,c10⟩:=hcell.below (H0.o.trans (HBw.o.mono H0.o.size)) hbw;have hbr:b < wr.heap.size:=Zk_ hbw (Nat.le_trans H0.o.size HBw.o.size)
    obtain⟨ov,hold⟩:=HFL.o.old (by omega:k < (ZaG x.fields).length);have hfr:=HFL.o.frozen
    have HNX:∀ o,Hd (Zck ((wr.setCell ⟨w.heap.size+1+1,k,none⟩ (.string x.fields[k].nm)).alloc o) (w.heap.size+1+1) (ZaG x.fields) (k+1)):=fun o=>by
     have:=HFL.o.step (by omega:k < (ZaG x.fields).length);have e:(ZaG x.fields)[k]'(by omega)=x.fields[k].nm:=by simp [ZaG]
     rw [e] at this;exact this.below (Zb_.alloc Zl_ o)
    clear hcell hc hwd;go_wp2;go_roundw
    . exact⟨k+1,by go_num,by omega,(HB.o.setCell Zl_ _).alloc (by simp [World.setCell];omega) _,(HNX _).o⟩
    . simp [intOf];omega
  . have HST:Hd (Zae wr (.slice (some ⟨w.heap.size+1+1,0,none⟩) x.fields.length x.fields.length) (ZaG x.fields)):=by
     by_cases hz:x.fields.length=0
     . exact Or.inl ⟨_,_,by rw [hz],List.length_eq_zero_iff.1 (by omega)⟩
     . have:=(HFL.o.done (by omega) (by intro e;rw [e] at hNl;simp only [List.length_nil] at hNl;omega) (by unfold maxLen;omega) HSZ.o).at
       rw [hNl] at this;exact this
    have hl0:w.heap.size < Wb.heap.size:=by omega
    have FS:=Zab (FS.o.below HB.o (by omega));have FM:=Zab (FM.o.below HB.o (by omega));go_wp2_with fail;refine (Zkn lm _ _ (ZaG x.fields) Ms x.kind w.heap.size (w.heap.size+1) _ HST.o (by omega) (by omega) (by omega) (FS.o.cell 0) (FM.o.cell 0) (HV.o.below HBw.o) hm).mono ?_;rintro e w2 ⟨hb2,hgr⟩;have HB2:Hd (Zw_ w w2):=HBw.o.trans (hb2.mono HBw.o.size);have hle:w.heap.size<=wr.heap.size:=HBw.o.size;clear hb2
    rcases hgr with ⟨v2,R,rfl,ho,hg,hl⟩ | ⟨hno,rfl⟩
    . have HO:=Zab (ho.mono hle)
      have HG:=Zab hg;obtain⟨va,vcap,rfl⟩:=ho.form;clear ho hg;go_wp2;refine bodyPost_ret (v:=.tuple #[.slice va R.length vcap,.bool true]) (by simp [results,results201,go_sem]) rfl ⟨HB2.o,Or.inl ⟨_,R,rfl,HO.o,HG.o,hl⟩⟩
    . have HN:=Zab hno
      clear hno;go_wp2;refine bodyPost_ret (v:=.tuple #[.slice none 0 0,.bool false]) (by simp [results,results201,go_sem]) rfl ⟨HB2.o,Or.inr ⟨HN.o,rfl⟩⟩
end Go.Proofs.YtbdhbihhgfpnnaaGreat
