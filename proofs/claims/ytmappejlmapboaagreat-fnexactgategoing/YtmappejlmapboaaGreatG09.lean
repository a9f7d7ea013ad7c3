import Derived.Test.YtmappejlmapboaaGreatG05
import Derived.Test.YtmappejlmapboaaGreatG07
import Derived.Test.YtmappejlmapboaaGreatG08
import Derived.Deep.AppendLies
import Derived.Deep.Upon
import Derived.Deep.RegionHeld3
import Derived.Deep.DeepCutAuto
set_option maxHeartbeats 16000000
set_option maxRecDepth 100000
open Go.Proofs.Tryz
namespace Go.Proofs.YtmappejlmapboaaGreat
open Go.RowKit Go.Deep
section
variable {w' W0:World} {v:Value} {a:Option Addr} {k hi cap n β b1 b2:Nat} {cs cs1 cs2:Array Value}
theorem Zds (lo:Nat) (v:Value) (Ss:List Sh) (s:Zy_) (w0 w:World) (hv:ZaI lo w0 v Ss) (h0:Below w0.heap.size w0 w) :
 Calls prog 189 #[v,.string s] w fun e w'=>Zw_ w w'/\Zoy lo Ss s e w0:=by
 by_cases hL:Ss=[]
 . subst hL
   obtain⟨a,cap,rfl⟩:=hv.form;clear hv;go_enter func189,ntmps189;go_wp2
   go_loop [10] (fun i=>i=.int .i64 0) (fun _=>0)
   case atStart=>rfl
   case round=>
    subst hrel;go_wp2;refine bodyPost_ret (v:=.tuple #[.agg #[.string ⟨#[]⟩,.slice none 0 0],.bool false]) (by simp [results,results189,go_sem]) rfl ⟨?_,Or.inr ⟨rfl,rfl⟩⟩;exact Zb_.alloc Zl_ _
 . obtain⟨b,off,cap,rfl,hm,hbw,hc⟩:=hv.full hL
   clear hv;have H0:=Zab h0;clear h0;unfold maxLen at hm;have hA:∀ (o:Obj) (wr:World),Below (w.heap.size+1) (w.alloc o) wr->Zw_ w wr:=fun o wr h=>(Zb_.alloc Zl_ o).trans (h.mono (by omega))
   go_enter func189,ntmps189;go_wp2
   go_loopw [10] (fun i wr=>∃ k:Nat,i=.int .i64 k/\k<=Ss.length/\Below (w.heap.size+1) (w.alloc (.cells #[.string ⟨#[]⟩,.slice none 0 0] 131)) wr/\∀ i (h:i < Ss.length),i < k->(Ss[i].kind.toList == s.toList)=false) (fun i _=>Ss.length - (intOf i).toNat)
   case atStart=>exact⟨0,rfl,by omega,Below.refl _ _,fun i _ h=>by omega⟩
   case round=>
    obtain⟨k,rfl,hk,hb,hall⟩:=hrel;have HA:=Zab hall;clear hall;have hz:w.heap.size < wr.heap.size:=by have:=hb.size;simp at this;omega
    have hB:Hd (Zw_ w wr):=hA _ _ hb;have hB0:Hd (Below w0.heap.size w0 wr):=H0.o.trans (hB.o.mono H0.o.size);have q0:wr.cell? ⟨w.heap.size,0,none⟩=some (.string ⟨#[]⟩):=by rw [hb.cell (p:=⟨w.heap.size,_,none⟩) (by simp)];simp
    have q1:wr.cell? ⟨w.heap.size,1,none⟩=some (.slice none 0 0):=by rw [hb.cell (p:=⟨w.heap.size,_,none⟩) (by simp)];simp
    have qf:∀ o,wr.frozen? ⟨w.heap.size,o,none⟩=false:=fun o=>by rw [hb.frozen (p:=⟨w.heap.size,_,none⟩) (by simp)];simp
    have HBB:=Zab hb;clear hb
    by_cases hlt:k < Ss.length
    . obtain⟨_,fv,c0,c1,hst⟩:=hc k hlt
      have e0:wr.cell? ⟨b,off+k*2,none⟩=some (.string Ss[k].kind):=by rw [hB0.o.cell (p:=⟨b,_,none⟩) hbw];exact c0
      have e1:wr.cell? ⟨b,off+k*2+1,none⟩=some fv:=by rw [hB0.o.cell (p:=⟨b,_,none⟩) hbw];exact c1
      obtain⟨a1,cap1,rfl⟩:=hst.form;have HST:=Zab hst;clear c0 c1 hst
      by_cases he:(Ss[k].kind.toList == s.toList)=true
      . go_wp2
        have HF:Zw_ w (((wr.setCell ⟨w.heap.size,0,none⟩ (.string Ss[k].kind)).setCell ⟨w.heap.size,1,none⟩ (.slice a1 Ss[k].fields.length cap1)).alloc (.cells #[.string Ss[k].kind,.slice a1 Ss[k].fields.length cap1] 131)):=
         ((hB.o.setCell Zl_ _).setCell Zl_ _).alloc (by simp [World.setCell];omega) _
        have hold:∀ (X:World) (o:Obj) (j:Nat),w.heap.size < X.heap.size->(X.alloc o).cell? ⟨w.heap.size,j,none⟩=X.cell? ⟨w.heap.size,j,none⟩:=fun X o j h=>((Below.refl X.heap.size X).alloc Zl_ o).cell (p:=⟨w.heap.size,j,none⟩) h
        have f0:(((wr.setCell ⟨w.heap.size,0,none⟩ (.string Ss[k].kind)).setCell ⟨w.heap.size,1,none⟩ (.slice a1 Ss[k].fields.length cap1)).alloc (.cells #[.string Ss[k].kind,.slice a1 Ss[k].fields.length cap1] 131)).cell? ⟨w.heap.size,0,none⟩=some (.string Ss[k].kind):=by
         rw [hold _ _ _ (by simpa [World.setCell] using hz),Zc7 _ _ _ _ (by simp),Zch _ _ _ _ q0]
        have f1:(((wr.setCell ⟨w.heap.size,0,none⟩ (.string Ss[k].kind)).setCell ⟨w.heap.size,1,none⟩ (.slice a1 Ss[k].fields.length cap1)).alloc (.cells #[.string Ss[k].kind,.slice a1 Ss[k].fields.length cap1] 131)).cell? ⟨w.heap.size,1,none⟩=some (.slice a1 Ss[k].fields.length cap1):=by
         rw [hold _ _ _ (by simpa [World.setCell] using hz),Zch _ _ _ _ (by rw [Zc7 _ _ _ _ (by simp)];exact q1)]
        exact bodyPost_ret (v:=.tuple #[.agg #[.string Ss[k].kind,.slice a1 Ss[k].fields.length cap1],.bool true]) (by simp [results,results189,go_sem,f0,f1]) rfl ⟨HF,Or.inl ⟨Ss[k],_,ZfV hlt he HA.o,rfl,HST.o⟩⟩
      . have he':(Ss[k].kind.toList == s.toList)=false:=by simpa using he
        clear he;go_wp2;go_roundw
        case rel=>exact⟨k+1,by go_num,by omega,HBB.o.alloc (by omega) _,fun i h h'=>by
                   by_cases e:i=k
                   . subst e;exact he'
                   . exact HA.o i h (by omega)⟩
        . simp [intOf];omega
    . go_wp2
      refine bodyPost_ret (v:=.tuple #[.agg #[.string ⟨#[]⟩,.slice none 0 0],.bool false]) (by simp [results,results189,go_sem,q0,q1]) rfl ⟨?_,Or.inr ⟨ZfU fun i h=>HA.o i h (by omega),rfl⟩⟩;exact (hB.o.setCell Zl_ _).setCell Zl_ _
theorem Zg7 (W:World) (g:Nat) (src:Value) (L:List Zy_) (ty:TypeId) (hs:Zaf W src L) (hn:L.length<=1048576) (hg:W.heap.size=g) :
 ∃ v' w',(Builtin.append_ #[111,111] ty #[.slice (some ⟨g,0,none⟩) 0 0,src]).run prog (W.alloc (.cells #[] 9))=.ok v' w'/\Below W.heap.size W w'/\Zad W.heap.size w'.heap.size w' v' L:=by
 subst hg;obtain⟨i0,hi,hz0,hz1,hz2⟩:=info_parts Tryz.info9;have hA:Below W.heap.size W (W.alloc (.cells #[] 9)):=Zb_.alloc Zl_ _
 rcases hs with ⟨a,cap,rfl,rfl⟩ | ⟨b,off,cap,rfl,hne,hm,hbw,hc,hsz⟩
 . refine⟨.slice (some ⟨W.heap.size,0,none⟩) 0 0,_,run_append_nothing _ 111 111 ty 9 i0 underlying111 hi _ 0 0 Zl_ _ ?_,hA,Or.inl ⟨_,_,rfl,rfl⟩⟩
   cases a with
   | none=>exact Src.ofNil _ underlying111 _
   | some ad=>exact Src.ofSlice _ underlying111 ad 0 cap [] (by simp) (fun j u h=>by simp at h) (fun u h=>by simp at h)
 . have hown:=World.ownsRow_made (base:=W.heap.size) (e:=9) (size:=1) W #[] 0 Zl_ Zz_ (by simp)
   obtain⟨g,cap',w',hr,h2,h3,h4,h5⟩:=run_append_lies (P:=prog) (W.alloc (.cells #[] 9)) 111 ty W.heap.size 9 i0 (.string ⟨#[]⟩) 1 16 underlying111 hi hz0 hz1 hz2 rfl (by omega) _ 0 [] hown ⟨b,off,none⟩ L.length cap (L.map Value.string) (by simp) (fun j u hj=>by
    obtain⟨hj1,hj2⟩:=List.getElem?_eq_some_iff.1 hj;simp only [List.length_map] at hj1;rw [Go.WideShapes.add_plain,hA.cell (p:=⟨b,off+j,none⟩) hbw,hc j hj1,<- hj2];simp) (fun u hu=>by obtain⟨s,_,rfl⟩:=List.mem_map.1 hu;rfl) (List.length_pos_iff.2 hne) (by rw [Nat.zero_add];exact hm) (by omega) (by simp) (W.heap.size+1) (by simp)
   rw [Nat.zero_add] at hr h2;have hob:(Value.slice (some (⟨W.heap.size,0,none⟩:Addr)) 0 0).ownBlock=some W.heap.size:=rfl;rw [hob] at h3 h4;have hB:Below W.heap.size W w':=hA.trans ⟨h3.os,h3.tape,h3.output,h3.size,fun k hk=>h3.block k (by simp;omega) (by simp;omega)⟩;refine⟨_,w',hr,hB,Or.inr ⟨g,0,cap',rfl,hne,hm,h5,fun i hi=>?_,hsz,?_,h5,fun i=>?_⟩⟩
   . have:=h2.cells (g:=g) rfl i (.string L[i]) (by simp [hi])
     rw [Go.WideShapes.add_plain] at this;exact this
   . rcases h4 with h4 | h4
     . have:W.heap.size=g:=by simpa using h4
       omega
     . omega
   . rcases h2.2 with ⟨h,_⟩ | ⟨g',cap2,cur,hv,_,hh,_⟩
     . cases h
     . have e:g=g':=by injection hv with e1 _ _;injection e1 with e2;injection e2
       subst e;simp [World.frozen?,hh]
theorem Zbs {P:Program}{w:World}{v1 v2:Value}{ops:Array Oper}{rest:List Oper}{o:Oper}{a:Act}{Q:Exit->Act->World->Prop} (hgd:o.guard=none) (s x:Operand) (t:TypeId)
 (ho:o.op=.call { callee:=.builtin .append,args:=#[s,x],argTypes:=#[t,t] }) (hs:a.eval s=v1) (hx:a.eval x=v2) (hr:(Builtin.append_ #[t,t] o.type #[v1,v2]).run P w=.ok v w')
 (h:wpList P ops Q rest (a.put o.dst v) w'):wpList P ops Q (o :: rest) a w:=by
 refine wpList_plain hgd fun K hK=>?_
 unfold Oper.wp execOp;simp only [ho,resolve,invoke,builtin,Sem.run_bind,Sem.run_pure,Result.andThen_ok,List.map_toArray,List.map_cons,List.map_nil,hs,hx,hr];exact hK _ _ h
section
variable (kind nm team:Zy_) (vv hv:Value) (en:Bool) (ver:Int) (V Ho:List Zy_) (w:World)
theorem Ziw (hV:Zaf w vv V) (hH:Zaf w hv Ho) (n1:V.length<=1048576) (n2:Ho.length<=1048576) :
 Calls prog 112 #[.agg #[.string kind,.string nm,.string team,vv,.bool en,hv,.int .i64 ver]] w
  fun e w'=>∃ v' h',e=.returned (.agg #[.string kind,.string nm,.string team,v',.bool en,h',.int .i64 ver])/\Zw_ w w'/\ZfD w.heap.size w' v' h' V Ho:=by
 have HV:=Zab hV;have HH:=Zab hH;obtain⟨a,n,cap,rfl⟩:=hV.form;obtain⟨a',n',cap',rfl⟩:=hH.form;clear hV hH;have HW:∀ o o',Hd (Zw_ w ((w.alloc o).alloc o')):=fun o o'=>(Zb_.alloc Zl_ _).alloc (by simp) _
 obtain⟨v1,w1,hap,hb,hs⟩:=Zg7 ((w.alloc (.cells #[.string kind,.string nm,.string team,.slice a n cap,.bool en,.slice a' n' cap',.int .i64 ver] 128)).alloc (.cells #[.string ⟨#[]⟩,.string ⟨#[]⟩,.string ⟨#[]⟩,.slice none 0 0,.bool false,.slice none 0 0,.int .i64 0] 128)) (w.heap.size+1+1) (.slice a n cap) V 111 (HV.o.below (HW _ _).o) n1 (by simp);obtain⟨a1,cap1,rfl⟩:=hs.form;have HS:Hd (Zad (w.heap.size+2) w1.heap.size w1 (.slice a1 V.length cap1) V):=hs.wide (by simp) Zl_;have hz:w.heap.size+1 < w1.heap.size:=by have:=hb.size;simp at this;omega
 obtain⟨hc,hf⟩:=Zf8 hb;have HB:Hd (Zw_ w w1):=(HW _ _).o.trans (hb.mono (by simp;omega));clear hb hs;have hz0:w.heap.size < w1.heap.size:=by omega
 have g0:∀ i,w1.cell? ⟨w.heap.size,i,none⟩=(#[.string kind,.string nm,.string team,.slice a n cap,.bool en,.slice a' n' cap',.int .i64 ver]:Array Value)[i]?:=fun i=>by
  rw [hc _ _ (by simp;omega),((Below.refl (w.alloc (.cells #[.string kind,.string nm,.string team,.slice a n cap,.bool en,.slice a' n' cap',.int .i64 ver] 128)).heap.size _).alloc Zl_ _).cell (p:=⟨w.heap.size,i,none⟩) (by simp)];simp
 have g1:∀ i,w1.cell? ⟨w.heap.size+1,i,none⟩=(#[.string ⟨#[]⟩,.string ⟨#[]⟩,.string ⟨#[]⟩,.slice none 0 0,.bool false,.slice none 0 0,.int .i64 0]:Array Value)[i]?:=fun i=>by
  rw [hc _ _ (by simp)];simp
 have gf0:∀ i,w1.frozen? ⟨w.heap.size,i,none⟩=false:=fun i=>by rw [hf _ _ (by simp;omega)];simp
 have gf1:∀ i,w1.frozen? ⟨w.heap.size+1,i,none⟩=false:=fun i=>by rw [hf _ _ (by simp)];simp
 clear hc hf;have hX:Hd (Zw_ w (w1.setCell ⟨w.heap.size,3,none⟩ (.slice a1 V.length cap1))):=HB.o.setCell Zl_ _;have hXs:(w1.setCell ⟨w.heap.size,3,none⟩ (.slice a1 V.length cap1)).heap.size=w1.heap.size:=by simp [World.setCell]
 have HS':=Zab (HS.o.setCell (p:=⟨w.heap.size,3,none⟩) (by simp only [];omega) (.slice a1 V.length cap1));obtain⟨v2,w2,hap2,hb2,hs2⟩:=Zg7 (w1.setCell ⟨w.heap.size,3,none⟩ (.slice a1 V.length cap1)) w1.heap.size (.slice a' n' cap') Ho 111 (HH.o.below hX.o) n2 hXs;obtain⟨a2,cap2,rfl⟩:=hs2.form;have HS2:Hd (Zad (w.heap.size+2) w1.heap.size w2 (.slice a1 V.length cap1) V):=HS'.o.below hb2;have HH2:Hd (Zad w1.heap.size w2.heap.size w2 (.slice a2 Ho.length cap2) Ho):=by unfold Hd;rw [<- hXs];exact hs2
 have hz2:w.heap.size+1 < w2.heap.size:=by have:=hb2.size;rw [hXs] at this;omega
 have hz3:w1.heap.size<=w2.heap.size:=by have:=hb2.size;rw [hXs] at this;exact this
 have HB2:Hd (Zw_ w w2):=hX.o.trans (hb2.mono hX.o.size);have hc2:∀ b o,b < w1.heap.size->w2.cell? ⟨b,o,none⟩=(w1.setCell ⟨w.heap.size,3,none⟩ (.slice a1 V.length cap1)).cell? ⟨b,o,none⟩:=fun b o h=>hb2.cell (p:=⟨b,o,none⟩) (by rw [hXs];exact h)
 have hf2:∀ b o,b < w1.heap.size->w2.frozen? ⟨b,o,none⟩=(w1.setCell ⟨w.heap.size,3,none⟩ (.slice a1 V.length cap1)).frozen? ⟨b,o,none⟩:=fun b o h=>hb2.frozen (p:=⟨b,o,none⟩) (by rw [hXs];exact h)
 clear hb2 hs2 hXs;have k3:w2.cell? ⟨w.heap.size,3,none⟩=some (.slice a1 V.length cap1):=by rw [hc2 _ _ hz0];exact World.cell?_setCell_same' _ _ _ (by rw [g0];rfl)
 have k':∀ i,i≠3->w2.cell? ⟨w.heap.size,i,none⟩=(#[.string kind,.string nm,.string team,.slice a n cap,.bool en,.slice a' n' cap',.int .i64 ver]:Array Value)[i]?:=fun i hi=>by rw [hc2 _ _ hz0,Zah _ _ _ _ _ (fun e=>hi e.symm),g0]
 have k0:w2.cell? ⟨w.heap.size,0,none⟩=some (.string kind):=k' 0 (by omega);have k1:w2.cell? ⟨w.heap.size,1,none⟩=some (.string nm):=k' 1 (by omega);have k2:w2.cell? ⟨w.heap.size,2,none⟩=some (.string team):=k' 2 (by omega);have k4:w2.cell? ⟨w.heap.size,4,none⟩=some (.bool en):=k' 4 (by omega);have k5:w2.cell? ⟨w.heap.size,5,none⟩=some (.slice a' n' cap'):=k' 5 (by omega);have k6:w2.cell? ⟨w.heap.size,6,none⟩=some (.int .i64 ver):=k' 6 (by omega);have j':∀ i,w2.cell? ⟨w.heap.size+1,i,none⟩=(#[.string ⟨#[]⟩,.string ⟨#[]⟩,.string ⟨#[]⟩,.slice none 0 0,.bool false,.slice none 0 0,.int .i64 0]:Array Value)[i]?:=fun i=>by rw [hc2 _ _ hz,show (w1.setCell ⟨w.heap.size,3,none⟩ (.slice a1 V.length cap1)).cell? ⟨w.heap.size+1,i,none⟩=w1.cell? ⟨w.heap.size+1,i,none⟩ from by apply World.cell?_setCell_other;simp,g1]
 have j0:w2.cell? ⟨w.heap.size+1,0,none⟩=some (.string ⟨#[]⟩):=j' 0;have j1:w2.cell? ⟨w.heap.size+1,1,none⟩=some (.string ⟨#[]⟩):=j' 1;have j2:w2.cell? ⟨w.heap.size+1,2,none⟩=some (.string ⟨#[]⟩):=j' 2;have j3:w2.cell? ⟨w.heap.size+1,3,none⟩=some (.slice none 0 0):=j' 3;have j4:w2.cell? ⟨w.heap.size+1,4,none⟩=some (.bool false):=j' 4;have j5:w2.cell? ⟨w.heap.size+1,5,none⟩=some (.slice none 0 0):=j' 5;have j6:w2.cell? ⟨w.heap.size+1,6,none⟩=some (.int .i64 0):=j' 6;have fz0:∀ o,w2.frozen? ⟨w.heap.size,o,none⟩=false:=fun o=>by rw [hf2 _ _ hz0,World.frozen?_setCell];exact gf0 o
 have fz1:∀ o,w2.frozen? ⟨w.heap.size+1,o,none⟩=false:=fun o=>by rw [hf2 _ _ hz,World.frozen?_setCell];exact gf1 o
 clear hc2 hf2 k' j';go_enter func112,ntmps112;go_wp2_with (first|(at_builtin;refine Zbs rfl (.tmp 3) (.tmp 5) 111 rfl rfl rfl hap ?_)|(at_builtin;refine Zbs rfl (.tmp 8) (.tmp 10) 111 rfl rfl rfl hap2 ?_));refine bodyPost_ret (v:=.agg #[.string kind,.string nm,.string team,.slice a1 V.length cap1,.bool en,.slice a2 Ho.length cap2,.int .i64 ver]) (by simp [results,results112,go_sem,j0,j1,j2,j3,j4,j5,j6]) rfl ⟨_,_,rfl,?_,w1.heap.size,by omega,by simp only [World.setCell,Array.size_modify];exact hz3,?_,?_⟩
 . repeat (refine Below.setCell ?_ (by simp only [];omega) _)
   exact HB2.o
 . refine Zad.wide (lo:=w.heap.size+2) (hi:=w1.heap.size) ?_ (by omega) Zl_
   repeat (refine Zad.setCell ?_ (by simp only [];omega) _)
   exact HS2.o
 . refine Zad.wide (lo:=w1.heap.size) (hi:=w2.heap.size) ?_ Zl_ (by simp [World.setCell])
   repeat (refine Zad.setCell ?_ (by simp only [];omega) _)
   exact HH2.o
end
def Ze6 (V:List Zy_) (Fs:List Fd):List Zy_:=List.zipWith (fun v (f:Fd)=>if v.toList.isEmpty=true then f.df else v) V Fs
theorem ZeE {V:List Zy_}{Fs:List Fd} (h:Fs.length=V.length):(Ze6 V Fs).length=V.length:=by simp [Ze6,h]
theorem Zj5 {V:List Zy_}{Fs:List Fd}{i:Nat} (hv:i < V.length) (hf:i < Fs.length):(Ze6 V Fs)[i]?=some (if V[i].toList.isEmpty=true then Fs[i].df else V[i]):=by
 simp [Ze6,List.getElem?_zipWith,hv,hf]
def ZcT (V:List Zy_) (Fs:List Fd) (k:Nat) (L:List Zy_):Prop:=
 L.length=V.length/\(∀ i,i < k->L[i]?=(Ze6 V Fs)[i]?)/\∀ i,k<=i->L[i]?=V[i]?
theorem ZcT.zero (V:List Zy_) (Fs:List Fd):ZcT V Fs 0 V:=⟨rfl,fun i h=>by omega,fun _ _=>rfl⟩
theorem ZcT.at {V:List Zy_}{Fs:List Fd}{L:List Zy_} (h:ZcT V Fs k L) (hk:k < V.length) (hk':k < L.length):L[k]=V[k]:=by
 have:=h.2.2 k Zl_;rw [List.getElem?_eq_getElem hk',List.getElem?_eq_getElem hk] at this;exact Option.some.inj this
theorem ZcT.same {V:List Zy_}{Fs:List Fd}{L:List Zy_} (h:ZcT V Fs k L) (hk:k < V.length) (hf:k < Fs.length) (he:V[k].toList.isEmpty=false):ZcT V Fs (k+1) L:=by
 refine⟨h.1,fun i hi=>?_,fun i hi=>h.2.2 i (by omega)⟩
 by_cases e:i=k
 . subst e;rw [h.2.2 i Zl_,Zj5 hk hf,List.getElem?_eq_getElem hk];simp [he]
 . exact h.2.1 i (by omega)
theorem ZcT.put {V:List Zy_}{Fs:List Fd}{L:List Zy_} (h:ZcT V Fs k L) (hk:k < V.length) (hf:k < Fs.length) (he:V[k].toList.isEmpty=true):ZcT V Fs (k+1) (L.set k Fs[k].df):=by
 refine⟨by rw [List.length_set];exact h.1,fun i hi=>?_,fun i hi=>?_⟩
 . by_cases e:i=k
   . subst e;rw [Zj5 hk hf,List.getElem?_set_self (by rw [h.1];exact hk)];simp [he]
   . rw [List.getElem?_set_ne (by omega)];exact h.2.1 i (by omega)
 . rw [List.getElem?_set_ne (by omega)];exact h.2.2 i (by omega)
theorem ZcT.done {V:List Zy_}{Fs:List Fd}{L:List Zy_} (h:ZcT V Fs k L) (hl:Fs.length=V.length) (hk:Fs.length<=k):L=Ze6 V Fs:=by
 apply List.ext_getElem?;intro i
 by_cases e:i < k
 . exact h.2.1 i e
 . rw [List.getElem?_eq_none (by rw [h.1];omega),List.getElem?_eq_none (by rw [ZeE hl];omega)]
theorem Zad.put {lo:Nat}{w:World}{b off:Nat}{L:List Zy_} (h:Zad lo hi w (.slice (some ⟨b,off,none⟩) n cap) L) {k:Nat} (hk:k < L.length) {s:Zy_} (hs:s.size<=maxLen) :
 Zad lo hi (w.setCell ⟨b,off+k,none⟩ (.string s)) (.slice (some ⟨b,off,none⟩) n cap) (L.set k s):=by
 rcases h with ⟨a,cap',h,rfl⟩ | ⟨b',off',cap',h1,h2,h3,h4,h5,h6,h7,h8,h9⟩
 . simp at hk
 . injection h1 with e1 e2 e3
   injection e1 with e1
   injection e1 with q1 q2 q3
   subst q1 q2 e2 e3;refine Or.inr ⟨b,off,cap,by rw [List.length_set],?_,by rw [List.length_set];exact h3,by simpa [World.setCell] using h4,fun i hi'=>?_,fun t ht=>?_,h7,h8,fun i=>by rw [World.frozen?_setCell];exact h9 i⟩
   . intro e;have:=congrArg List.length e;rw [List.length_set] at this;simp at this;exact h2 this
   . have hi2:i < L.length:=by rw [List.length_set] at hi';exact hi'
     by_cases e:i=k
     . subst e;rw [Zch _ _ _ _ (h5 i hi2)];simp
     . rw [Zah _ _ _ _ _ (by omega),h5 i hi2,List.getElem_set_ne (by omega)]
   . rcases List.mem_or_eq_of_mem_set ht with ht | rfl
     . exact h6 t ht
     . exact hs
theorem Zad.full {lo:Nat}{w:World}{L:List Zy_} (h:Zad lo hi w (.slice a n cap) L) (hL:0 < L.length) :
 ∃ b off,a=some ⟨b,off,none⟩/\n=L.length/\b < w.heap.size/\lo<=b/\b < hi/\(∀ i (h:i < L.length),w.cell? ⟨b,off+i,none⟩=some (.string L[i]))/\∀ i,w.frozen? ⟨b,off+i,none⟩=false:=by
 rcases h with ⟨a',cap',h,rfl⟩ | ⟨b',off',cap',h1,h2,h3,h4,h5,h6,h7,h8,h9⟩
 . simp at hL
 . injection h1 with e1 e2 e3
   exact⟨b',off',e1,e2,h4,h7,h8,h5,h9⟩
theorem Zau.full' {lo:Nat}{w:World}{Fs:List Fd} (h:Zau lo w (.slice a n cap) Fs) (hL:0 < Fs.length) :
 ∃ b off,a=some ⟨b,off,none⟩/\b < w.heap.size/\∀ i (h:i < Fs.length),Ze8 Fs[i]/\∃ wv,ZcL w b (off+i*11) Fs[i] wv/\Zaq lo w wv Fs[i].words:=by
 rcases h with ⟨a',cap',h,rfl⟩ | ⟨b',off',cap',h1,h2,h3,h4,h5,h6,h7⟩
 . simp at hL
 . injection h1 with e1 e2 e3
   exact⟨b',off',e1,h4,h7⟩
theorem ZaR (X:World) (cs:Array Value) (t:TypeId) (g i:Nat) (hg:X.heap.size=g):(X.alloc (.cells cs t)).cell? ⟨g,i,none⟩=cs[i]?:=by subst hg;simp
theorem Zjr (X:World) (cs:Array Value) (t:TypeId) (g i:Nat) (hg:X.heap.size=g):(X.alloc (.cells cs t)).frozen? ⟨g,i,none⟩=false:=by subst hg;simp
section
variable (kd kind nm team:Zy_) (vv hv fv:Value) (en:Bool) (ver:Int) (V Ho:List Zy_) (Fs:List Fd) (w:World) (lo:Nat)
theorem Zlg (hV:Zaf w vv V) (hH:Zaf w hv Ho) (hF:Zau lo w fv Fs) (n1:V.length<=1048576) (n2:Ho.length<=1048576) (hl:Fs.length=V.length) :
 Calls prog 273 #[.agg #[.string kd,fv],.agg #[.string kind,.string nm,.string team,vv,.bool en,hv,.int .i64 ver]] w
  fun e w'=>∃ v' h',e=.returned (.agg #[.string kind,.string nm,.string team,v',.bool en,h',.int .i64 ver])/\Zw_ w w'/\ZfD w.heap.size w' v' h' (Ze6 V Fs) Ho:=by
 have HV:=Zab hV;have HH:=Zab hH;have HF:=Zab hF;obtain⟨a,n,cap,rfl⟩:=hV.form;obtain⟨a',n',cap',rfl⟩:=hH.form;obtain⟨a1,cap1,rfl⟩:=hF.form;have HL:=Zab hl;have hfn:Fs.length<=1048576:=by omega
 clear hV hH hF hl;have HW:∀ o o' o'',Hd (Zw_ w (((w.alloc o).alloc o').alloc o'')):=fun o o' o''=>((Zb_.alloc Zl_ _).alloc (by simp) _).alloc (by simp;omega) _
 go_enter func273,ntmps273;go_wp2_with fail;refine (Zhf _ _ _ _ _ _ _ V Ho _ (HV.o.below (HW _ _ _).o) (HH.o.below (HW _ _ _).o) n1 n2).mono ?_;rintro e w1 ⟨v1,h1,rfl,hb,hs⟩;obtain⟨mid,hlo,hmid,hs1,hs2⟩:=hs;obtain⟨a2,cap2,rfl⟩:=hs1.form;obtain⟨a3,cap3,rfl⟩:=hs2.form;have hz:w.heap.size+2 < w1.heap.size:=by have:=hb.size;simp at this;omega
 have hlo':w.heap.size+3<=mid:=by simpa using hlo
 obtain⟨hc,hf⟩:=Zf8 hb;have HB:Hd (Zw_ w w1):=(HW _ _ _).o.trans (hb.mono (by simp;omega));have HS1:Hd (Zad (w.heap.size+3) mid w1 (.slice a2 V.length cap2) V):=hs1.wide (by simp) Zl_;have HS2:=Zab hs2
 have g0:∀ i,w1.cell? ⟨w.heap.size,i,none⟩=(#[.string kd,.slice a1 Fs.length cap1]:Array Value)[i]?:=fun i=>by
  rw [hc _ _ (by simp;omega),(((Below.refl (w.alloc (.cells #[.string kd,.slice a1 Fs.length cap1] 131)).heap.size _).alloc Zl_ _).alloc (by simp) _).cell (p:=⟨w.heap.size,i,none⟩) (by simp)];simp
 have g2:∀ i,w1.cell? ⟨w.heap.size+1+1,i,none⟩=(#[.string ⟨#[]⟩,.string ⟨#[]⟩,.string ⟨#[]⟩,.slice none 0 0,.bool false,.slice none 0 0,.int .i64 0]:Array Value)[i]?:=fun i=>by
  rw [hc _ _ (by simp)];exact ZaR _ _ _ _ _ (by simp)
 have gf2:∀ i,w1.frozen? ⟨w.heap.size+1+1,i,none⟩=false:=fun i=>by rw [hf _ _ (by simp)];exact Zjr _ _ _ _ _ (by simp)
 have G2:=Zab g2;have GF2:=Zab gf2;have hz0:w.heap.size < w1.heap.size:=by omega
 clear hb hs1 hs2 hc hf g2 gf2 hlo;go_wp2;have hA:Below w1.heap.size w1 (w1.alloc (.cells #[.string kind,.string nm,.string team,.slice a2 V.length cap2,.bool en,.slice a3 Ho.length cap3,.int .i64 ver] 128)):=Zb_.alloc Zl_ _;have hN:∀ i,(w1.alloc (.cells #[.string kind,.string nm,.string team,.slice a2 V.length cap2,.bool en,.slice a3 Ho.length cap3,.int .i64 ver] 128)).cell? ⟨w1.heap.size,i,none⟩=(#[.string kind,.string nm,.string team,.slice a2 V.length cap2,.bool en,.slice a3 Ho.length cap3,.int .i64 ver]:Array Value)[i]?:=fun i=>ZaR _ _ _ _ _ rfl
 have hNs:(w1.alloc (.cells #[.string kind,.string nm,.string team,.slice a2 V.length cap2,.bool en,.slice a3 Ho.length cap3,.int .i64 ver] 128)).heap.size=w1.heap.size+1:=by simp
 generalize hW1:w1.alloc (.cells #[.string kind,.string nm,.string team,.slice a2 V.length cap2,.bool en,.slice a3 Ho.length cap3,.int .i64 ver] 128)=W1 at hA hN hNs |-;clear hW1;have HA:=Zab hA;have HN:=Zab hN;clear hA hN g0
 go_loopw [13] (fun i wr=>∃ (k:Nat) (L:List Zy_),i=.int .i64 k/\k<=Fs.length/\ZcT V Fs k L/\Zad (w.heap.size+3) mid wr (.slice a2 V.length cap2) L/\Zag (w.heap.size+3) mid W1 wr) (fun i _=>Fs.length - (intOf i).toNat)
 case atStart=>exact⟨0,V,rfl,by omega,ZcT.zero _ _,HS1.o.below HA.o,Zag.refl _ _ _⟩
 case round=>
  obtain⟨k,L,rfl,hk,hfill,hso,htc⟩:=hrel;have HFT:=Zab hfill;have HSO:=Zab hso;have HT:=Zab htc;clear hfill hso htc;have hszr:w1.heap.size < wr.heap.size:=by have:=HT.o.size;omega
  have HBr:Hd (Zw_ w wr):=HB.o.trans ((HA.o.mono (by omega)).trans ((HT.o.under (by omega)).mono (by omega)))
  have hO:∀ i,wr.cell? ⟨w1.heap.size,i,none⟩=(#[.string kind,.string nm,.string team,.slice a2 V.length cap2,.bool en,.slice a3 Ho.length cap3,.int .i64 ver]:Array Value)[i]?:=fun i=>by
   rw [HT.o.cell (p:=⟨w1.heap.size,i,none⟩) (by simp only [];omega) (by simp only [];omega)];exact HN.o i
  by_cases hlt:k < Fs.length
  . have hlv:k < V.length:=by have:=HL.o;omega
    have hlL:k < L.length:=by rw [HFT.o.1];exact hlv
    obtain⟨fb,foff,rfl,hfb,hfc⟩:=HF.o.full' (by omega);obtain⟨hsz,wv,hcell,hst⟩:=hfc k hlt;obtain⟨c0,c1,c2,c3,c4,c5,c6,c7,c8,c9,c10⟩:=hcell.below HBr.o hfb;obtain⟨wa,wn,wcap,rfl⟩:=hst.form;obtain⟨vb,voff,rfl,_,hvb,hv1,hv2,hvc,hvf⟩:=HSO.o.full (by omega);have hvk:=hvc k hlL;rw [HFT.o.at hlv hlL] at hvk;have hvfk:=hvf k;clear hcell hst hvc hvf hfc
    cases he:V[k].toList.isEmpty with
    | true=>
     have HFT2:=Zab (HFT.o.put hlv hlt he);have HP:∀ o,Hd (Zad (w.heap.size+3) mid ((wr.setCell ⟨vb,voff+k,none⟩ (.string Fs[k].df)).alloc o) (.slice (some ⟨vb,voff,none⟩) V.length cap2) (L.set k Fs[k].df)):=fun o=>(HSO.o.put hlL hsz.s9).below (Zb_.alloc Zl_ o)
     have HTT:∀ o,Hd (Zag (w.heap.size+3) mid W1 ((wr.setCell ⟨vb,voff+k,none⟩ (.string Fs[k].df)).alloc o)):=fun o=>(HT.o.trans (Zag.setCell _ _ _ _ _ ⟨hv1,hv2⟩)).trans (Zag.below (Zb_.alloc Zl_ o))
     clear hsz;go_wp2;go_roundw
     . exact⟨k+1,_,by go_num,by omega,HFT2.o,(HP _).o,(HTT _).o⟩
     . simp [intOf];omega
    | false=>
     have HFT2:=Zab (HFT.o.same hlv hlt he);have HP:∀ o,Hd (Zad (w.heap.size+3) mid (wr.alloc o) (.slice (some ⟨vb,voff,none⟩) V.length cap2) L):=fun o=>(HSO.o.below (Zb_.alloc Zl_ o))
     have HTT:∀ o,Hd (Zag (w.heap.size+3) mid W1 (wr.alloc o)):=fun o=>(HT.o.trans (Zag.below (Zb_.alloc Zl_ o)))
     clear hsz;go_wp2;go_roundw
     . exact⟨k+1,_,by go_num,by omega,HFT2.o,(HP _).o,(HTT _).o⟩
     . simp [intOf];omega
  . have HE:Hd (L=Ze6 V Fs):=HFT.o.done HL.o (by omega)
    have hR:∀ i,wr.cell? ⟨w.heap.size+1+1,i,none⟩=(#[.string ⟨#[]⟩,.string ⟨#[]⟩,.string ⟨#[]⟩,.slice none 0 0,.bool false,.slice none 0 0,.int .i64 0]:Array Value)[i]?:=fun i=>by
     rw [HT.o.cell (p:=⟨w.heap.size+1+1,i,none⟩) (by simp only [];omega) (by simp only [];omega),HA.o.cell (p:=⟨w.heap.size+1+1,i,none⟩) (by simp only [];omega)];exact G2.o i
    have hRf:∀ i,wr.frozen? ⟨w.heap.size+1+1,i,none⟩=false:=fun i=>by
     rw [HT.o.frozen (p:=⟨w.heap.size+1+1,i,none⟩) (by simp only [];omega) (by simp only [];omega),HA.o.frozen (p:=⟨w.heap.size+1+1,i,none⟩) (by simp only [];omega)];exact GF2.o i
    have HH2:Hd (Zad mid w1.heap.size wr (.slice a3 Ho.length cap3) Ho):=(HS2.o.below HA.o).touch HT.o (Or.inr Zl_);have r0:wr.cell? ⟨w.heap.size+1+1,0,none⟩=some (.string ⟨#[]⟩):=hR 0;have r1:wr.cell? ⟨w.heap.size+1+1,1,none⟩=some (.string ⟨#[]⟩):=hR 1;have r2:wr.cell? ⟨w.heap.size+1+1,2,none⟩=some (.string ⟨#[]⟩):=hR 2;have r3:wr.cell? ⟨w.heap.size+1+1,3,none⟩=some (.slice none 0 0):=hR 3;have r4:wr.cell? ⟨w.heap.size+1+1,4,none⟩=some (.bool false):=hR 4;have r5:wr.cell? ⟨w.heap.size+1+1,5,none⟩=some (.slice none 0 0):=hR 5;have r6:wr.cell? ⟨w.heap.size+1+1,6,none⟩=some (.int .i64 0):=hR 6;clear hR;go_wp2
    refine bodyPost_ret (v:=.agg #[.string kind,.string nm,.string team,.slice a2 V.length cap2,.bool en,.slice a3 Ho.length cap3,.int .i64 ver]) (by simp [results,results273,go_sem,r0,r1,r2,r3,r4,r5,r6]) rfl ⟨_,_,rfl,?_,mid,by omega,by simp only [World.setCell,Array.size_modify];omega,?_,?_⟩
    . repeat (refine Below.setCell ?_ (by simp only [];omega) _)
      exact HBr.o
    . rw [<- HE.o]
      refine Zad.wide (lo:=w.heap.size+3) (hi:=mid) ?_ (by omega) Zl_
      repeat (refine Zad.setCell ?_ (by simp only [];omega) _)
      exact HSO.o
    . refine Zad.wide (lo:=mid) (hi:=w1.heap.size) ?_ Zl_ (by simp only [World.setCell,Array.size_modify];omega)
      repeat (refine Zad.setCell ?_ (by simp only [];omega) _)
      exact HH2.o
end
theorem Zaf.form' {w:World}{L:List Zy_} (h:Zaf w v L):∃ a cap,v=.slice a L.length cap:=by
 rcases h with ⟨a,cap,h,rfl⟩ | ⟨b,off,cap,h,_⟩
 . exact⟨a,cap,h⟩
 . exact⟨_,cap,h⟩
theorem Zaj (X:World) (o:Obj) (b i:Nat) (h:b < X.heap.size):(X.alloc o).cell? ⟨b,i,none⟩=X.cell? ⟨b,i,none⟩:=((Below.refl X.heap.size X).alloc Zl_ o).cell (p:=⟨b,i,none⟩) h
theorem Zja (X:World) (o:Obj) (b i:Nat) (h:b < X.heap.size):(X.alloc o).frozen? ⟨b,i,none⟩=X.frozen? ⟨b,i,none⟩:=((Below.refl X.heap.size X).alloc Zl_ o).frozen (p:=⟨b,i,none⟩) h
theorem ZeI (lo:Nat) (v:Value) (Ss:List Sh) (s:Zy_) (w:World) (hv:ZaI lo w v Ss) :
 Calls prog 162 #[v,.string s] w fun e w'=>w'=w/\((∃ k:Nat,k < Ss.length/\e=.returned (.int .i64 k)/\Zcj Ss s=Ss[k]?)\/(e=.returned (.int .i64 (-1))/\Zcj Ss s=none)):=by
 by_cases hL:Ss=[]
 . subst hL
   obtain⟨a,cap,rfl⟩:=hv.form;clear hv;go_enter func162,ntmps162;go_wp2
   go_loop [5] (fun i=>i=.int .i64 0) (fun _=>0)
   case atStart=>rfl
   case round=>
    subst hrel;go_wp2;go_ret;exact⟨rfl,rfl,rfl⟩
 . obtain⟨b,off,cap,rfl,hm,hbw,hc⟩:=hv.full hL
   clear hv;unfold maxLen at hm;go_enter func162,ntmps162;go_wp2
   go_loop [5] (fun i=>∃ k:Nat,i=.int .i64 k/\k<=Ss.length/\∀ i (h:i < Ss.length),i < k->(Ss[i].kind.toList == s.toList)=false) (fun i=>Ss.length - (intOf i).toNat)
   case atStart=>exact⟨0,rfl,by omega,fun i _ h=>by omega⟩
   case round=>
    obtain⟨k,rfl,hk,hall⟩:=hrel;have HA:=Zab hall;clear hall
    by_cases hlt:k < Ss.length
    . obtain⟨_,fv,hck,_,_⟩:=hc k hlt
      by_cases he:(Ss[k].kind.toList == s.toList)=true
      . go_wp2
        go_ret;exact⟨rfl,Or.inl ⟨k,hlt,rfl,by rw [ZfV hlt he HA.o,List.getElem?_eq_getElem hlt]⟩⟩
      . have he':(Ss[k].kind.toList == s.toList)=false:=by simpa using he
        clear he;go_wp2
        go_round
        case rel=>exact⟨k+1,by go_num,by omega,fun i h h'=>by
                   by_cases e:i=k
                   . subst e;exact he'
                   . exact HA.o i h (by omega)⟩
        . simp [intOf];omega
    . go_wp2
      go_ret;exact⟨rfl,Or.inr ⟨rfl,ZfU fun i h=>HA.o i h (by omega)⟩⟩
theorem ZaI.full' {lo:Nat}{w:World}{Ss:List Sh} (h:ZaI lo w (.slice a n cap) Ss) (hL:0 < Ss.length) :
 ∃ b off,a=some ⟨b,off,none⟩/\b < w.heap.size/\∀ i (h:i < Ss.length),Ss[i].kind.size<=maxLen/\∃ fv,w.cell? ⟨b,off+i*2,none⟩=some (.string Ss[i].kind)/\w.cell? ⟨b,off+i*2+1,none⟩=some fv/\Zau lo w fv Ss[i].fields:=by
 rcases h with ⟨a',cap',h,rfl⟩ | ⟨b',off',cap',h1,h2,h3,h4,h5,h7⟩
 . simp at hL
 . injection h1 with e1 e2 e3
   exact⟨b',off',e1,h4,h7⟩
section
variable (kind nm team:Zy_) (vv hv sv:Value) (en:Bool) (ver:Int) (V Ho:List Zy_) (Ss:List Sh) (w:World) (lo:Nat)
def L2F (lo:Nat) (Ss:List Sh) (kind:Zy_) (n:Nat) (e:Ending) (w:World):Prop:=
 (∃ x fv,Zcj Ss kind=some x/\x.fields.length=n/\e=.returned (.tuple #[fv,.bool true])/\Zau lo w fv x.fields)\/
 ((∀ x,Zcj Ss kind=some x->x.fields.length≠n)/\∃ a cap,e=.returned (.tuple #[.slice a 0 cap,.bool false]))
theorem Zcn (w0:World) (hS:ZaI lo w0 sv Ss) (h0:Below w0.heap.size w0 w) (hV:Zaf w vv V) (hH:Zaf w hv Ho) :
 Calls prog 118 #[sv,.agg #[.string kind,.string nm,.string team,vv,.bool en,hv,.int .i64 ver]] w
  fun e w'=>Zw_ w w'/\L2F lo Ss kind V.length e w0:=by
 have HV:=Zab hV;have HH:=Zab hH;have HS:=Zab hS;obtain⟨a,cap,rfl⟩:=hV.form';obtain⟨a',cap',rfl⟩:=hH.form';obtain⟨a1,cap1,rfl⟩:=hS.form;have H0:=Zab h0;clear hV hH hS h0;have HW:∀ o,Hd (Zw_ w (w.alloc o)):=fun o=>Zb_.alloc Zl_ _
 go_enter func118,ntmps118;go_wp2_with fail;refine (ZeI lo _ Ss kind _ (HS.o.below (H0.o.trans ((HW _).o.mono H0.o.size)))).mono ?_;rintro e w1 ⟨rfl,⟨k,hk,rfl,hsh⟩ | ⟨rfl,hsh⟩⟩
 . have HSH:=Zab hsh
   clear hsh;obtain⟨b,off,rfl,hbw0,hc⟩:=HS.o.full' (by omega);have hbw:b < w.heap.size:=Zk_ hbw0 H0.o.size
   obtain⟨_,fv,d0,d1,hst⟩:=hc k hk;obtain⟨fa,fcap,rfl⟩:=hst.form;have HST:=Zab hst;have d1':∀ o,(w.alloc o).cell? ⟨b,off+k*2+1,none⟩=some (.slice fa Ss[k].fields.length fcap):=fun o=>by rw [Zaj _ _ _ _ hbw,H0.o.cell (p:=⟨b,_,none⟩) hbw0];exact d1
   clear d0 d1 hst hc;have hxk:Ss[k]?=some Ss[k]:=List.getElem?_eq_getElem hk
   by_cases hl:Ss[k].fields.length=V.length
   . have HL:=Zab hl
     have hne:((Ss[k].fields.length:Int) != (V.length:Int))=false:=by rw [hl];simp
     have HQ:Hd (Zcj Ss kind=some Ss[k]):=HSH.o.trans hxk;clear hl hxk HSH;go_wp2
     go_quiet (fail)
     go_wp2;refine bodyPost_ret (v:=.tuple #[.slice fa Ss[k].fields.length fcap,.bool true]) (by simp [results,results118,go_sem]) rfl ⟨below_drewN (HW _).o _,Or.inl ⟨Ss[k],_,HQ.o,HL.o,rfl,HST.o⟩⟩
   . have hne:((Ss[k].fields.length:Int) != (V.length:Int))=true:=by simp;omega
     have HQ:Hd (∀ x,Zcj Ss kind=some x->x.fields.length≠V.length):=fun x hx=>by
      rw [HSH.o,hxk] at hx;rw [<- Option.some.inj hx];exact hl
     clear hl hxk HSH;go_wp2
     go_quiet (fail)
     go_wp2;refine bodyPost_ret (v:=.tuple #[.slice (some ⟨w.heap.size+1,0,none⟩) 0 0,.bool false]) (by simp [results,results118,go_sem]) rfl ⟨?_,Or.inr ⟨HQ.o,_,_,rfl⟩⟩;exact (below_drewN (HW _).o _).alloc (by simp) _
 . have HQ:Hd (∀ x,Zcj Ss kind=some x->x.fields.length≠V.length):=fun x hx=>by rw [hsh] at hx;cases hx
   clear hsh;go_wp2
   go_quiet (fail)
   go_wp2;refine bodyPost_ret (v:=.tuple #[.slice (some ⟨w.heap.size+1,0,none⟩) 0 0,.bool false]) (by simp [results,results118,go_sem]) rfl ⟨?_,Or.inr ⟨HQ.o,_,_,rfl⟩⟩;exact (below_drewN (HW _).o _).alloc (by simp) _
end
def Zhk (Ss:List Sh) (kind:Zy_) (V:List Zy_):List Zy_:=
 match Zcj Ss kind with
 | some x=>if x.fields.length=V.length then Ze6 V x.fields else V
 | none=>V
theorem Zi9 {Ss:List Sh}{kind:Zy_}{V:List Zy_} (h:∀ x,Zcj Ss kind=some x->x.fields.length≠V.length):Zhk Ss kind V=V:=by
 unfold Zhk
 cases hx:Zcj Ss kind with
 | none=>rfl
 | some x=>exact if_neg (h x hx)
theorem Zhl {Ss:List Sh}{kind:Zy_}{V:List Zy_}{x:Sh} (h:Zcj Ss kind=some x) (hl:x.fields.length=V.length):Zhk Ss kind V=Ze6 V x.fields:=by unfold Zhk;rw [h];exact if_pos hl
section
variable (kind nm team:Zy_) (vv hv sv:Value) (en:Bool) (ver:Int) (V Ho:List Zy_) (Ss:List Sh) (w:World) (lo:Nat)
theorem Zno (hS:ZaI lo w sv Ss) (hV:Zaf w vv V) (hH:Zaf w hv Ho) (n1:V.length<=1048576) (n2:Ho.length<=1048576) :
 Calls prog 174 #[sv,.agg #[.string kind,.string nm,.string team,vv,.bool en,hv,.int .i64 ver]] w
  fun e w'=>∃ v' h',e=.returned (.agg #[.string kind,.string nm,.string team,v',.bool en,h',.int .i64 ver])/\Zw_ w w'/\ZfD w.heap.size w' v' h' (Zhk Ss kind V) Ho:=by
 have HV:=Zab hV;have HH:=Zab hH;have HS:=Zab hS;obtain⟨a,cap,rfl⟩:=hV.form';obtain⟨a',cap',rfl⟩:=hH.form';obtain⟨a1,cap1,rfl⟩:=hS.form;clear hV hH hS;have HW:∀ o o',Hd (Zw_ w ((w.alloc o).alloc o')):=fun o o'=>(Zb_.alloc Zl_ _).alloc (by simp) _
 go_enter func174,ntmps174;go_wp2_with fail;refine (Ziw _ _ _ _ _ _ _ V Ho _ (HV.o.below (HW _ _).o) (HH.o.below (HW _ _).o) n1 n2).mono ?_;rintro e w1 ⟨v1,h1,rfl,hb,mid,hlo,hmid,hs1,hs2⟩;obtain⟨a2,cap2,rfl⟩:=hs1.form;obtain⟨a3,cap3,rfl⟩:=hs2.form;have hz:w.heap.size+1 < w1.heap.size:=by have:=hb.size;simp at this;omega
 have hz0:w.heap.size < w1.heap.size:=by omega
 have hlo':w.heap.size+2<=mid:=by simpa using hlo
 obtain⟨hc,hf⟩:=Zf8 hb;have HB:Hd (Zw_ w w1):=(HW _ _).o.trans (hb.mono (by simp;omega));have HS1:Hd (Zad (w.heap.size+2) mid w1 (.slice a2 V.length cap2) V):=hs1.wide (by simp) Zl_;have HS2:=Zab hs2
 have g0:∀ i,w1.cell? ⟨w.heap.size,i,none⟩=(#[.string kind,.string nm,.string team,.slice a V.length cap,.bool en,.slice a' Ho.length cap',.int .i64 ver]:Array Value)[i]?:=fun i=>by
  rw [hc _ _ (by simp;omega),Zaj _ _ _ _ (by simp)];exact ZaR _ _ _ _ _ rfl
 have G1:Hd (∀ i,w1.cell? ⟨w.heap.size+1,i,none⟩=(#[.string ⟨#[]⟩,.string ⟨#[]⟩,.string ⟨#[]⟩,.slice none 0 0,.bool false,.slice none 0 0,.int .i64 0]:Array Value)[i]?):=fun i=>by
  rw [hc _ _ (by simp)];exact ZaR _ _ _ _ _ (by simp)
 have GF1:Hd (∀ i,w1.frozen? ⟨w.heap.size+1,i,none⟩=false):=fun i=>by rw [hf _ _ (by simp)];exact Zjr _ _ _ _ _ (by simp)
 clear hb hs1 hs2 hc hf hlo;go_wp2_with fail;have HX:∀ o,Hd (Zw_ w (w1.alloc o)):=fun o=>HB.o.alloc (by omega) _
 refine (Zcn _ _ _ _ _ _ _ _ V Ho Ss _ lo w HS.o (HX _).o (HV.o.below (HX _).o) (HH.o.below (HX _).o)).mono ?_;rintro e w2 ⟨hb2,hl2⟩;have hz2:w1.heap.size < w2.heap.size:=by have:=hb2.size;simp at this;omega
 have HB2:Hd (Zw_ w w2):=(HX _).o.trans (hb2.mono (HX _).o.size)
 have hO:∀ i,w2.cell? ⟨w1.heap.size,i,none⟩=(#[.string kind,.string nm,.string team,.slice a2 V.length cap2,.bool en,.slice a3 Ho.length cap3,.int .i64 ver]:Array Value)[i]?:=fun i=>by
  rw [hb2.cell (p:=⟨w1.heap.size,i,none⟩) (by simp)];exact ZaR _ _ _ _ _ rfl
 have G2:Hd (∀ i,w2.cell? ⟨w.heap.size+1,i,none⟩=(#[.string ⟨#[]⟩,.string ⟨#[]⟩,.string ⟨#[]⟩,.slice none 0 0,.bool false,.slice none 0 0,.int .i64 0]:Array Value)[i]?):=fun i=>by
  rw [hb2.cell (p:=⟨w.heap.size+1,i,none⟩) (by simp;omega),Zaj _ _ _ _ hz];exact G1.o i
 have GF2:Hd (∀ i,w2.frozen? ⟨w.heap.size+1,i,none⟩=false):=fun i=>by
  rw [hb2.frozen (p:=⟨w.heap.size+1,i,none⟩) (by simp;omega),Zja _ _ _ _ hz];exact GF1.o i
 have HA:∀ o,Hd (Below w1.heap.size w1 (w1.alloc o)):=fun o=>Zb_.alloc Zl_ _
 have HV2:Hd (Zad (w.heap.size+2) mid w2 (.slice a2 V.length cap2) V):=(HS1.o.below (HA _).o).below hb2;have HH2:Hd (Zad mid w1.heap.size w2 (.slice a3 Ho.length cap3) Ho):=(HS2.o.below (HA _).o).below hb2;clear hb2 g0 G1 GF1 HS1 HS2
 rcases hl2 with ⟨x,fv,hx,hl,rfl,hfd⟩ | ⟨hno,fa,fcap,rfl⟩
 . obtain⟨fa,fcap,rfl⟩:=hfd.form
   have HFD:=Zab hfd;have HG:Hd (Zhk Ss kind V=Ze6 V x.fields):=Zhl hx hl;have HL:=Zab hl;have hfn:x.fields.length<=1048576:=by omega
   have HO:=Zab hO;clear hfd hx hl hO;go_wp2
   go_loopw [8] (fun i wr=>∃ (k:Nat) (L:List Zy_),i=.int .i64 k/\k<=x.fields.length/\ZcT V x.fields k L/\Zad (w.heap.size+2) mid wr (.slice a2 V.length cap2) L/\Zag (w.heap.size+2) mid w2 wr) (fun i _=>x.fields.length - (intOf i).toNat)
   case atStart=>exact⟨0,V,rfl,by omega,ZcT.zero _ _,HV2.o,Zag.refl _ _ _⟩
   case round=>
    obtain⟨k,L,rfl,hk,hfill,hso,htc⟩:=hrel;have HFT:=Zab hfill;have HSO:=Zab hso;have HT:=Zab htc;clear hfill hso htc;have hszr:w1.heap.size < wr.heap.size:=by have:=HT.o.size;omega
    have HBr:Hd (Zw_ w wr):=HB2.o.trans ((HT.o.under (by omega)).mono (by omega))
    have hO:∀ i,wr.cell? ⟨w1.heap.size,i,none⟩=(#[.string kind,.string nm,.string team,.slice a2 V.length cap2,.bool en,.slice a3 Ho.length cap3,.int .i64 ver]:Array Value)[i]?:=fun i=>by
     rw [HT.o.cell (p:=⟨w1.heap.size,i,none⟩) (by simp only [];omega) (by simp only [];omega)];exact HO.o i
    by_cases hlt:k < x.fields.length
    . have hlv:k < V.length:=by have:=HL.o;omega
      have hlL:k < L.length:=by rw [HFT.o.1];exact hlv
      obtain⟨fb,foff,rfl,hfb,hfc⟩:=HFD.o.full' (by omega);obtain⟨hsz,wv,hcell,hst⟩:=hfc k hlt;have c9:=(hcell.below HBr.o hfb).c9;obtain⟨vb,voff,rfl,_,hvb,hv1,hv2,hvc,hvf⟩:=HSO.o.full (by omega);have hvk:=hvc k hlL;rw [HFT.o.at hlv hlL] at hvk;have hvfk:=hvf k;clear hcell hst hvc hvf hfc
      cases he:V[k].toList.isEmpty with
      | true=>
       have HFT2:=Zab (HFT.o.put hlv hlt he);go_wp2
       go_region
       go_wp2;go_roundw
       . exact⟨k+1,_,by go_num,by omega,HFT2.o,(HSO.o.put hlL hsz.s9).below Zb_.drew,(HT.o.trans (Zag.setCell _ _ _ _ _ ⟨hv1,hv2⟩)).trans (Zag.below Zb_.drew)⟩
       . simp [intOf];omega
      | false=>
       have HFT2:=Zab (HFT.o.same hlv hlt he);go_wp2;go_roundw
       . exact⟨k+1,_,by go_num,by omega,HFT2.o,HSO.o,HT.o⟩
       . simp [intOf];omega
    . have HE:Hd (L=Ze6 V x.fields):=HFT.o.done HL.o (by omega)
      have hR:∀ i,wr.cell? ⟨w.heap.size+1,i,none⟩=(#[.string ⟨#[]⟩,.string ⟨#[]⟩,.string ⟨#[]⟩,.slice none 0 0,.bool false,.slice none 0 0,.int .i64 0]:Array Value)[i]?:=fun i=>by
       rw [HT.o.cell (p:=⟨w.heap.size+1,i,none⟩) (by simp only [];omega) (by simp only [];omega)];exact G2.o i
      have hRf:∀ i,wr.frozen? ⟨w.heap.size+1,i,none⟩=false:=fun i=>by
       rw [HT.o.frozen (p:=⟨w.heap.size+1,i,none⟩) (by simp only [];omega) (by simp only [];omega)];exact GF2.o i
      have HH3:Hd (Zad mid w1.heap.size wr (.slice a3 Ho.length cap3) Ho):=HH2.o.touch HT.o (Or.inr Zl_);have r0:wr.cell? ⟨w.heap.size+1,0,none⟩=some (.string ⟨#[]⟩):=hR 0;have r1:wr.cell? ⟨w.heap.size+1,1,none⟩=some (.string ⟨#[]⟩):=hR 1;have r2:wr.cell? ⟨w.heap.size+1,2,none⟩=some (.string ⟨#[]⟩):=hR 2;have r3:wr.cell? ⟨w.heap.size+1,3,none⟩=some (.slice none 0 0):=hR 3;have r4:wr.cell? ⟨w.heap.size+1,4,none⟩=some (.bool false):=hR 4;have r5:wr.cell? ⟨w.heap.size+1,5,none⟩=some (.slice none 0 0):=hR 5;have r6:wr.cell? ⟨w.heap.size+1,6,none⟩=some (.int .i64 0):=hR 6;clear hR;go_wp2
      refine bodyPost_ret (v:=.agg #[.string kind,.string nm,.string team,.slice a2 V.length cap2,.bool en,.slice a3 Ho.length cap3,.int .i64 ver]) (by simp [results,results174,go_sem,r0,r1,r2,r3,r4,r5,r6]) rfl ⟨_,_,rfl,?_,mid,by omega,by simp only [World.setCell,Array.size_modify];omega,?_,?_⟩
      . repeat (refine Below.setCell ?_ (by simp only [];omega) _)
        exact HBr.o
      . rw [HG.o,<- HE.o]
        refine Zad.wide (lo:=w.heap.size+2) (hi:=mid) ?_ (by omega) Zl_
        repeat (refine Zad.setCell ?_ (by simp only [];omega) _)
        exact HSO.o
      . refine Zad.wide (lo:=mid) (hi:=w1.heap.size) ?_ Zl_ (by simp only [World.setCell,Array.size_modify];omega)
        repeat (refine Zad.setCell ?_ (by simp only [];omega) _)
        exact HH3.o
 . have HG:Hd (Zhk Ss kind V=V):=Zi9 hno
   have hR:=G2.o;have hRf:=GF2.o;have r0:w2.cell? ⟨w.heap.size+1,0,none⟩=some (.string ⟨#[]⟩):=hR 0;have r1:w2.cell? ⟨w.heap.size+1,1,none⟩=some (.string ⟨#[]⟩):=hR 1;have r2:w2.cell? ⟨w.heap.size+1,2,none⟩=some (.string ⟨#[]⟩):=hR 2;have r3:w2.cell? ⟨w.heap.size+1,3,none⟩=some (.slice none 0 0):=hR 3;have r4:w2.cell? ⟨w.heap.size+1,4,none⟩=some (.bool false):=hR 4;have r5:w2.cell? ⟨w.heap.size+1,5,none⟩=some (.slice none 0 0):=hR 5;have r6:w2.cell? ⟨w.heap.size+1,6,none⟩=some (.int .i64 0):=hR 6;clear hR;go_wp2;refine bodyPost_ret (v:=.agg #[.string kind,.string nm,.string team,.slice a2 V.length cap2,.bool en,.slice a3 Ho.length cap3,.int .i64 ver]) (by simp [results,results174,go_sem,r0,r1,r2,r3,r4,r5,r6]) rfl ⟨_,_,rfl,?_,mid,by omega,by simp only [World.setCell,Array.size_modify];omega,?_,?_⟩
   . repeat (refine Below.setCell ?_ (by simp only [];omega) _)
     exact HB2.o
   . rw [HG.o]
     refine Zad.wide (lo:=w.heap.size+2) (hi:=mid) ?_ (by omega) Zl_
     repeat (refine Zad.setCell ?_ (by simp only [];omega) _)
     exact HV2.o
   . refine Zad.wide (lo:=mid) (hi:=w1.heap.size) ?_ Zl_ (by simp only [World.setCell,Array.size_modify];omega)
     repeat (refine Zad.setCell ?_ (by simp only [];omega) _)
     exact HH2.o
end
structure Box (w:World) (β:Nat) (cs:Array Value):Prop where
 lt:β < w.heap.size
 cell:∀ i,w.cell? ⟨β,i,none⟩=cs[i]?
 free:∀ i,w.frozen? ⟨β,i,none⟩=false
theorem Box.new (X:World) (cs:Array Value) (t:TypeId) (β:Nat) (h:X.heap.size=β):Box (X.alloc (.cells cs t)) β cs:=⟨by subst h;simp,fun i=>ZaR _ _ _ _ _ h,fun i=>Zjr _ _ _ _ _ h⟩
theorem Box.below {w:World}{B:Nat} (h:Box w β cs) (hb:Below B w w') (hB:β < B):Box w' β cs:=
 ⟨Zk_ h.lt hb.size,fun i=>by rw [hb.cell (p:=⟨β,i,none⟩) hB];exact h.cell i,fun i=>by rw [hb.frozen (p:=⟨β,i,none⟩) hB];exact h.free i⟩
theorem Box.on {w:World} (h:Box w β cs) (hb:Zw_ w w'):Box w' β cs:=h.below hb h.lt
theorem Box.drew {w:World} (h:Box w β cs):Box w.drew β cs:=⟨h.lt,h.cell,h.free⟩
theorem Box.touch {w:World}{lo:Nat} (h:Box w β cs) (hb:Zag lo hi w w') (ho:β < lo\/hi<=β):Box w' β cs:=
 ⟨Zk_ h.lt hb.size,fun i=>by rw [hb.cell (p:=⟨β,i,none⟩) h.lt ho];exact h.cell i,fun i=>by rw [hb.frozen (p:=⟨β,i,none⟩) h.lt ho];exact h.free i⟩
theorem Box.set {w:World} (h:Box w β cs) (u:Value) (hk:k < cs.size):Box (w.setCell ⟨β,k,none⟩ u) β (cs.set k u):=by
 refine⟨by simpa [World.setCell] using h.lt,fun i=>?_,fun i=>by rw [World.frozen?_setCell];exact h.free i⟩;rw [Array.getElem?_set]
 by_cases hi:k=i
 . subst hi
   rw [if_pos rfl];have:(w.cell? ⟨β,k,none⟩)=some cs[k]:=by rw [h.cell];simp
   exact World.cell?_setCell_same' _ _ _ (by rw [this];rfl)
 . rw [if_neg hi,Zah _ _ _ _ _ hi];exact h.cell i
theorem Box.setFar {w:World} (h:Box w β cs) {p:Addr} (hp:p.block≠β) (u:Value):Box (w.setCell p u) β cs:=
 ⟨by simpa [World.setCell] using h.lt,fun i=>by rw [World.cell?_setCell_far _ _ _ _ hp];exact h.cell i,fun i=>by rw [World.frozen?_setCell];exact h.free i⟩
theorem Zac (X:World) (o:Obj):Below X.heap.size X (X.alloc o):=Zb_.alloc Zl_ _
theorem bt {a b c:World} (h:Below a.heap.size a b) (k:Below b.heap.size b c):Below a.heap.size a c:=h.trans (k.mono h.size)
theorem Zla {X Y:World} (h:Below X.drew.heap.size X.drew Y):Below X.heap.size X Y:=((Below.refl X.heap.size X).drew).trans (h.mono Zl_)
theorem ZqD.below {lo:Nat}{w:World} (h:ZqD lo hi w v n) (hb:Zw_ w w'):ZqD lo hi w' v n:=by
 rcases h with h | ⟨b,off,cap,m,h1,h2,h3,h4,h5,h6,h7,h8,h9⟩
 . exact Or.inl h
 . exact Or.inr ⟨b,off,cap,m,h1,h2,h3,h4,h5,h6,h7,h8,h9.below hb⟩
abbrev Zbo (W0:World) (b1:Nat) (cs1:Array Value) (b2:Nat) (cs2:Array Value) (W:World):Prop:=
 (∀ i,W.cell? ⟨b1,i,none⟩=cs1[i]?)/\(∀ i,W.cell? ⟨b2,i,none⟩=cs2[i]?)/\Hd (Below W0.heap.size W0 W/\b1 < W0.heap.size/\b2 < W0.heap.size)
theorem Zbo.drew (h1:Box W0 b1 cs1) (h2:Box W0 b2 cs2):Zbo W0 b1 cs1 b2 cs2 W0.drew:=⟨h1.cell,h2.cell,Zb_.drew,h1.lt,h2.lt⟩
theorem Zbo.on {W W':World} (h:Zbo W0 b1 cs1 b2 cs2 W) (hb:Below W.heap.size W W'):Zbo W0 b1 cs1 b2 cs2 W':=by
 obtain⟨h1,h2,h3,h4,h5⟩:=h;have:=h3.size;exact⟨fun i=>(hb.cell (p:=⟨b1,i,none⟩) (by simp only [];omega)).trans (h1 i),fun i=>(hb.cell (p:=⟨b2,i,none⟩) (by simp only [];omega)).trans (h2 i),bt h3 hb,h4,h5⟩
end
section
variable {a:Option Addr} {n cap:Nat}
def Zbx (f:Fd) (v:Zy_):Int:=if v.toList.isEmpty=true then (if f.mu=true then 2 else 0) else if ZaL f.kd f.le f.mo f.words v=true then 0 else 3
def Zbe (Fs:List Fd) (V:List Zy_):List Int:=List.zipWith Zbx Fs V
def ff:List Int->Nat->Int×Int
 | [],_=>(0,0)
 | c :: r,n=>if c=0 then ff r (n+1) else (c,n)
theorem ZrH:∀ (L:List Int) (n:Nat),(∀ k (hk:k < L.length),L[k]=0)->ff L n=(0,0)
 | [],_,_=>rfl
 | c :: r,n,h=>by
  have h0:c=0:=h 0 (by simp);unfold ff;rw [if_pos h0];exact ZrH r (n+1) fun k hk=>h (k+1) (by simpa using hk)
theorem ZrI:∀ (L:List Int) (n k:Nat) (hk:k < L.length),L[k]≠0->(∀ j (hj:j < L.length),j < k->L[j]=0)->ff L n=(L[k],((n+k:Nat):Int))
 | c :: r,n,0,_,h,_=>by
  have h':c≠0:=h;unfold ff;rw [if_neg h'];simp
 | c :: r,n,k+1,hk,h,hall=>by
  have h0:c=0:=hall 0 (by simp) (by omega);unfold ff;rw [if_pos h0,ZrI r (n+1) k (by simpa using hk) h (fun j hj hjk=>hall (j+1) (by simpa using hj) (by omega))];simp only [List.getElem_cons_succ,Prod.mk.injEq,true_and]
  omega
theorem ZdF {Fs:List Fd}{V:List Zy_} (h:V.length=Fs.length):(Zbe Fs V).length=Fs.length:=by simp [Zbe,h]
theorem Zgd {Fs:List Fd}{V:List Zy_}{i:Nat} (h:i < (Zbe Fs V).length) (h1:i < Fs.length) (h2:i < V.length):(Zbe Fs V)[i]=Zbx Fs[i] V[i]:=by simp [Zbe]
theorem Zhj {Fs:List Fd}{V:List Zy_} (hl:V.length=Fs.length) (h:∀ j (h1:j < Fs.length) (h2:j < V.length),j < Fs.length->Zbx Fs[j] V[j]=0):ff (Zbe Fs V) 0=(0,0):=
 ZrH _ _ fun k hk=>by rw [Zgd hk (by rw [ZdF hl] at hk;exact hk) (by rw [ZdF hl] at hk;omega)];exact h k _ _ (by rw [ZdF hl] at hk;exact hk)
theorem ZeR {Fs:List Fd}{V:List Zy_} (hl:V.length=Fs.length) {k:Nat} {c:Int} (h1:k < Fs.length) (h2:k < V.length) (hc:Zbx Fs[k] V[k]=c) (h0:c≠0) (h:∀ j (h1:j < Fs.length) (h2:j < V.length),j < k->Zbx Fs[j] V[j]=0):ff (Zbe Fs V) 0=(c,(k:Int)):=by
 have hk:k < (Zbe Fs V).length:=by rw [ZdF hl];exact h1
 have e:(Zbe Fs V)[k]=c:=by rw [Zgd hk h1 h2];exact hc
 rw [ZrI _ 0 k hk (by rw [e];exact h0) (fun j hj hjk=>by rw [Zgd hj (by rw [ZdF hl] at hj;exact hj) (by omega)];exact h j _ _ hjk),e,Nat.zero_add]
def Zlf (r:Int×Int):Value:=if r.1=0 then .nilIface else .iface 347 (.agg #[.int .i64 r.1,.int .i64 r.2])
theorem Zau.fullz {lo:Nat}{w:World}{Fs:List Fd} (h:Zau lo w (.slice a n cap) Fs) (hL:0 < Fs.length) :
 ∃ b off,a=some ⟨b,off,none⟩/\b < w.heap.size/\∀ i (h:i < Fs.length),Ze8 Fs[i]/\∃ wv,ZcL w b (off+i*11) Fs[i] wv/\Zaf w wv Fs[i].words:=by
 rcases h with ⟨a',cap',h,rfl⟩ | ⟨b',off',cap',h1,h2,h3,h4,h5,h6,h7⟩
 . simp at hL
 . injection h1 with e1 e2 e3
   exact⟨b',off',e1,h4,fun i hi=>by obtain⟨q1,wv,q2,q3⟩:=h7 i hi;exact⟨q1,wv,q2,q3.at⟩⟩
theorem Zau.len {lo:Nat}{w:World}{v:Value}{Fs:List Fd} (h:Zau lo w v Fs):Fs.length<=maxLen:=by
 rcases h with ⟨_,_,_,rfl⟩ | ⟨_,_,_,_,_,h,_⟩
 . exact Nat.zero_le _
 . exact h
theorem Zaf.fullz {w:World}{L:List Zy_} (h:Zaf w (.slice a n cap) L) (hL:0 < L.length) :
 ∃ b off,a=some ⟨b,off,none⟩/\n=L.length/\b < w.heap.size/\∀ i (h:i < L.length),L[i].size<=maxLen/\w.cell? ⟨b,off+i,none⟩=some (.string L[i]):=by
 rcases h with ⟨a',cap',h,rfl⟩ | ⟨b',off',cap',h1,h2,h3,h4,h5,h6⟩
 . simp at hL
 . injection h1 with e1 e2 e3
   exact⟨b',off',e1,e2,h4,fun i hi=>⟨h6 _ (List.getElem_mem hi),h5 i hi⟩⟩
section
variable (kd kind nm team:Zy_) (vv hv fv:Value) (en:Bool) (ver:Int) (V Ho:List Zy_) (Fs:List Fd) (w:World) (lo:Nat)
theorem Zha (hV:Zaf w vv V) (hF:Zau lo w fv Fs) (hl:V.length=Fs.length) :
 Calls prog 291 #[.agg #[.string kd,fv],.agg #[.string kind,.string nm,.string team,vv,.bool en,hv,.int .i64 ver]] w
  fun e w'=>e=.returned (Zlf (ff (Zbe Fs V) 0))/\Zw_ w w':=by
 have HV:=Zab hV;have HF:=Zab hF;obtain⟨a,n,cap,rfl⟩:=hV.form;obtain⟨a1,cap1,rfl⟩:=hF.form;have HL:=Zab hl;have hn:=hF.len;unfold maxLen at hn;clear hV hF hl;have HW:∀ o o',Hd (Zw_ w ((w.alloc o).alloc o')):=fun o o'=>(Zb_.alloc Zl_ _).alloc (by simp) _
 go_enter func291,ntmps291;go_wp2_with fail;refine (ZeT _).mono ?_;rintro e w1 ⟨rfl,hw1⟩;have hr1:w1.heap[w.heap.size+2]?=some (.map Zak 4):=by have:=ZgE ((w.alloc (.cells #[.string kd,.slice a1 Fs.length cap1] 131)).alloc (.cells #[.string kind,.string nm,.string team,.slice a n cap,.bool en,hv,.int .i64 ver] 128)) (.map Zak 4);rw [<- hw1] at this;simpa using this
 have hbx:Hd (∀ i,w1.cell? ⟨w.heap.size,i,none⟩=(#[.string kd,.slice a1 Fs.length cap1]:Array Value)[i]?):=fun i=>by
  rw [hw1,World.cell?_alloc_lt _ _ _ (by simp;omega),World.cell?_alloc_lt _ _ _ (by simp)];simp
 have hby:Hd (∀ i,w1.cell? ⟨w.heap.size+1,i,none⟩=(#[.string kind,.string nm,.string team,.slice a n cap,.bool en,hv,.int .i64 ver]:Array Value)[i]?):=fun i=>by
  rw [hw1,World.cell?_alloc_lt _ _ _ (by simp)];simp
 have HB1:Hd (Zw_ w w1):=by rw [hw1];exact (HW _ _).o.alloc (by simp;omega) _
 have hz1:w1.heap.size=w.heap.size+3:=by rw [hw1];simp
 have HR1:=Zab hr1;clear hw1 hr1;have q0:=hbx.o;go_wp2
 go_loopw [13] (fun i wr=>∃ k:Nat,i=.int .i64 k/\k<=Fs.length/\Below w1.heap.size w1 wr/\∀ j (h1:j < Fs.length) (h2:j < V.length),j < k->Zbx Fs[j] V[j]=0) (fun i _=>Fs.length - (intOf i).toNat)
 case atStart=>exact⟨0,rfl,by omega,Below.refl _ _,fun j _ _ h=>by omega⟩
 case round=>
  obtain⟨k,rfl,hk,hb,hall⟩:=hrel;have HA:=Zab hall;have HBB:=Zab hb;have hszr:w.heap.size+2 < wr.heap.size:=by have:=hb.size;omega
  have hsz1:w.heap.size+1 < wr.heap.size:=by omega
  have HBr:Hd (Zw_ w wr):=HB1.o.trans (hb.mono (by omega));have HRr:Hd (wr.heap[w.heap.size+1+1]?=some (.map Zak 4)):=by unfold Hd;rw [hb.block _ (by omega)];exact HR1.o
  have hO:∀ i,wr.cell? ⟨w.heap.size+1,i,none⟩=(#[.string kind,.string nm,.string team,.slice a n cap,.bool en,hv,.int .i64 ver]:Array Value)[i]?:=fun i=>by
   rw [hb.cell (p:=⟨w.heap.size+1,i,none⟩) (by simp only [];omega)];exact hby.o i
  clear hb hall q0
  by_cases hlt:k < Fs.length
  . have hlv:k < V.length:=by have:=HL.o;omega
    obtain⟨fb,foff,rfl,hfb,hfc⟩:=HF.o.fullz (by omega);obtain⟨hsz,wv,hcell,hst⟩:=hfc k hlt;obtain⟨c0,c1,c2,c3,c4,c5,c6,c7,c8,c9,c10⟩:=hcell.below HBr.o hfb;obtain⟨wa,wn,wcap,rfl⟩:=hst.form;obtain⟨vb,voff,rfl,rfl,hvb,hvc⟩:=HV.o.fullz (by omega);have hvk:wr.cell? ⟨vb,voff+k,none⟩=some (.string V[k]):=by rw [HBr.o.cell (p:=⟨vb,_,none⟩) hvb];exact (hvc k hlv).2
    have hvbr:vb < wr.heap.size:=by have:=HBr.o.size;omega
    have HZ:=Zab (hvc k hlv).1;have HST:=Zab hst;clear hcell hst hvc hfc hsz
    cases he:V[k].toList.isEmpty with
    | true=>
     cases hm:Fs[k].mu with
     | true=>
      have HX:Hd (ff (Zbe Fs V) 0=(2,(k:Int))):=ZeR HL.o hlt hlv (by unfold Zbx;rw [he,hm];rfl) (by decide) HA.o;have HBo:∀ o,Hd (Zw_ w (wr.alloc o)):=fun o=>HBr.o.alloc (by omega) o
      rw [hm] at c7;clear HA;go_wp2;go_ret;exact⟨by rw [HX.o];rfl,(HBo _).o⟩
     | false=>
      have HX:Hd (Zbx Fs[k] V[k]=0):=by unfold Hd Zbx;rw [he,hm];rfl
      rw [hm] at c7;go_wp2;go_roundw
      case rel=>exact⟨k+1,by go_num,by omega,HBB.o.alloc (HBB.o.size) _,fun j h1 h2 hj=>by
                 by_cases e:j=k
                 . subst e;exact HX.o
                 . exact HA.o j h1 h2 (by omega)⟩
      . simp [intOf];omega
    | false=>
     have HBo:∀ o,Hd (Below wr.heap.size wr (wr.alloc o)):=fun o=>Zb_.alloc Zl_ o
     have HRo:∀ o,Hd ((wr.alloc o).heap[w.heap.size+1+1]?=some (.map Zak 4)):=fun o=>by unfold Hd;rw [Below.heap_alloc _ _ _ (by omega)];exact HRr.o
     go_wp2_with fail;refine (Zin _ _ _ _ _ _ _ _ _ _ Fs[k].words _ _ _ _ (HRo _).o (HST.o.below (HBr.o.trans ((HBo _).o.mono HBr.o.size))) HZ.o).mono ?_;rintro e w2 ⟨rfl,hb2⟩;have HB2:Hd (Below wr.heap.size wr w2):=(HBo _).o.trans (hb2.mono (HBo _).o.size);have HBw:Hd (Zw_ w w2):=HBr.o.trans (HB2.o.mono HBr.o.size);have HB3:Hd (Below w1.heap.size w1 w2):=HBB.o.trans (HB2.o.mono HBB.o.size);clear hb2
     cases hf:ZaL Fs[k].kd Fs[k].le Fs[k].mo Fs[k].words V[k] with
     | true=>
      have HX:Hd (Zbx Fs[k] V[k]=0):=by unfold Hd Zbx;rw [he,hf];rfl
      go_wp2;go_roundw
      case rel=>exact⟨k+1,by go_num,by omega,HB3.o,fun j h1 h2 hj=>by
                 by_cases e:j=k
                 . subst e;exact HX.o
                 . exact HA.o j h1 h2 (by omega)⟩
      . simp [intOf];omega
     | false=>
      have HX:Hd (ff (Zbe Fs V) 0=(3,(k:Int))):=ZeR HL.o hlt hlv (by unfold Zbx;rw [he,hf];rfl) (by decide) HA.o;clear HA;go_wp2;go_ret;exact⟨by rw [HX.o];rfl,HBw.o⟩
  . have HX:Hd (ff (Zbe Fs V) 0=(0,0)):=Zhj HL.o (fun j h1 h2 _=>HA.o j h1 h2 (by omega))
    clear HA;go_wp2;go_ret;exact⟨by rw [HX.o];rfl,HBr.o⟩
end
end
section
variable (nm tt df we:Zy_) (kd le mo ro:Int) (mu fx:Bool) (wv:Value) (w:World)
theorem ZoJ (s:Zy_) (B:Nat) (hB:B < w.heap.size) (hs:w.cell? ⟨B,0,none⟩=some (.string s)) :
 Calls prog 295 #[.agg #[.string nm,.int .i64 kd,.int .i64 le,.int .i64 mo,wv,.string tt,.int .i64 ro,.bool mu,.bool fx,.string df,.string we],.pointer (some ⟨B,0,none⟩)] w
  fun e w'=>e=.returned (.bool (nm.toList == s.toList))/\Zw_ w w':=by
 go_enter func295,ntmps295;go_wp2;go_ret;exact⟨rfl,Zb_.alloc Zl_ _⟩
end
theorem Zh1 (lo:Nat) (v:Value) (Fs:List Fd) (s:Zy_) (B:Nat) (w:World) (hv:Zau lo w v Fs) (hB:B < w.heap.size) (hs:w.cell? ⟨B,0,none⟩=some (.string s)) :
 Calls prog 294 #[v,.func (.func 295) #[] #[.pointer (some ⟨B,0,none⟩)]] w fun e w'=>e=.returned (.int .i64 (Zb9 Fs s))/\Zw_ w w':=by
 by_cases hL:Fs=[]
 . subst hL
   obtain⟨a,cap,rfl⟩:=Zdp hv;clear hv;go_enter func294,ntmps294;go_wp2
   go_loop [8] (fun i=>i=.int .i64 0) (fun _=>0)
   case atStart=>rfl
   case round=>
    subst hrel;go_wp2;go_ret;exact⟨rfl,Below.refl _ _⟩
 . obtain⟨b,off,cap,rfl,hm,hbw,_,hc⟩:=hv.full hL
   clear hv;unfold maxLen at hm;go_enter func294,ntmps294;go_wp2
   go_loopw [8] (fun i wr=>∃ k:Nat,i=.int .i64 k/\k<=Fs.length/\Zw_ w wr/\∀ j (hj:j < Fs.length),j < k->(Fs[j].nm.toList == s.toList)=false) (fun i _=>Fs.length - (intOf i).toNat)
   case atStart=>exact⟨0,rfl,by omega,Below.refl _ _,fun j _ h=>by omega⟩
   case round=>
    obtain⟨k,rfl,hk,hb,hall⟩:=hrel;have HA:=Zab hall;have HB:=Zab hb;clear hall hb
    by_cases hlt:k < Fs.length
    . obtain⟨_,wv,hcell,_⟩:=hc k hlt
      obtain⟨c0,c1,c2,c3,c4,c5,c6,c7,c8,c9,c10⟩:=hcell.below HB.o hbw;clear hcell;go_wp2_with fail;refine (ZoJ _ _ _ _ _ _ _ _ _ _ _ _ s B (Zk_ hB HB.o.size) (by rw [HB.o.cell (p:=⟨B,0,none⟩) hB];exact hs)).mono ?_;rintro e w1 ⟨rfl,hb1⟩;have HB1:Hd (Zw_ w w1):=HB.o.trans (hb1.mono HB.o.size);clear hb1 c0 c1 c2 c3 c4 c5 c6 c7 c8 c9 c10
      cases he:(Fs[k].nm.toList == s.toList) with
      | true=>
       go_wp2;go_ret;exact⟨by rw [ZiE hlt he HA.o];rfl,HB1.o⟩
      | false=>
       go_wp2;go_roundw
       case rel=>exact⟨k+1,by go_num,by omega,HB1.o,fun j hj h=>by
                  by_cases e:j=k
                  . subst e;exact he
                  . exact HA.o j hj (by omega)⟩
       . simp [intOf];omega
    . go_wp2
      go_ret;exact⟨by rw [ZkG fun j hj=>HA.o j hj (by omega)];rfl,HB.o⟩
theorem Zfo (lo:Nat) (kind:Zy_) (v:Value) (Fs:List Fd) (s:Zy_) (w:World) (hv:Zau lo w v Fs) :
 Calls prog 283 #[.agg #[.string kind,v],.string s] w fun e w'=>e=.returned (.int .i64 (Zb9 Fs s))/\Zw_ w w':=by
 have HV:=Zab hv;obtain⟨a,cap,rfl⟩:=hv.form;clear hv;have HW:∀ o o',Hd (Zw_ w ((w.alloc o).alloc o')):=fun o o'=>(Zb_.alloc Zl_ _).alloc (by simp) _
 go_enter func283,ntmps283;go_wp2_with fail;refine (Zh1 lo _ Fs s _ _ (HV.o.below (HW _ _).o) (by simp) (by simp)).mono ?_;rintro e w1 ⟨rfl,hb⟩;have HB:Hd (Zw_ w w1):=(HW _ _).o.trans (hb.mono (by simp;omega));clear hb;go_wp2;go_ret;exact⟨rfl,HB.o⟩
def Zox (lo:Nat) (Fs:List Fd) (s:Zy_) (e:Ending) (w:World):Prop:=
 (∃ (f:Fd) (wv:Value),Fs[ZaO Fs s]?=some f/\Zbg Fs s=true/\e=.returned (.tuple #[.agg #[.string f.nm,.int .i64 f.kd,.int .i64 f.le,.int .i64 f.mo,wv,.string f.to,.int .i64 f.ro,.bool f.mu,.bool f.fx,.string f.df,.string f.we],.bool true])/\Zaq lo w wv f.words)\/
 (Zbg Fs s=false/\e=.returned (.tuple #[.agg #[.string ⟨#[]⟩,.int .i64 0,.int .i64 0,.int .i64 0,.slice none 0 0,.string ⟨#[]⟩,.int .i64 0,.bool false,.bool false,.string ⟨#[]⟩,.string ⟨#[]⟩],.bool false]))
theorem ZgH (lo:Nat) (kind:Zy_) (v:Value) (Fs:List Fd) (s:Zy_) (w0 w:World) (hv:Zau lo w0 v Fs) (h0:Below w0.heap.size w0 w) :
 Calls prog 264 #[.agg #[.string kind,v],.string s] w fun e w'=>Zw_ w w'/\Zox lo Fs s e w0:=by
 have HV:=Zab hv;have H0:=Zab h0;obtain⟨a,cap,rfl⟩:=hv.form;clear hv h0;go_enter func264,ntmps264;go_wp2_with fail;generalize hWa:w.alloc _=Wa;have hza:Wa.heap.size=w.heap.size+1:=by rw [<- hWa];simp
 have HBa:Hd (Zw_ w Wa):=by rw [<- hWa];exact Zac _ _
 have FS:Hd (Box Wa w.heap.size #[.string kind,.slice a Fs.length cap]):=by rw [<- hWa];exact Box.new _ _ _ _ rfl
 clear hWa;generalize hWb:Wa.alloc _=Wb;have hbb:Below Wa.heap.size Wa Wb:=by rw [<- hWb];exact Zac _ _
 have HBb:Hd (Zw_ w Wb):=HBa.o.trans (hbb.mono (by omega));have FS:=Zab (FS.o.on hbb);have FR:Hd (Box Wb (w.heap.size+1) #[.string ⟨#[]⟩,.int .i64 0,.int .i64 0,.int .i64 0,.slice none 0 0,.string ⟨#[]⟩,.int .i64 0,.bool false,.bool false,.string ⟨#[]⟩,.string ⟨#[]⟩]):=by rw [<- hWb];exact Box.new _ _ _ _ hza
 clear hWb hbb HBa hza;refine (Zfo lo _ _ Fs s _ (HV.o.below (H0.o.trans (HBb.o.mono H0.o.size)))).mono ?_;rintro e w1 ⟨rfl,hb1⟩;have FS:=Zab (FS.o.on hb1);have FR:=Zab (FR.o.on hb1);have HB1:Hd (Zw_ w w1):=HBb.o.trans (hb1.mono HBb.o.size);clear hb1 HBb;have g1:=FS.o.cell;have gl:=FS.o.lt;have r:=FR.o.cell;have rf:=FR.o.free;have rl:=FR.o.lt;have r0:w1.cell? ⟨w.heap.size+1,0,none⟩=some (.string ⟨#[]⟩):=r 0;have r1:w1.cell? ⟨w.heap.size+1,1,none⟩=some (.int .i64 0):=r 1;have r2:w1.cell? ⟨w.heap.size+1,2,none⟩=some (.int .i64 0):=r 2;have r3:w1.cell? ⟨w.heap.size+1,3,none⟩=some (.int .i64 0):=r 3;have r4:w1.cell? ⟨w.heap.size+1,4,none⟩=some (.slice none 0 0):=r 4;have r5:w1.cell? ⟨w.heap.size+1,5,none⟩=some (.string ⟨#[]⟩):=r 5;have r6:w1.cell? ⟨w.heap.size+1,6,none⟩=some (.int .i64 0):=r 6
 have r7:w1.cell? ⟨w.heap.size+1,7,none⟩=some (.bool false):=r 7;have r8:w1.cell? ⟨w.heap.size+1,8,none⟩=some (.bool false):=r 8;have r9:w1.cell? ⟨w.heap.size+1,9,none⟩=some (.string ⟨#[]⟩):=r 9;have r10:w1.cell? ⟨w.heap.size+1,10,none⟩=some (.string ⟨#[]⟩):=r 10
 have HST:∀ (u0 u1 u2 u3 u4 u5 u6 u7 u8 u9 u10:Value),Hd (Zw_ w (((((((((((w1.setCell ⟨w.heap.size+1,0,none⟩ u0).setCell ⟨w.heap.size+1,1,none⟩ u1).setCell ⟨w.heap.size+1,2,none⟩ u2).setCell ⟨w.heap.size+1,3,none⟩ u3).setCell ⟨w.heap.size+1,4,none⟩ u4).setCell ⟨w.heap.size+1,5,none⟩ u5).setCell ⟨w.heap.size+1,6,none⟩ u6).setCell ⟨w.heap.size+1,7,none⟩ u7).setCell ⟨w.heap.size+1,8,none⟩ u8).setCell ⟨w.heap.size+1,9,none⟩ u9).setCell ⟨w.heap.size+1,10,none⟩ u10)):=fun u0 u1 u2 u3 u4 u5 u6 u7 u8 u9 u10=>by
  have q:∀ (i:Nat),w.heap.size<=(⟨w.heap.size+1,i,none⟩:Addr).block:=fun i=>Nat.le_succ _
  exact (((((((((((HB1.o.setCell (q 0) _).setCell (q 1) _).setCell (q 2) _).setCell (q 3) _).setCell (q 4) _).setCell (q 5) _).setCell (q 6) _).setCell (q 7) _).setCell (q 8) _).setCell (q 9) _).setCell (q 10) _)
 clear r
 by_cases hp:ZaO Fs s < Fs.length
 . rw [ZbM hp]
   obtain⟨b,off,rfl,hbw0,hc⟩:=HV.o.full' (by omega);have hbw:b < w.heap.size:=Zk_ hbw0 H0.o.size
   obtain⟨_,wv,hcell,hwd⟩:=hc _ hp;have HWD:=Zab hwd;obtain⟨wa,wn,wcap,rfl⟩:=hwd.form;obtain⟨c0,c1,c2,c3,c4,c5,c6,c7,c8,c9,c10⟩:=hcell.below (H0.o.trans (HB1.o.mono H0.o.size)) hbw0;have HQ:Hd (Zbg Fs s=!(Fs[ZaO Fs s].kd == 4)):=Zmp hp;have HFF:Hd (Fs[ZaO Fs s]?=some Fs[ZaO Fs s]):=List.getElem?_eq_getElem hp
   have hpm:(Fs.length:Int)<=9223372036854775807:=by
    rcases HV.o with ⟨_,_,h,_⟩ | ⟨_,_,_,_,_,h,_⟩
    . injection h;omega
    . unfold maxLen at h;omega
   clear hc hwd hcell;generalize hpp:ZaO Fs s=p at*
   cases hk:(Fs[p].kd == 4) with
   | true=>
    have HN:Hd (Zbg Fs s=false):=by unfold Hd;rw [HQ.o,hk];rfl
    have e4:Fs[p].kd=4:=by simpa using hk
    rw [e4] at c1;clear hk;go_wp2;refine bodyPost_ret (v:=.tuple #[.agg #[.string ⟨#[]⟩,.int .i64 0,.int .i64 0,.int .i64 0,.slice none 0 0,.string ⟨#[]⟩,.int .i64 0,.bool false,.bool false,.string ⟨#[]⟩,.string ⟨#[]⟩],.bool false]) (by simp [results,results264,go_sem,r0,r1,r2,r3,r4,r5,r6,r7,r8,r9,r10]) rfl ⟨?_,Or.inr ⟨HN.o,rfl⟩⟩;exact (HST _ _ _ _ _ _ _ _ _ _ _).o
   | false=>
    have HN:Hd (Zbg Fs s=true):=by unfold Hd;rw [HQ.o,hk];rfl
    have e4:¬ Fs[p].kd=4:=by simpa using hk
    go_wp2;refine bodyPost_ret (v:=.tuple #[.agg #[.string Fs[p].nm,.int .i64 Fs[p].kd,.int .i64 Fs[p].le,.int .i64 Fs[p].mo,(.slice wa wn wcap),.string Fs[p].to,.int .i64 Fs[p].ro,.bool Fs[p].mu,.bool Fs[p].fx,.string Fs[p].df,.string Fs[p].we],.bool true]) (by simp [results,results264,go_sem,r0,r1,r2,r3,r4,r5,r6,r7,r8,r9,r10]) rfl ⟨?_,Or.inl ⟨Fs[p],_,by rw [hpp];exact HFF.o,HN.o,rfl,HWD.o⟩⟩;exact (HST _ _ _ _ _ _ _ _ _ _ _).o
 . rw [ZkF hp]
   have HN:Hd (Zbg Fs s=false):=Zmq hp;go_wp2;refine bodyPost_ret (v:=.tuple #[.agg #[.string ⟨#[]⟩,.int .i64 0,.int .i64 0,.int .i64 0,.slice none 0 0,.string ⟨#[]⟩,.int .i64 0,.bool false,.bool false,.string ⟨#[]⟩,.string ⟨#[]⟩],.bool false]) (by simp [results,results264,go_sem,r0,r1,r2,r3,r4,r5,r6,r7,r8,r9,r10]) rfl ⟨?_,Or.inr ⟨HN.o,rfl⟩⟩;exact (HST _ _ _ _ _ _ _ _ _ _ _).o
end Go.Proofs.YtmappejlmapboaaGreat
