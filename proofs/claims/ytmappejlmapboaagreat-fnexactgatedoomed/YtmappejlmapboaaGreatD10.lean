import Derived.Test.YtmappejlmapboaaGreatD06
import Derived.Test.YtmappejlmapboaaGreatD07
import Derived.Test.YtmappejlmapboaaGreatD09
import Derived.Deep.AppendLies
import Derived.Deep.Upon
import Derived.Deep.RegionHeld3
import Derived.Deep.DeepCutAuto
set_option maxHeartbeats 16000000
set_option maxRecDepth 100000
open Go.Proofs.Tryz
namespace Go.Proofs.YtmappejlmapboaaGreat
open Go.RowKit Go.Deep
section
variable {w' W0:World} {v:Value} {a:Option Addr} {k hi cap n β b1 b2:Nat} {cs cs1 cs2:Array Value}
theorem ZdD (lo:Nat) (v:Value) (Ss:List Sh) (s:Zy_) (w0 w:World) (hv:ZaI lo w0 v Ss) (h0:Below w0.heap.size w0 w) :
 Calls prog 189 #[v,.string s] w fun e w'=>Zw_ w w'/\ZpC lo Ss s e w0:=by
 by_cases hL:Ss=[]
 . subst hL
   obtain⟨a,cap,rfl⟩:=hv.form;clear hv;go_enter func189,ntmps189;go_wp2
   go_loop [10] (fun i=>i=.int .i64 0) (fun _=>0)
   case atStart=>rfl
   case round=>
    subst hrel;go_wp2;refine bodyPost_ret (v:=.tuple #[.agg #[.string ⟨#[]⟩,.slice none 0 0],.bool false]) (by simp [results,results189,go_sem]) rfl ⟨?_,Or.inr ⟨rfl,rfl⟩⟩;exact Zb_.alloc Zl_ _
 . obtain⟨b,off,cap,rfl,hm,hbw,hc⟩:=hv.full hL
   clear hv;have H0:=Zab h0;clear h0;unfold maxLen at hm;have hA:∀ (o:Obj) (wr:World),Below (w.heap.size+1) (w.alloc o) wr->Zw_ w wr:=fun o wr h=>(Zb_.alloc Zl_ o).trans (h.mono (by omega))
   go_enter func189,ntmps189;go_wp2
   go_loopw [10] (fun i wr=>∃ k:Nat,i=.int .i64 k/\k<=Ss.length/\Below (w.heap.size+1) (w.alloc (.cells #[.string ⟨#[]⟩,.slice none 0 0] 131)) wr/\∀ i (h:i < Ss.length),i < k->(Ss[i].kind.toList == s.toList)=false) (fun i _=>Ss.length - (intOf i).toNat)
   case atStart=>exact⟨0,rfl,by omega,Below.refl _ _,fun i _ h=>by omega⟩
   case round=>
    obtain⟨k,rfl,hk,hb,hall⟩:=hrel;have HA:=Zab hall;clear hall;have hz:w.heap.size < wr.heap.size:=by have:=hb.size;simp at this;omega
    have hB:Hd (Zw_ w wr):=hA _ _ hb;have hB0:Hd (Below w0.heap.size w0 wr):=H0.o.trans (hB.o.mono H0.o.size);have q0:wr.cell? ⟨w.heap.size,0,none⟩=some (.string ⟨#[]⟩):=by rw [hb.cell (p:=⟨w.heap.size,_,none⟩) (by simp)];simp
    have q1:wr.cell? ⟨w.heap.size,1,none⟩=some (.slice none 0 0):=by rw [hb.cell (p:=⟨w.heap.size,_,none⟩) (by simp)];simp
    have qf:∀ o,wr.frozen? ⟨w.heap.size,o,none⟩=false:=fun o=>by rw [hb.frozen (p:=⟨w.heap.size,_,none⟩) (by simp)];simp
    have HBB:=Zab hb;clear hb
    by_cases hlt:k < Ss.length
    . obtain⟨_,fv,c0,c1,hst⟩:=hc k hlt
      have e0:wr.cell? ⟨b,off+k*2,none⟩=some (.string Ss[k].kind):=by rw [hB0.o.cell (p:=⟨b,_,none⟩) hbw];exact c0
      have e1:wr.cell? ⟨b,off+k*2+1,none⟩=some fv:=by rw [hB0.o.cell (p:=⟨b,_,none⟩) hbw];exact c1
      obtain⟨a1,cap1,rfl⟩:=hst.form;have HST:=Zab hst;clear c0 c1 hst
      by_cases he:(Ss[k].kind.toList == s.toList)=true
      . go_wp2
        have HF:Zw_ w (((wr.setCell ⟨w.heap.size,0,none⟩ (.string Ss[k].kind)).setCell ⟨w.heap.size,1,none⟩ (.slice a1 Ss[k].fields.length cap1)).alloc (.cells #[.string Ss[k].kind,.slice a1 Ss[k].fields.length cap1] 131)):=
         ((hB.o.setCell Zl_ _).setCell Zl_ _).alloc (by simp [World.setCell];omega) _
        have hold:∀ (X:World) (o:Obj) (j:Nat),w.heap.size < X.heap.size->(X.alloc o).cell? ⟨w.heap.size,j,none⟩=X.cell? ⟨w.heap.size,j,none⟩:=fun X o j h=>((Below.refl X.heap.size X).alloc Zl_ o).cell (p:=⟨w.heap.size,j,none⟩) h
        have f0:(((wr.setCell ⟨w.heap.size,0,none⟩ (.string Ss[k].kind)).setCell ⟨w.heap.size,1,none⟩ (.slice a1 Ss[k].fields.length cap1)).alloc (.cells #[.string Ss[k].kind,.slice a1 Ss[k].fields.length cap1] 131)).cell? ⟨w.heap.size,0,none⟩=some (.string Ss[k].kind):=by
         rw [hold _ _ _ (by simpa [World.setCell] using hz),Zdi _ _ _ _ (by simp),Zck _ _ _ _ q0]
        have f1:(((wr.setCell ⟨w.heap.size,0,none⟩ (.string Ss[k].kind)).setCell ⟨w.heap.size,1,none⟩ (.slice a1 Ss[k].fields.length cap1)).alloc (.cells #[.string Ss[k].kind,.slice a1 Ss[k].fields.length cap1] 131)).cell? ⟨w.heap.size,1,none⟩=some (.slice a1 Ss[k].fields.length cap1):=by
         rw [hold _ _ _ (by simpa [World.setCell] using hz),Zck _ _ _ _ (by rw [Zdi _ _ _ _ (by simp)];exact q1)]
        exact bodyPost_ret (v:=.tuple #[.agg #[.string Ss[k].kind,.slice a1 Ss[k].fields.length cap1],.bool true]) (by simp [results,results189,go_sem,f0,f1]) rfl ⟨HF,Or.inl ⟨Ss[k],_,Zge hlt he HA.o,rfl,HST.o⟩⟩
      . have he':(Ss[k].kind.toList == s.toList)=false:=by simpa using he
        clear he;go_wp2;go_roundw
        case rel=>exact⟨k+1,by go_num,by omega,HBB.o.alloc (by omega) _,fun i h h'=>by
                   by_cases e:i=k
                   . subst e;exact he'
                   . exact HA.o i h (by omega)⟩
        . simp [intOf];omega
    . go_wp2
      refine bodyPost_ret (v:=.tuple #[.agg #[.string ⟨#[]⟩,.slice none 0 0],.bool false]) (by simp [results,results189,go_sem,q0,q1]) rfl ⟨?_,Or.inr ⟨Zgd fun i h=>HA.o i h (by omega),rfl⟩⟩;exact (hB.o.setCell Zl_ _).setCell Zl_ _
theorem Zhy (W:World) (g:Nat) (src:Value) (L:List Zy_) (ty:TypeId) (hs:Zaf W src L) (hn:L.length<=1048576) (hg:W.heap.size=g) :
 ∃ v' w',(Builtin.append_ #[111,111] ty #[.slice (some ⟨g,0,none⟩) 0 0,src]).run prog (W.alloc (.cells #[] 9))=.ok v' w'/\Below W.heap.size W w'/\Zad W.heap.size w'.heap.size w' v' L:=by
 subst hg;obtain⟨i0,hi,hz0,hz1,hz2⟩:=info_parts Tryz.info9;have hA:Below W.heap.size W (W.alloc (.cells #[] 9)):=Zb_.alloc Zl_ _
 rcases hs with ⟨a,cap,rfl,rfl⟩ | ⟨b,off,cap,rfl,hne,hm,hbw,hc,hsz⟩
 . refine⟨.slice (some ⟨W.heap.size,0,none⟩) 0 0,_,run_append_nothing _ 111 111 ty 9 i0 underlying111 hi _ 0 0 Zl_ _ ?_,hA,Or.inl ⟨_,_,rfl,rfl⟩⟩
   cases a with
   | none=>exact Src.ofNil _ underlying111 _
   | some ad=>exact Src.ofSlice _ underlying111 ad 0 cap [] (by simp) (fun j u h=>by simp at h) (fun u h=>by simp at h)
 . have hown:=World.ownsRow_made (base:=W.heap.size) (e:=9) (size:=1) W #[] 0 Zl_ Zz_ (by simp)
   obtain⟨g,cap',w',hr,h2,h3,h4,h5⟩:=run_append_lies (P:=prog) (W.alloc (.cells #[] 9)) 111 ty W.heap.size 9 i0 (.string ⟨#[]⟩) 1 16 underlying111 hi hz0 hz1 hz2 rfl (by omega) _ 0 [] hown ⟨b,off,none⟩ L.length cap (L.map Value.string) (by simp) (fun j u hj=>by
    obtain⟨hj1,hj2⟩:=List.getElem?_eq_some_iff.1 hj;simp only [List.length_map] at hj1;rw [Go.WideShapes.add_plain,hA.cell (p:=⟨b,off+j,none⟩) hbw,hc j hj1,<- hj2];simp) (fun u hu=>by obtain⟨s,_,rfl⟩:=List.mem_map.1 hu;rfl) (List.length_pos_iff.2 hne) (by rw [Nat.zero_add];exact hm) (by omega) (by simp) (W.heap.size+1) (by simp)
   rw [Nat.zero_add] at hr h2;have hob:(Value.slice (some (⟨W.heap.size,0,none⟩:Addr)) 0 0).ownBlock=some W.heap.size:=rfl;rw [hob] at h3 h4;have hB:Below W.heap.size W w':=hA.trans ⟨h3.os,h3.tape,h3.output,h3.size,fun k hk=>h3.block k (by simp;omega) (by simp;omega)⟩;refine⟨_,w',hr,hB,Or.inr ⟨g,0,cap',rfl,hne,hm,h5,fun i hi=>?_,hsz,?_,h5,fun i=>?_⟩⟩
   . have:=h2.cells (g:=g) rfl i (.string L[i]) (by simp [hi])
     rw [Go.WideShapes.add_plain] at this;exact this
   . rcases h4 with h4 | h4
     . have:W.heap.size=g:=by simpa using h4
       omega
     . omega
   . rcases h2.2 with ⟨h,_⟩ | ⟨g',cap2,cur,hv,_,hh,_⟩
     . cases h
     . have e:g=g':=by injection hv with e1 _ _;injection e1 with e2;injection e2
       subst e;simp [World.frozen?,hh]
theorem Zbt {P:Program}{w:World}{v1 v2:Value}{ops:Array Oper}{rest:List Oper}{o:Oper}{a:Act}{Q:Exit->Act->World->Prop} (hgd:o.guard=none) (s x:Operand) (t:TypeId)
 (ho:o.op=.call { callee:=.builtin .append,args:=#[s,x],argTypes:=#[t,t] }) (hs:a.eval s=v1) (hx:a.eval x=v2) (hr:(Builtin.append_ #[t,t] o.type #[v1,v2]).run P w=.ok v w')
 (h:wpList P ops Q rest (a.put o.dst v) w'):wpList P ops Q (o :: rest) a w:=by
 refine wpList_plain hgd fun K hK=>?_
 unfold Oper.wp execOp;simp only [ho,resolve,invoke,builtin,Sem.run_bind,Sem.run_pure,Result.andThen_ok,List.map_toArray,List.map_cons,List.map_nil,hs,hx,hr];exact hK _ _ h
section
variable (kind nm team:Zy_) (vv hv:Value) (en:Bool) (ver:Int) (V Ho:List Zy_) (w:World)
theorem Zi5 (hV:Zaf w vv V) (hH:Zaf w hv Ho) (n1:V.length<=1048576) (n2:Ho.length<=1048576) :
 Calls prog 112 #[.agg #[.string kind,.string nm,.string team,vv,.bool en,hv,.int .i64 ver]] w
  fun e w'=>∃ v' h',e=.returned (.agg #[.string kind,.string nm,.string team,v',.bool en,h',.int .i64 ver])/\Zw_ w w'/\ZfW w.heap.size w' v' h' V Ho:=by
 have HV:=Zab hV;have HH:=Zab hH;obtain⟨a,n,cap,rfl⟩:=hV.form;obtain⟨a',n',cap',rfl⟩:=hH.form;clear hV hH;have HW:∀ o o',Hd (Zw_ w ((w.alloc o).alloc o')):=fun o o'=>(Zb_.alloc Zl_ _).alloc (by simp) _
 obtain⟨v1,w1,hap,hb,hs⟩:=Zhy ((w.alloc (.cells #[.string kind,.string nm,.string team,.slice a n cap,.bool en,.slice a' n' cap',.int .i64 ver] 128)).alloc (.cells #[.string ⟨#[]⟩,.string ⟨#[]⟩,.string ⟨#[]⟩,.slice none 0 0,.bool false,.slice none 0 0,.int .i64 0] 128)) (w.heap.size+1+1) (.slice a n cap) V 111 (HV.o.below (HW _ _).o) n1 (by simp);obtain⟨a1,cap1,rfl⟩:=hs.form;have HS:Hd (Zad (w.heap.size+2) w1.heap.size w1 (.slice a1 V.length cap1) V):=hs.wide (by simp) Zl_;have hz:w.heap.size+1 < w1.heap.size:=by have:=hb.size;simp at this;omega
 obtain⟨hc,hf⟩:=Zgu hb;have HB:Hd (Zw_ w w1):=(HW _ _).o.trans (hb.mono (by simp;omega));clear hb hs;have hz0:w.heap.size < w1.heap.size:=by omega
 have g0:∀ i,w1.cell? ⟨w.heap.size,i,none⟩=(#[.string kind,.string nm,.string team,.slice a n cap,.bool en,.slice a' n' cap',.int .i64 ver]:Array Value)[i]?:=fun i=>by
  rw [hc _ _ (by simp;omega),((Below.refl (w.alloc (.cells #[.string kind,.string nm,.string team,.slice a n cap,.bool en,.slice a' n' cap',.int .i64 ver] 128)).heap.size _).alloc Zl_ _).cell (p:=⟨w.heap.size,i,none⟩) (by simp)];simp
 have g1:∀ i,w1.cell? ⟨w.heap.size+1,i,none⟩=(#[.string ⟨#[]⟩,.string ⟨#[]⟩,.string ⟨#[]⟩,.slice none 0 0,.bool false,.slice none 0 0,.int .i64 0]:Array Value)[i]?:=fun i=>by
  rw [hc _ _ (by simp)];simp
 have gf0:∀ i,w1.frozen? ⟨w.heap.size,i,none⟩=false:=fun i=>by rw [hf _ _ (by simp;omega)];simp
 have gf1:∀ i,w1.frozen? ⟨w.heap.size+1,i,none⟩=false:=fun i=>by rw [hf _ _ (by simp)];simp
 clear hc hf;have hX:Hd (Zw_ w (w1.setCell ⟨w.heap.size,3,none⟩ (.slice a1 V.length cap1))):=HB.o.setCell Zl_ _;have hXs:(w1.setCell ⟨w.heap.size,3,none⟩ (.slice a1 V.length cap1)).heap.size=w1.heap.size:=by simp [World.setCell]
 have HS':=Zab (HS.o.setCell (p:=⟨w.heap.size,3,none⟩) (by simp only [];omega) (.slice a1 V.length cap1));obtain⟨v2,w2,hap2,hb2,hs2⟩:=Zhy (w1.setCell ⟨w.heap.size,3,none⟩ (.slice a1 V.length cap1)) w1.heap.size (.slice a' n' cap') Ho 111 (HH.o.below hX.o) n2 hXs;obtain⟨a2,cap2,rfl⟩:=hs2.form;have HS2:Hd (Zad (w.heap.size+2) w1.heap.size w2 (.slice a1 V.length cap1) V):=HS'.o.below hb2;have HH2:Hd (Zad w1.heap.size w2.heap.size w2 (.slice a2 Ho.length cap2) Ho):=by unfold Hd;rw [<- hXs];exact hs2
 have hz2:w.heap.size+1 < w2.heap.size:=by have:=hb2.size;rw [hXs] at this;omega
 have hz3:w1.heap.size<=w2.heap.size:=by have:=hb2.size;rw [hXs] at this;exact this
 have HB2:Hd (Zw_ w w2):=hX.o.trans (hb2.mono hX.o.size);have hc2:∀ b o,b < w1.heap.size->w2.cell? ⟨b,o,none⟩=(w1.setCell ⟨w.heap.size,3,none⟩ (.slice a1 V.length cap1)).cell? ⟨b,o,none⟩:=fun b o h=>hb2.cell (p:=⟨b,o,none⟩) (by rw [hXs];exact h)
 have hf2:∀ b o,b < w1.heap.size->w2.frozen? ⟨b,o,none⟩=(w1.setCell ⟨w.heap.size,3,none⟩ (.slice a1 V.length cap1)).frozen? ⟨b,o,none⟩:=fun b o h=>hb2.frozen (p:=⟨b,o,none⟩) (by rw [hXs];exact h)
 clear hb2 hs2 hXs;have k3:w2.cell? ⟨w.heap.size,3,none⟩=some (.slice a1 V.length cap1):=by rw [hc2 _ _ hz0];exact World.cell?_setCell_same' _ _ _ (by rw [g0];rfl)
 have k':∀ i,i≠3->w2.cell? ⟨w.heap.size,i,none⟩=(#[.string kind,.string nm,.string team,.slice a n cap,.bool en,.slice a' n' cap',.int .i64 ver]:Array Value)[i]?:=fun i hi=>by rw [hc2 _ _ hz0,Zah _ _ _ _ _ (fun e=>hi e.symm),g0]
 have k0:w2.cell? ⟨w.heap.size,0,none⟩=some (.string kind):=k' 0 (by omega);have k1:w2.cell? ⟨w.heap.size,1,none⟩=some (.string nm):=k' 1 (by omega);have k2:w2.cell? ⟨w.heap.size,2,none⟩=some (.string team):=k' 2 (by omega);have k4:w2.cell? ⟨w.heap.size,4,none⟩=some (.bool en):=k' 4 (by omega);have k5:w2.cell? ⟨w.heap.size,5,none⟩=some (.slice a' n' cap'):=k' 5 (by omega);have k6:w2.cell? ⟨w.heap.size,6,none⟩=some (.int .i64 ver):=k' 6 (by omega);have j':∀ i,w2.cell? ⟨w.heap.size+1,i,none⟩=(#[.string ⟨#[]⟩,.string ⟨#[]⟩,.string ⟨#[]⟩,.slice none 0 0,.bool false,.slice none 0 0,.int .i64 0]:Array Value)[i]?:=fun i=>by rw [hc2 _ _ hz,show (w1.setCell ⟨w.heap.size,3,none⟩ (.slice a1 V.length cap1)).cell? ⟨w.heap.size+1,i,none⟩=w1.cell? ⟨w.heap.size+1,i,none⟩ from by apply World.cell?_setCell_other;simp,g1]
 have j0:w2.cell? ⟨w.heap.size+1,0,none⟩=some (.string ⟨#[]⟩):=j' 0;have j1:w2.cell? ⟨w.heap.size+1,1,none⟩=some (.string ⟨#[]⟩):=j' 1;have j2:w2.cell? ⟨w.heap.size+1,2,none⟩=some (.string ⟨#[]⟩):=j' 2;have j3:w2.cell? ⟨w.heap.size+1,3,none⟩=some (.slice none 0 0):=j' 3;have j4:w2.cell? ⟨w.heap.size+1,4,none⟩=some (.bool false):=j' 4;have j5:w2.cell? ⟨w.heap.size+1,5,none⟩=some (.slice none 0 0):=j' 5;have j6:w2.cell? ⟨w.heap.size+1,6,none⟩=some (.int .i64 0):=j' 6;have fz0:∀ o,w2.frozen? ⟨w.heap.size,o,none⟩=false:=fun o=>by rw [hf2 _ _ hz0,World.frozen?_setCell];exact gf0 o
 have fz1:∀ o,w2.frozen? ⟨w.heap.size+1,o,none⟩=false:=fun o=>by rw [hf2 _ _ hz,World.frozen?_setCell];exact gf1 o
 clear hc2 hf2 k' j';go_enter func112,ntmps112;go_wp2_with (first|(at_builtin;refine Zbt rfl (.tmp 3) (.tmp 5) 111 rfl rfl rfl hap ?_)|(at_builtin;refine Zbt rfl (.tmp 8) (.tmp 10) 111 rfl rfl rfl hap2 ?_));refine bodyPost_ret (v:=.agg #[.string kind,.string nm,.string team,.slice a1 V.length cap1,.bool en,.slice a2 Ho.length cap2,.int .i64 ver]) (by simp [results,results112,go_sem,j0,j1,j2,j3,j4,j5,j6]) rfl ⟨_,_,rfl,?_,w1.heap.size,by omega,by simp only [World.setCell,Array.size_modify];exact hz3,?_,?_⟩
 . repeat (refine Below.setCell ?_ (by simp only [];omega) _)
   exact HB2.o
 . refine Zad.wide (lo:=w.heap.size+2) (hi:=w1.heap.size) ?_ (by omega) Zl_
   repeat (refine Zad.setCell ?_ (by simp only [];omega) _)
   exact HS2.o
 . refine Zad.wide (lo:=w1.heap.size) (hi:=w2.heap.size) ?_ Zl_ (by simp [World.setCell])
   repeat (refine Zad.setCell ?_ (by simp only [];omega) _)
   exact HH2.o
end
def Zfl (V:List Zy_) (Fs:List Fd):List Zy_:=List.zipWith (fun v (f:Fd)=>if v.toList.isEmpty=true then f.df else v) V Fs
theorem ZeU {V:List Zy_}{Fs:List Fd} (h:Fs.length=V.length):(Zfl V Fs).length=V.length:=by simp [Zfl,h]
theorem ZkG {V:List Zy_}{Fs:List Fd}{i:Nat} (hv:i < V.length) (hf:i < Fs.length):(Zfl V Fs)[i]?=some (if V[i].toList.isEmpty=true then Fs[i].df else V[i]):=by
 simp [Zfl,List.getElem?_zipWith,hv,hf]
def Zc0 (V:List Zy_) (Fs:List Fd) (k:Nat) (L:List Zy_):Prop:=
 L.length=V.length/\(∀ i,i < k->L[i]?=(Zfl V Fs)[i]?)/\∀ i,k<=i->L[i]?=V[i]?
theorem Zc0.zero (V:List Zy_) (Fs:List Fd):Zc0 V Fs 0 V:=⟨rfl,fun i h=>by omega,fun _ _=>rfl⟩
theorem Zc0.at {V:List Zy_}{Fs:List Fd}{L:List Zy_} (h:Zc0 V Fs k L) (hk:k < V.length) (hk':k < L.length):L[k]=V[k]:=by
 have:=h.2.2 k Zl_;rw [List.getElem?_eq_getElem hk',List.getElem?_eq_getElem hk] at this;exact Option.some.inj this
theorem Zc0.same {V:List Zy_}{Fs:List Fd}{L:List Zy_} (h:Zc0 V Fs k L) (hk:k < V.length) (hf:k < Fs.length) (he:V[k].toList.isEmpty=false):Zc0 V Fs (k+1) L:=by
 refine⟨h.1,fun i hi=>?_,fun i hi=>h.2.2 i (by omega)⟩
 by_cases e:i=k
 . subst e;rw [h.2.2 i Zl_,ZkG hk hf,List.getElem?_eq_getElem hk];simp [he]
 . exact h.2.1 i (by omega)
theorem Zc0.put {V:List Zy_}{Fs:List Fd}{L:List Zy_} (h:Zc0 V Fs k L) (hk:k < V.length) (hf:k < Fs.length) (he:V[k].toList.isEmpty=true):Zc0 V Fs (k+1) (L.set k Fs[k].df):=by
 refine⟨by rw [List.length_set];exact h.1,fun i hi=>?_,fun i hi=>?_⟩
 . by_cases e:i=k
   . subst e;rw [ZkG hk hf,List.getElem?_set_self (by rw [h.1];exact hk)];simp [he]
   . rw [List.getElem?_set_ne (by omega)];exact h.2.1 i (by omega)
 . rw [List.getElem?_set_ne (by omega)];exact h.2.2 i (by omega)
theorem Zc0.done {V:List Zy_}{Fs:List Fd}{L:List Zy_} (h:Zc0 V Fs k L) (hl:Fs.length=V.length) (hk:Fs.length<=k):L=Zfl V Fs:=by
 apply List.ext_getElem?;intro i
 by_cases e:i < k
 . exact h.2.1 i e
 . rw [List.getElem?_eq_none (by rw [h.1];omega),List.getElem?_eq_none (by rw [ZeU hl];omega)]
theorem Zad.put {lo:Nat}{w:World}{b off:Nat}{L:List Zy_} (h:Zad lo hi w (.slice (some ⟨b,off,none⟩) n cap) L) {k:Nat} (hk:k < L.length) {s:Zy_} (hs:s.size<=maxLen) :
 Zad lo hi (w.setCell ⟨b,off+k,none⟩ (.string s)) (.slice (some ⟨b,off,none⟩) n cap) (L.set k s):=by
 rcases h with ⟨a,cap',h,rfl⟩ | ⟨b',off',cap',h1,h2,h3,h4,h5,h6,h7,h8,h9⟩
 . simp at hk
 . injection h1 with e1 e2 e3
   injection e1 with e1
   injection e1 with q1 q2 q3
   subst q1 q2 e2 e3;refine Or.inr ⟨b,off,cap,by rw [List.length_set],?_,by rw [List.length_set];exact h3,by simpa [World.setCell] using h4,fun i hi'=>?_,fun t ht=>?_,h7,h8,fun i=>by rw [World.frozen?_setCell];exact h9 i⟩
   . intro e;have:=congrArg List.length e;rw [List.length_set] at this;simp at this;exact h2 this
   . have hi2:i < L.length:=by rw [List.length_set] at hi';exact hi'
     by_cases e:i=k
     . subst e;rw [Zck _ _ _ _ (h5 i hi2)];simp
     . rw [Zah _ _ _ _ _ (by omega),h5 i hi2,List.getElem_set_ne (by omega)]
   . rcases List.mem_or_eq_of_mem_set ht with ht | rfl
     . exact h6 t ht
     . exact hs
theorem Zad.full {lo:Nat}{w:World}{L:List Zy_} (h:Zad lo hi w (.slice a n cap) L) (hL:0 < L.length) :
 ∃ b off,a=some ⟨b,off,none⟩/\n=L.length/\b < w.heap.size/\lo<=b/\b < hi/\(∀ i (h:i < L.length),w.cell? ⟨b,off+i,none⟩=some (.string L[i]))/\∀ i,w.frozen? ⟨b,off+i,none⟩=false:=by
 rcases h with ⟨a',cap',h,rfl⟩ | ⟨b',off',cap',h1,h2,h3,h4,h5,h6,h7,h8,h9⟩
 . simp at hL
 . injection h1 with e1 e2 e3
   exact⟨b',off',e1,e2,h4,h7,h8,h5,h9⟩
theorem Zau.full' {lo:Nat}{w:World}{Fs:List Fd} (h:Zau lo w (.slice a n cap) Fs) (hL:0 < Fs.length) :
 ∃ b off,a=some ⟨b,off,none⟩/\b < w.heap.size/\∀ i (h:i < Fs.length),Zfn Fs[i]/\∃ wv,ZcR w b (off+i*11) Fs[i] wv/\Zaq lo w wv Fs[i].words:=by
 rcases h with ⟨a',cap',h,rfl⟩ | ⟨b',off',cap',h1,h2,h3,h4,h5,h6,h7⟩
 . simp at hL
 . injection h1 with e1 e2 e3
   exact⟨b',off',e1,h4,h7⟩
theorem ZaJ (X:World) (cs:Array Value) (t:TypeId) (g i:Nat) (hg:X.heap.size=g):(X.alloc (.cells cs t)).cell? ⟨g,i,none⟩=cs[i]?:=by subst hg;simp
theorem Zj5 (X:World) (cs:Array Value) (t:TypeId) (g i:Nat) (hg:X.heap.size=g):(X.alloc (.cells cs t)).frozen? ⟨g,i,none⟩=false:=by subst hg;simp
section
variable (kd kind nm team:Zy_) (vv hv fv:Value) (en:Bool) (ver:Int) (V Ho:List Zy_) (Fs:List Fd) (w:World) (lo:Nat)
theorem ZlV (hV:Zaf w vv V) (hH:Zaf w hv Ho) (hF:Zau lo w fv Fs) (n1:V.length<=1048576) (n2:Ho.length<=1048576) (hl:Fs.length=V.length) :
 Calls prog 273 #[.agg #[.string kd,fv],.agg #[.string kind,.string nm,.string team,vv,.bool en,hv,.int .i64 ver]] w
  fun e w'=>∃ v' h',e=.returned (.agg #[.string kind,.string nm,.string team,v',.bool en,h',.int .i64 ver])/\Zw_ w w'/\ZfW w.heap.size w' v' h' (Zfl V Fs) Ho:=by
 have HV:=Zab hV;have HH:=Zab hH;have HF:=Zab hF;obtain⟨a,n,cap,rfl⟩:=hV.form;obtain⟨a',n',cap',rfl⟩:=hH.form;obtain⟨a1,cap1,rfl⟩:=hF.form;have HL:=Zab hl;have hfn:Fs.length<=1048576:=by omega
 clear hV hH hF hl;have HW:∀ o o' o'',Hd (Zw_ w (((w.alloc o).alloc o').alloc o'')):=fun o o' o''=>((Zb_.alloc Zl_ _).alloc (by simp) _).alloc (by simp;omega) _
 go_enter func273,ntmps273;go_wp2_with fail;refine (ZhH _ _ _ _ _ _ _ V Ho _ (HV.o.below (HW _ _ _).o) (HH.o.below (HW _ _ _).o) n1 n2).mono ?_;rintro e w1 ⟨v1,h1,rfl,hb,hs⟩;obtain⟨mid,hlo,hmid,hs1,hs2⟩:=hs;obtain⟨a2,cap2,rfl⟩:=hs1.form;obtain⟨a3,cap3,rfl⟩:=hs2.form;have hz:w.heap.size+2 < w1.heap.size:=by have:=hb.size;simp at this;omega
 have hlo':w.heap.size+3<=mid:=by simpa using hlo
 obtain⟨hc,hf⟩:=Zgu hb;have HB:Hd (Zw_ w w1):=(HW _ _ _).o.trans (hb.mono (by simp;omega));have HS1:Hd (Zad (w.heap.size+3) mid w1 (.slice a2 V.length cap2) V):=hs1.wide (by simp) Zl_;have HS2:=Zab hs2
 have g0:∀ i,w1.cell? ⟨w.heap.size,i,none⟩=(#[.string kd,.slice a1 Fs.length cap1]:Array Value)[i]?:=fun i=>by
  rw [hc _ _ (by simp;omega),(((Below.refl (w.alloc (.cells #[.string kd,.slice a1 Fs.length cap1] 131)).heap.size _).alloc Zl_ _).alloc (by simp) _).cell (p:=⟨w.heap.size,i,none⟩) (by simp)];simp
 have g2:∀ i,w1.cell? ⟨w.heap.size+1+1,i,none⟩=(#[.string ⟨#[]⟩,.string ⟨#[]⟩,.string ⟨#[]⟩,.slice none 0 0,.bool false,.slice none 0 0,.int .i64 0]:Array Value)[i]?:=fun i=>by
  rw [hc _ _ (by simp)];exact ZaJ _ _ _ _ _ (by simp)
 have gf2:∀ i,w1.frozen? ⟨w.heap.size+1+1,i,none⟩=false:=fun i=>by rw [hf _ _ (by simp)];exact Zj5 _ _ _ _ _ (by simp)
 have G2:=Zab g2;have GF2:=Zab gf2;have hz0:w.heap.size < w1.heap.size:=by omega
 clear hb hs1 hs2 hc hf g2 gf2 hlo;go_wp2;have hA:Below w1.heap.size w1 (w1.alloc (.cells #[.string kind,.string nm,.string team,.slice a2 V.length cap2,.bool en,.slice a3 Ho.length cap3,.int .i64 ver] 128)):=Zb_.alloc Zl_ _;have hN:∀ i,(w1.alloc (.cells #[.string kind,.string nm,.string team,.slice a2 V.length cap2,.bool en,.slice a3 Ho.length cap3,.int .i64 ver] 128)).cell? ⟨w1.heap.size,i,none⟩=(#[.string kind,.string nm,.string team,.slice a2 V.length cap2,.bool en,.slice a3 Ho.length cap3,.int .i64 ver]:Array Value)[i]?:=fun i=>ZaJ _ _ _ _ _ rfl
 have hNs:(w1.alloc (.cells #[.string kind,.string nm,.string team,.slice a2 V.length cap2,.bool en,.slice a3 Ho.length cap3,.int .i64 ver] 128)).heap.size=w1.heap.size+1:=by simp
 generalize hW1:w1.alloc (.cells #[.string kind,.string nm,.string team,.slice a2 V.length cap2,.bool en,.slice a3 Ho.length cap3,.int .i64 ver] 128)=W1 at hA hN hNs |-;clear hW1;have HA:=Zab hA;have HN:=Zab hN;clear hA hN g0
 go_loopw [13] (fun i wr=>∃ (k:Nat) (L:List Zy_),i=.int .i64 k/\k<=Fs.length/\Zc0 V Fs k L/\Zad (w.heap.size+3) mid wr (.slice a2 V.length cap2) L/\Zag (w.heap.size+3) mid W1 wr) (fun i _=>Fs.length - (intOf i).toNat)
 case atStart=>exact⟨0,V,rfl,by omega,Zc0.zero _ _,HS1.o.below HA.o,Zag.refl _ _ _⟩
 case round=>
  obtain⟨k,L,rfl,hk,hfill,hso,htc⟩:=hrel;have HFT:=Zab hfill;have HSO:=Zab hso;have HT:=Zab htc;clear hfill hso htc;have hszr:w1.heap.size < wr.heap.size:=by have:=HT.o.size;omega
  have HBr:Hd (Zw_ w wr):=HB.o.trans ((HA.o.mono (by omega)).trans ((HT.o.under (by omega)).mono (by omega)))
  have hO:∀ i,wr.cell? ⟨w1.heap.size,i,none⟩=(#[.string kind,.string nm,.string team,.slice a2 V.length cap2,.bool en,.slice a3 Ho.length cap3,.int .i64 ver]:Array Value)[i]?:=fun i=>by
   rw [HT.o.cell (p:=⟨w1.heap.size,i,none⟩) (by simp only [];omega) (by simp only [];omega)];exact HN.o i
  by_cases hlt:k < Fs.length
  . have hlv:k < V.length:=by have:=HL.o;omega
    have hlL:k < L.length:=by rw [HFT.o.1];exact hlv
    obtain⟨fb,foff,rfl,hfb,hfc⟩:=HF.o.full' (by omega);obtain⟨hsz,wv,hcell,hst⟩:=hfc k hlt;obtain⟨c0,c1,c2,c3,c4,c5,c6,c7,c8,c9,c10⟩:=hcell.below HBr.o hfb;obtain⟨wa,wn,wcap,rfl⟩:=hst.form;obtain⟨vb,voff,rfl,_,hvb,hv1,hv2,hvc,hvf⟩:=HSO.o.full (by omega);have hvk:=hvc k hlL;rw [HFT.o.at hlv hlL] at hvk;have hvfk:=hvf k;clear hcell hst hvc hvf hfc
    cases he:V[k].toList.isEmpty with
    | true=>
     have HFT2:=Zab (HFT.o.put hlv hlt he);have HP:∀ o,Hd (Zad (w.heap.size+3) mid ((wr.setCell ⟨vb,voff+k,none⟩ (.string Fs[k].df)).alloc o) (.slice (some ⟨vb,voff,none⟩) V.length cap2) (L.set k Fs[k].df)):=fun o=>(HSO.o.put hlL hsz.s9).below (Zb_.alloc Zl_ o)
     have HTT:∀ o,Hd (Zag (w.heap.size+3) mid W1 ((wr.setCell ⟨vb,voff+k,none⟩ (.string Fs[k].df)).alloc o)):=fun o=>(HT.o.trans (Zag.setCell _ _ _ _ _ ⟨hv1,hv2⟩)).trans (Zag.below (Zb_.alloc Zl_ o))
     clear hsz;go_wp2;go_roundw
     . exact⟨k+1,_,by go_num,by omega,HFT2.o,(HP _).o,(HTT _).o⟩
     . simp [intOf];omega
    | false=>
     have HFT2:=Zab (HFT.o.same hlv hlt he);have HP:∀ o,Hd (Zad (w.heap.size+3) mid (wr.alloc o) (.slice (some ⟨vb,voff,none⟩) V.length cap2) L):=fun o=>(HSO.o.below (Zb_.alloc Zl_ o))
     have HTT:∀ o,Hd (Zag (w.heap.size+3) mid W1 (wr.alloc o)):=fun o=>(HT.o.trans (Zag.below (Zb_.alloc Zl_ o)))
     clear hsz;go_wp2;go_roundw
     . exact⟨k+1,_,by go_num,by omega,HFT2.o,(HP _).o,(HTT _).o⟩
     . simp [intOf];omega
  . have HE:Hd (L=Zfl V Fs):=HFT.o.done HL.o (by omega)
    have hR:∀ i,wr.cell? ⟨w.heap.size+1+1,i,none⟩=(#[.string ⟨#[]⟩,.string ⟨#[]⟩,.string ⟨#[]⟩,.slice none 0 0,.bool false,.slice none 0 0,.int .i64 0]:Array Value)[i]?:=fun i=>by
     rw [HT.o.cell (p:=⟨w.heap.size+1+1,i,none⟩) (by simp only [];omega) (by simp only [];omega),HA.o.cell (p:=⟨w.heap.size+1+1,i,none⟩) (by simp only [];omega)];exact G2.o i
    have hRf:∀ i,wr.frozen? ⟨w.heap.size+1+1,i,none⟩=false:=fun i=>by
     rw [HT.o.frozen (p:=⟨w.heap.size+1+1,i,none⟩) (by simp only [];omega) (by simp only [];omega),HA.o.frozen (p:=⟨w.heap.size+1+1,i,none⟩) (by simp only [];omega)];exact GF2.o i
    have HH2:Hd (Zad mid w1.heap.size wr (.slice a3 Ho.length cap3) Ho):=(HS2.o.below HA.o).touch HT.o (Or.inr Zl_);have r0:wr.cell? ⟨w.heap.size+1+1,0,none⟩=some (.string ⟨#[]⟩):=hR 0;have r1:wr.cell? ⟨w.heap.size+1+1,1,none⟩=some (.string ⟨#[]⟩):=hR 1;have r2:wr.cell? ⟨w.heap.size+1+1,2,none⟩=some (.string ⟨#[]⟩):=hR 2;have r3:wr.cell? ⟨w.heap.size+1+1,3,none⟩=some (.slice none 0 0):=hR 3;have r4:wr.cell? ⟨w.heap.size+1+1,4,none⟩=some (.bool false):=hR 4;have r5:wr.cell? ⟨w.heap.size+1+1,5,none⟩=some (.slice none 0 0):=hR 5;have r6:wr.cell? ⟨w.heap.size+1+1,6,none⟩=some (.int .i64 0):=hR 6;clear hR;go_wp2
    refine bodyPost_ret (v:=.agg #[.string kind,.string nm,.string team,.slice a2 V.length cap2,.bool en,.slice a3 Ho.length cap3,.int .i64 ver]) (by simp [results,results273,go_sem,r0,r1,r2,r3,r4,r5,r6]) rfl ⟨_,_,rfl,?_,mid,by omega,by simp only [World.setCell,Array.size_modify];omega,?_,?_⟩
    . repeat (refine Below.setCell ?_ (by simp only [];omega) _)
      exact HBr.o
    . rw [<- HE.o]
      refine Zad.wide (lo:=w.heap.size+3) (hi:=mid) ?_ (by omega) Zl_
      repeat (refine Zad.setCell ?_ (by simp only [];omega) _)
      exact HSO.o
    . refine Zad.wide (lo:=mid) (hi:=w1.heap.size) ?_ Zl_ (by simp only [World.setCell,Array.size_modify];omega)
      repeat (refine Zad.setCell ?_ (by simp only [];omega) _)
      exact HH2.o
end
theorem Zaf.form' {w:World}{L:List Zy_} (h:Zaf w v L):∃ a cap,v=.slice a L.length cap:=by
 rcases h with ⟨a,cap,h,rfl⟩ | ⟨b,off,cap,h,_⟩
 . exact⟨a,cap,h⟩
 . exact⟨_,cap,h⟩
theorem Zaj (X:World) (o:Obj) (b i:Nat) (h:b < X.heap.size):(X.alloc o).cell? ⟨b,i,none⟩=X.cell? ⟨b,i,none⟩:=((Below.refl X.heap.size X).alloc Zl_ o).cell (p:=⟨b,i,none⟩) h
theorem ZjN (X:World) (o:Obj) (b i:Nat) (h:b < X.heap.size):(X.alloc o).frozen? ⟨b,i,none⟩=X.frozen? ⟨b,i,none⟩:=((Below.refl X.heap.size X).alloc Zl_ o).frozen (p:=⟨b,i,none⟩) h
theorem ZeY (lo:Nat) (v:Value) (Ss:List Sh) (s:Zy_) (w:World) (hv:ZaI lo w v Ss) :
 Calls prog 162 #[v,.string s] w fun e w'=>w'=w/\((∃ k:Nat,k < Ss.length/\e=.returned (.int .i64 k)/\Zcn Ss s=Ss[k]?)\/(e=.returned (.int .i64 (-1))/\Zcn Ss s=none)):=by
 by_cases hL:Ss=[]
 . subst hL
   obtain⟨a,cap,rfl⟩:=hv.form;clear hv;go_enter func162,ntmps162;go_wp2
   go_loop [5] (fun i=>i=.int .i64 0) (fun _=>0)
   case atStart=>rfl
   case round=>
    subst hrel;go_wp2;go_ret;exact⟨rfl,rfl,rfl⟩
 . obtain⟨b,off,cap,rfl,hm,hbw,hc⟩:=hv.full hL
   clear hv;unfold maxLen at hm;go_enter func162,ntmps162;go_wp2
   go_loop [5] (fun i=>∃ k:Nat,i=.int .i64 k/\k<=Ss.length/\∀ i (h:i < Ss.length),i < k->(Ss[i].kind.toList == s.toList)=false) (fun i=>Ss.length - (intOf i).toNat)
   case atStart=>exact⟨0,rfl,by omega,fun i _ h=>by omega⟩
   case round=>
    obtain⟨k,rfl,hk,hall⟩:=hrel;have HA:=Zab hall;clear hall
    by_cases hlt:k < Ss.length
    . obtain⟨_,fv,hck,_,_⟩:=hc k hlt
      by_cases he:(Ss[k].kind.toList == s.toList)=true
      . go_wp2
        go_ret;exact⟨rfl,Or.inl ⟨k,hlt,rfl,by rw [Zge hlt he HA.o,List.getElem?_eq_getElem hlt]⟩⟩
      . have he':(Ss[k].kind.toList == s.toList)=false:=by simpa using he
        clear he;go_wp2
        go_round
        case rel=>exact⟨k+1,by go_num,by omega,fun i h h'=>by
                   by_cases e:i=k
                   . subst e;exact he'
                   . exact HA.o i h (by omega)⟩
        . simp [intOf];omega
    . go_wp2
      go_ret;exact⟨rfl,Or.inr ⟨rfl,Zgd fun i h=>HA.o i h (by omega)⟩⟩
theorem ZaI.full' {lo:Nat}{w:World}{Ss:List Sh} (h:ZaI lo w (.slice a n cap) Ss) (hL:0 < Ss.length) :
 ∃ b off,a=some ⟨b,off,none⟩/\b < w.heap.size/\∀ i (h:i < Ss.length),Ss[i].kind.size<=maxLen/\∃ fv,w.cell? ⟨b,off+i*2,none⟩=some (.string Ss[i].kind)/\w.cell? ⟨b,off+i*2+1,none⟩=some fv/\Zau lo w fv Ss[i].fields:=by
 rcases h with ⟨a',cap',h,rfl⟩ | ⟨b',off',cap',h1,h2,h3,h4,h5,h7⟩
 . simp at hL
 . injection h1 with e1 e2 e3
   exact⟨b',off',e1,h4,h7⟩
section
variable (kind nm team:Zy_) (vv hv sv:Value) (en:Bool) (ver:Int) (V Ho:List Zy_) (Ss:List Sh) (w:World) (lo:Nat)
def L2F (lo:Nat) (Ss:List Sh) (kind:Zy_) (n:Nat) (e:Ending) (w:World):Prop:=
 (∃ x fv,Zcn Ss kind=some x/\x.fields.length=n/\e=.returned (.tuple #[fv,.bool true])/\Zau lo w fv x.fields)\/
 ((∀ x,Zcn Ss kind=some x->x.fields.length≠n)/\∃ a cap,e=.returned (.tuple #[.slice a 0 cap,.bool false]))
theorem Zcr (w0:World) (hS:ZaI lo w0 sv Ss) (h0:Below w0.heap.size w0 w) (hV:Zaf w vv V) (hH:Zaf w hv Ho) :
 Calls prog 118 #[sv,.agg #[.string kind,.string nm,.string team,vv,.bool en,hv,.int .i64 ver]] w
  fun e w'=>Zw_ w w'/\L2F lo Ss kind V.length e w0:=by
 have HV:=Zab hV;have HH:=Zab hH;have HS:=Zab hS;obtain⟨a,cap,rfl⟩:=hV.form';obtain⟨a',cap',rfl⟩:=hH.form';obtain⟨a1,cap1,rfl⟩:=hS.form;have H0:=Zab h0;clear hV hH hS h0;have HW:∀ o,Hd (Zw_ w (w.alloc o)):=fun o=>Zb_.alloc Zl_ _
 go_enter func118,ntmps118;go_wp2_with fail;refine (ZeY lo _ Ss kind _ (HS.o.below (H0.o.trans ((HW _).o.mono H0.o.size)))).mono ?_;rintro e w1 ⟨rfl,⟨k,hk,rfl,hsh⟩ | ⟨rfl,hsh⟩⟩
 . have HSH:=Zab hsh
   clear hsh;obtain⟨b,off,rfl,hbw0,hc⟩:=HS.o.full' (by omega);have hbw:b < w.heap.size:=Zk_ hbw0 H0.o.size
   obtain⟨_,fv,d0,d1,hst⟩:=hc k hk;obtain⟨fa,fcap,rfl⟩:=hst.form;have HST:=Zab hst;have d1':∀ o,(w.alloc o).cell? ⟨b,off+k*2+1,none⟩=some (.slice fa Ss[k].fields.length fcap):=fun o=>by rw [Zaj _ _ _ _ hbw,H0.o.cell (p:=⟨b,_,none⟩) hbw0];exact d1
   clear d0 d1 hst hc;have hxk:Ss[k]?=some Ss[k]:=List.getElem?_eq_getElem hk
   by_cases hl:Ss[k].fields.length=V.length
   . have HL:=Zab hl
     have hne:((Ss[k].fields.length:Int) != (V.length:Int))=false:=by rw [hl];simp
     have HQ:Hd (Zcn Ss kind=some Ss[k]):=HSH.o.trans hxk;clear hl hxk HSH;go_wp2
     go_quiet (fail)
     go_wp2;refine bodyPost_ret (v:=.tuple #[.slice fa Ss[k].fields.length fcap,.bool true]) (by simp [results,results118,go_sem]) rfl ⟨below_drewN (HW _).o _,Or.inl ⟨Ss[k],_,HQ.o,HL.o,rfl,HST.o⟩⟩
   . have hne:((Ss[k].fields.length:Int) != (V.length:Int))=true:=by simp;omega
     have HQ:Hd (∀ x,Zcn Ss kind=some x->x.fields.length≠V.length):=fun x hx=>by
      rw [HSH.o,hxk] at hx;rw [<- Option.some.inj hx];exact hl
     clear hl hxk HSH;go_wp2
     go_quiet (fail)
     go_wp2;refine bodyPost_ret (v:=.tuple #[.slice (some ⟨w.heap.size+1,0,none⟩) 0 0,.bool false]) (by simp [results,results118,go_sem]) rfl ⟨?_,Or.inr ⟨HQ.o,_,_,rfl⟩⟩;exact (below_drewN (HW _).o _).alloc (by simp) _
 . have HQ:Hd (∀ x,Zcn Ss kind=some x->x.fields.length≠V.length):=fun x hx=>by rw [hsh] at hx;cases hx
   clear hsh;go_wp2
   go_quiet (fail)
   go_wp2;refine bodyPost_ret (v:=.tuple #[.slice (some ⟨w.heap.size+1,0,none⟩) 0 0,.bool false]) (by simp [results,results118,go_sem]) rfl ⟨?_,Or.inr ⟨HQ.o,_,_,rfl⟩⟩;exact (below_drewN (HW _).o _).alloc (by simp) _
end
def ZhM (Ss:List Sh) (kind:Zy_) (V:List Zy_):List Zy_:=
 match Zcn Ss kind with
 | some x=>if x.fields.length=V.length then Zfl V x.fields else V
 | none=>V
theorem ZjM {Ss:List Sh}{kind:Zy_}{V:List Zy_} (h:∀ x,Zcn Ss kind=some x->x.fields.length≠V.length):ZhM Ss kind V=V:=by
 unfold ZhM
 cases hx:Zcn Ss kind with
 | none=>rfl
 | some x=>exact if_neg (h x hx)
theorem ZhN {Ss:List Sh}{kind:Zy_}{V:List Zy_}{x:Sh} (h:Zcn Ss kind=some x) (hl:x.fields.length=V.length):ZhM Ss kind V=Zfl V x.fields:=by unfold ZhM;rw [h];exact if_pos hl
section
variable (kind nm team:Zy_) (vv hv sv:Value) (en:Bool) (ver:Int) (V Ho:List Zy_) (Ss:List Sh) (w:World) (lo:Nat)
theorem Zot (hS:ZaI lo w sv Ss) (hV:Zaf w vv V) (hH:Zaf w hv Ho) (n1:V.length<=1048576) (n2:Ho.length<=1048576) :
 Calls prog 174 #[sv,.agg #[.string kind,.string nm,.string team,vv,.bool en,hv,.int .i64 ver]] w
  fun e w'=>∃ v' h',e=.returned (.agg #[.string kind,.string nm,.string team,v',.bool en,h',.int .i64 ver])/\Zw_ w w'/\ZfW w.heap.size w' v' h' (ZhM Ss kind V) Ho:=by
 have HV:=Zab hV;have HH:=Zab hH;have HS:=Zab hS;obtain⟨a,cap,rfl⟩:=hV.form';obtain⟨a',cap',rfl⟩:=hH.form';obtain⟨a1,cap1,rfl⟩:=hS.form;clear hV hH hS;have HW:∀ o o',Hd (Zw_ w ((w.alloc o).alloc o')):=fun o o'=>(Zb_.alloc Zl_ _).alloc (by simp) _
 go_enter func174,ntmps174;go_wp2_with fail;refine (Zi5 _ _ _ _ _ _ _ V Ho _ (HV.o.below (HW _ _).o) (HH.o.below (HW _ _).o) n1 n2).mono ?_;rintro e w1 ⟨v1,h1,rfl,hb,mid,hlo,hmid,hs1,hs2⟩;obtain⟨a2,cap2,rfl⟩:=hs1.form;obtain⟨a3,cap3,rfl⟩:=hs2.form;have hz:w.heap.size+1 < w1.heap.size:=by have:=hb.size;simp at this;omega
 have hz0:w.heap.size < w1.heap.size:=by omega
 have hlo':w.heap.size+2<=mid:=by simpa using hlo
 obtain⟨hc,hf⟩:=Zgu hb;have HB:Hd (Zw_ w w1):=(HW _ _).o.trans (hb.mono (by simp;omega));have HS1:Hd (Zad (w.heap.size+2) mid w1 (.slice a2 V.length cap2) V):=hs1.wide (by simp) Zl_;have HS2:=Zab hs2
 have g0:∀ i,w1.cell? ⟨w.heap.size,i,none⟩=(#[.string kind,.string nm,.string team,.slice a V.length cap,.bool en,.slice a' Ho.length cap',.int .i64 ver]:Array Value)[i]?:=fun i=>by
  rw [hc _ _ (by simp;omega),Zaj _ _ _ _ (by simp)];exact ZaJ _ _ _ _ _ rfl
 have G1:Hd (∀ i,w1.cell? ⟨w.heap.size+1,i,none⟩=(#[.string ⟨#[]⟩,.string ⟨#[]⟩,.string ⟨#[]⟩,.slice none 0 0,.bool false,.slice none 0 0,.int .i64 0]:Array Value)[i]?):=fun i=>by
  rw [hc _ _ (by simp)];exact ZaJ _ _ _ _ _ (by simp)
 have GF1:Hd (∀ i,w1.frozen? ⟨w.heap.size+1,i,none⟩=false):=fun i=>by rw [hf _ _ (by simp)];exact Zj5 _ _ _ _ _ (by simp)
 clear hb hs1 hs2 hc hf hlo;go_wp2_with fail;have HX:∀ o,Hd (Zw_ w (w1.alloc o)):=fun o=>HB.o.alloc (by omega) _
 refine (Zcr _ _ _ _ _ _ _ _ V Ho Ss _ lo w HS.o (HX _).o (HV.o.below (HX _).o) (HH.o.below (HX _).o)).mono ?_;rintro e w2 ⟨hb2,hl2⟩;have hz2:w1.heap.size < w2.heap.size:=by have:=hb2.size;simp at this;omega
 have HB2:Hd (Zw_ w w2):=(HX _).o.trans (hb2.mono (HX _).o.size)
 have hO:∀ i,w2.cell? ⟨w1.heap.size,i,none⟩=(#[.string kind,.string nm,.string team,.slice a2 V.length cap2,.bool en,.slice a3 Ho.length cap3,.int .i64 ver]:Array Value)[i]?:=fun i=>by
  rw [hb2.cell (p:=⟨w1.heap.size,i,none⟩) (by simp)];exact ZaJ _ _ _ _ _ rfl
 have G2:Hd (∀ i,w2.cell? ⟨w.heap.size+1,i,none⟩=(#[.string ⟨#[]⟩,.string ⟨#[]⟩,.string ⟨#[]⟩,.slice none 0 0,.bool false,.slice none 0 0,.int .i64 0]:Array Value)[i]?):=fun i=>by
  rw [hb2.cell (p:=⟨w.heap.size+1,i,none⟩) (by simp;omega),Zaj _ _ _ _ hz];exact G1.o i
 have GF2:Hd (∀ i,w2.frozen? ⟨w.heap.size+1,i,none⟩=false):=fun i=>by
  rw [hb2.frozen (p:=⟨w.heap.size+1,i,none⟩) (by simp;omega),ZjN _ _ _ _ hz];exact GF1.o i
 have HA:∀ o,Hd (Below w1.heap.size w1 (w1.alloc o)):=fun o=>Zb_.alloc Zl_ _
 have HV2:Hd (Zad (w.heap.size+2) mid w2 (.slice a2 V.length cap2) V):=(HS1.o.below (HA _).o).below hb2;have HH2:Hd (Zad mid w1.heap.size w2 (.slice a3 Ho.length cap3) Ho):=(HS2.o.below (HA _).o).below hb2;clear hb2 g0 G1 GF1 HS1 HS2
 rcases hl2 with ⟨x,fv,hx,hl,rfl,hfd⟩ | ⟨hno,fa,fcap,rfl⟩
 . obtain⟨fa,fcap,rfl⟩:=hfd.form
   have HFD:=Zab hfd;have HG:Hd (ZhM Ss kind V=Zfl V x.fields):=ZhN hx hl;have HL:=Zab hl;have hfn:x.fields.length<=1048576:=by omega
   have HO:=Zab hO;clear hfd hx hl hO;go_wp2
   go_loopw [8] (fun i wr=>∃ (k:Nat) (L:List Zy_),i=.int .i64 k/\k<=x.fields.length/\Zc0 V x.fields k L/\Zad (w.heap.size+2) mid wr (.slice a2 V.length cap2) L/\Zag (w.heap.size+2) mid w2 wr) (fun i _=>x.fields.length - (intOf i).toNat)
   case atStart=>exact⟨0,V,rfl,by omega,Zc0.zero _ _,HV2.o,Zag.refl _ _ _⟩
   case round=>
    obtain⟨k,L,rfl,hk,hfill,hso,htc⟩:=hrel;have HFT:=Zab hfill;have HSO:=Zab hso;have HT:=Zab htc;clear hfill hso htc;have hszr:w1.heap.size < wr.heap.size:=by have:=HT.o.size;omega
    have HBr:Hd (Zw_ w wr):=HB2.o.trans ((HT.o.under (by omega)).mono (by omega))
    have hO:∀ i,wr.cell? ⟨w1.heap.size,i,none⟩=(#[.string kind,.string nm,.string team,.slice a2 V.length cap2,.bool en,.slice a3 Ho.length cap3,.int .i64 ver]:Array Value)[i]?:=fun i=>by
     rw [HT.o.cell (p:=⟨w1.heap.size,i,none⟩) (by simp only [];omega) (by simp only [];omega)];exact HO.o i
    by_cases hlt:k < x.fields.length
    . have hlv:k < V.length:=by have:=HL.o;omega
      have hlL:k < L.length:=by rw [HFT.o.1];exact hlv
      obtain⟨fb,foff,rfl,hfb,hfc⟩:=HFD.o.full' (by omega);obtain⟨hsz,wv,hcell,hst⟩:=hfc k hlt;have c9:=(hcell.below HBr.o hfb).c9;obtain⟨vb,voff,rfl,_,hvb,hv1,hv2,hvc,hvf⟩:=HSO.o.full (by omega);have hvk:=hvc k hlL;rw [HFT.o.at hlv hlL] at hvk;have hvfk:=hvf k;clear hcell hst hvc hvf hfc
      cases he:V[k].toList.isEmpty with
      | true=>
       have HFT2:=Zab (HFT.o.put hlv hlt he);go_wp2
       go_region
       go_wp2;go_roundw
       . exact⟨k+1,_,by go_num,by omega,HFT2.o,(HSO.o.put hlL hsz.s9).below Zb_.drew,(HT.o.trans (Zag.setCell _ _ _ _ _ ⟨hv1,hv2⟩)).trans (Zag.below Zb_.drew)⟩
       . simp [intOf];omega
      | false=>
       have HFT2:=Zab (HFT.o.same hlv hlt he);go_wp2;go_roundw
       . exact⟨k+1,_,by go_num,by omega,HFT2.o,HSO.o,HT.o⟩
       . simp [intOf];omega
    . have HE:Hd (L=Zfl V x.fields):=HFT.o.done HL.o (by omega)
      have hR:∀ i,wr.cell? ⟨w.heap.size+1,i,none⟩=(#[.string ⟨#[]⟩,.string ⟨#[]⟩,.string ⟨#[]⟩,.slice none 0 0,.bool false,.slice none 0 0,.int .i64 0]:Array Value)[i]?:=fun i=>by
       rw [HT.o.cell (p:=⟨w.heap.size+1,i,none⟩) (by simp only [];omega) (by simp only [];omega)];exact G2.o i
      have hRf:∀ i,wr.frozen? ⟨w.heap.size+1,i,none⟩=false:=fun i=>by
       rw [HT.o.frozen (p:=⟨w.heap.size+1,i,none⟩) (by simp only [];omega) (by simp only [];omega)];exact GF2.o i
      have HH3:Hd (Zad mid w1.heap.size wr (.slice a3 Ho.length cap3) Ho):=HH2.o.touch HT.o (Or.inr Zl_);have r0:wr.cell? ⟨w.heap.size+1,0,none⟩=some (.string ⟨#[]⟩):=hR 0;have r1:wr.cell? ⟨w.heap.size+1,1,none⟩=some (.string ⟨#[]⟩):=hR 1;have r2:wr.cell? ⟨w.heap.size+1,2,none⟩=some (.string ⟨#[]⟩):=hR 2;have r3:wr.cell? ⟨w.heap.size+1,3,none⟩=some (.slice none 0 0):=hR 3;have r4:wr.cell? ⟨w.heap.size+1,4,none⟩=some (.bool false):=hR 4;have r5:wr.cell? ⟨w.heap.size+1,5,none⟩=some (.slice none 0 0):=hR 5;have r6:wr.cell? ⟨w.heap.size+1,6,none⟩=some (.int .i64 0):=hR 6;clear hR;go_wp2
      refine bodyPost_ret (v:=.agg #[.string kind,.string nm,.string team,.slice a2 V.length cap2,.bool en,.slice a3 Ho.length cap3,.int .i64 ver]) (by simp [results,results174,go_sem,r0,r1,r2,r3,r4,r5,r6]) rfl ⟨_,_,rfl,?_,mid,by omega,by simp only [World.setCell,Array.size_modify];omega,?_,?_⟩
      . repeat (refine Below.setCell ?_ (by simp only [];omega) _)
        exact HBr.o
      . rw [HG.o,<- HE.o]
        refine Zad.wide (lo:=w.heap.size+2) (hi:=mid) ?_ (by omega) Zl_
        repeat (refine Zad.setCell ?_ (by simp only [];omega) _)
        exact HSO.o
      . refine Zad.wide (lo:=mid) (hi:=w1.heap.size) ?_ Zl_ (by simp only [World.setCell,Array.size_modify];omega)
        repeat (refine Zad.setCell ?_ (by simp only [];omega) _)
        exact HH3.o
 . have HG:Hd (ZhM Ss kind V=V):=ZjM hno
   have hR:=G2.o;have hRf:=GF2.o;have r0:w2.cell? ⟨w.heap.size+1,0,none⟩=some (.string ⟨#[]⟩):=hR 0;have r1:w2.cell? ⟨w.heap.size+1,1,none⟩=some (.string ⟨#[]⟩):=hR 1;have r2:w2.cell? ⟨w.heap.size+1,2,none⟩=some (.string ⟨#[]⟩):=hR 2;have r3:w2.cell? ⟨w.heap.size+1,3,none⟩=some (.slice none 0 0):=hR 3;have r4:w2.cell? ⟨w.heap.size+1,4,none⟩=some (.bool false):=hR 4;have r5:w2.cell? ⟨w.heap.size+1,5,none⟩=some (.slice none 0 0):=hR 5;have r6:w2.cell? ⟨w.heap.size+1,6,none⟩=some (.int .i64 0):=hR 6;clear hR;go_wp2;refine bodyPost_ret (v:=.agg #[.string kind,.string nm,.string team,.slice a2 V.length cap2,.bool en,.slice a3 Ho.length cap3,.int .i64 ver]) (by simp [results,results174,go_sem,r0,r1,r2,r3,r4,r5,r6]) rfl ⟨_,_,rfl,?_,mid,by omega,by simp only [World.setCell,Array.size_modify];omega,?_,?_⟩
   . repeat (refine Below.setCell ?_ (by simp only [];omega) _)
     exact HB2.o
   . rw [HG.o]
     refine Zad.wide (lo:=w.heap.size+2) (hi:=mid) ?_ (by omega) Zl_
     repeat (refine Zad.setCell ?_ (by simp only [];omega) _)
     exact HV2.o
   . refine Zad.wide (lo:=mid) (hi:=w1.heap.size) ?_ Zl_ (by simp only [World.setCell,Array.size_modify];omega)
     repeat (refine Zad.setCell ?_ (by simp only [];omega) _)
     exact HH2.o
end
structure Box (w:World) (β:Nat) (cs:Array Value):Prop where
 lt:β < w.heap.size
 cell:∀ i,w.cell? ⟨β,i,none⟩=cs[i]?
 free:∀ i,w.frozen? ⟨β,i,none⟩=false
theorem Box.new (X:World) (cs:Array Value) (t:TypeId) (β:Nat) (h:X.heap.size=β):Box (X.alloc (.cells cs t)) β cs:=⟨by subst h;simp,fun i=>ZaJ _ _ _ _ _ h,fun i=>Zj5 _ _ _ _ _ h⟩
theorem Box.below {w:World}{B:Nat} (h:Box w β cs) (hb:Below B w w') (hB:β < B):Box w' β cs:=
 ⟨Zk_ h.lt hb.size,fun i=>by rw [hb.cell (p:=⟨β,i,none⟩) hB];exact h.cell i,fun i=>by rw [hb.frozen (p:=⟨β,i,none⟩) hB];exact h.free i⟩
theorem Box.on {w:World} (h:Box w β cs) (hb:Zw_ w w'):Box w' β cs:=h.below hb h.lt
theorem Box.drew {w:World} (h:Box w β cs):Box w.drew β cs:=⟨h.lt,h.cell,h.free⟩
theorem Box.touch {w:World}{lo:Nat} (h:Box w β cs) (hb:Zag lo hi w w') (ho:β < lo\/hi<=β):Box w' β cs:=
 ⟨Zk_ h.lt hb.size,fun i=>by rw [hb.cell (p:=⟨β,i,none⟩) h.lt ho];exact h.cell i,fun i=>by rw [hb.frozen (p:=⟨β,i,none⟩) h.lt ho];exact h.free i⟩
theorem Box.set {w:World} (h:Box w β cs) (u:Value) (hk:k < cs.size):Box (w.setCell ⟨β,k,none⟩ u) β (cs.set k u):=by
 refine⟨by simpa [World.setCell] using h.lt,fun i=>?_,fun i=>by rw [World.frozen?_setCell];exact h.free i⟩;rw [Array.getElem?_set]
 by_cases hi:k=i
 . subst hi
   rw [if_pos rfl];have:(w.cell? ⟨β,k,none⟩)=some cs[k]:=by rw [h.cell];simp
   exact World.cell?_setCell_same' _ _ _ (by rw [this];rfl)
 . rw [if_neg hi,Zah _ _ _ _ _ hi];exact h.cell i
theorem Box.setFar {w:World} (h:Box w β cs) {p:Addr} (hp:p.block≠β) (u:Value):Box (w.setCell p u) β cs:=
 ⟨by simpa [World.setCell] using h.lt,fun i=>by rw [World.cell?_setCell_far _ _ _ _ hp];exact h.cell i,fun i=>by rw [World.frozen?_setCell];exact h.free i⟩
theorem Zac (X:World) (o:Obj):Below X.heap.size X (X.alloc o):=Zb_.alloc Zl_ _
theorem bt {a b c:World} (h:Below a.heap.size a b) (k:Below b.heap.size b c):Below a.heap.size a c:=h.trans (k.mono h.size)
theorem ZlP {X Y:World} (h:Below X.drew.heap.size X.drew Y):Below X.heap.size X Y:=((Below.refl X.heap.size X).drew).trans (h.mono Zl_)
theorem ZrA.below {lo:Nat}{w:World} (h:ZrA lo hi w v n) (hb:Zw_ w w'):ZrA lo hi w' v n:=by
 rcases h with h | ⟨b,off,cap,m,h1,h2,h3,h4,h5,h6,h7,h8,h9⟩
 . exact Or.inl h
 . exact Or.inr ⟨b,off,cap,m,h1,h2,h3,h4,h5,h6,h7,h8,h9.below hb⟩
abbrev ZbA (W0:World) (b1:Nat) (cs1:Array Value) (b2:Nat) (cs2:Array Value) (W:World):Prop:=
 (∀ i,W.cell? ⟨b1,i,none⟩=cs1[i]?)/\(∀ i,W.cell? ⟨b2,i,none⟩=cs2[i]?)/\Hd (Below W0.heap.size W0 W/\b1 < W0.heap.size/\b2 < W0.heap.size)
theorem ZbA.drew (h1:Box W0 b1 cs1) (h2:Box W0 b2 cs2):ZbA W0 b1 cs1 b2 cs2 W0.drew:=⟨h1.cell,h2.cell,Zb_.drew,h1.lt,h2.lt⟩
theorem ZbA.on {W W':World} (h:ZbA W0 b1 cs1 b2 cs2 W) (hb:Below W.heap.size W W'):ZbA W0 b1 cs1 b2 cs2 W':=by
 obtain⟨h1,h2,h3,h4,h5⟩:=h;have:=h3.size;exact⟨fun i=>(hb.cell (p:=⟨b1,i,none⟩) (by simp only [];omega)).trans (h1 i),fun i=>(hb.cell (p:=⟨b2,i,none⟩) (by simp only [];omega)).trans (h2 i),bt h3 hb,h4,h5⟩
end
section
theorem ZdT (lo:Nat) (v:Value) (Ts:List Tm) (s:Zy_) (w:World) (hv:Zbn lo w v Ts) :
 Calls prog 169 #[v,.string s] w fun e w'=>e=.returned (.string (ovB Ts s))/\w'=w:=by
 by_cases hL:Ts=[]
 . subst hL
   obtain⟨a,cap,rfl⟩:=hv.form;clear hv;go_enter func169,ntmps169;go_wp2
   go_loop [5] (fun i=>i=.int .i64 0) (fun _=>0)
   case atStart=>rfl
   case round=>
    subst hrel;go_wp2;go_ret;exact⟨rfl,rfl⟩
 . obtain⟨b,off,cap,rfl,hm,hbw,_,hc⟩:=hv.full hL
   clear hv;unfold maxLen at hm;go_enter func169,ntmps169;go_wp2
   go_loop [5] (fun i=>∃ k:Nat,i=.int .i64 k/\k<=Ts.length/\∀ j (hj:j < Ts.length),j < k->(Ts[j].nm.toList == s.toList)=false) (fun i=>Ts.length - (intOf i).toNat)
   case atStart=>exact⟨0,rfl,by omega,fun j _ h=>by omega⟩
   case round=>
    obtain⟨k,rfl,hk,hall⟩:=hrel;have HA:=Zab hall;clear hall
    by_cases hlt:k < Ts.length
    . obtain⟨_,hcell⟩:=hc k hlt
      obtain⟨c0,c1⟩:=hcell
      cases he:(Ts[k].nm.toList == s.toList) with
      | true=>
       go_wp2;go_ret;exact⟨Zka (Zt0 hlt he HA.o).symm,rfl⟩
      | false=>
       go_wp2
       go_round
       case rel=>exact⟨k+1,by go_num,by omega,fun j hj h=>by
                  by_cases e:j=k
                  . subst e;exact he
                  . exact HA.o j hj (by omega)⟩
       . simp [intOf];omega
    . go_wp2
      go_ret;exact⟨Zka (Zt2 fun j hj=>HA.o j hj (by omega)).symm,rfl⟩
theorem Zbf (lo:Nat) (v:Value) (Ts:List Tm) (s:Zy_) (w:World) (hv:Zbn lo w v Ts) :
 Calls prog 127 #[v,.string s] w fun e w'=>e=.returned (.bool (ZgB Ts s))/\w'=w:=by
 by_cases hL:Ts=[]
 . subst hL
   obtain⟨a,cap,rfl⟩:=hv.form;clear hv;go_enter func127,ntmps127;go_wp2
   go_loop [5] (fun i=>i=.int .i64 0) (fun _=>0)
   case atStart=>rfl
   case round=>
    subst hrel;go_wp2;go_ret;exact⟨rfl,rfl⟩
 . obtain⟨b,off,cap,rfl,hm,hbw,_,hc⟩:=hv.full hL
   clear hv;unfold maxLen at hm;go_enter func127,ntmps127;go_wp2
   go_loop [5] (fun i=>∃ k:Nat,i=.int .i64 k/\k<=Ts.length/\∀ j (hj:j < Ts.length),j < k->(Ts[j].nm.toList == s.toList)=false) (fun i=>Ts.length - (intOf i).toNat)
   case atStart=>exact⟨0,rfl,by omega,fun j _ h=>by omega⟩
   case round=>
    obtain⟨k,rfl,hk,hall⟩:=hrel;have HA:=Zab hall;clear hall
    by_cases hlt:k < Ts.length
    . obtain⟨_,hcell⟩:=hc k hlt
      obtain⟨c0,c1⟩:=hcell
      cases he:(Ts[k].nm.toList == s.toList) with
      | true=>
       go_wp2;go_ret;exact⟨Zaa (ZkO hlt he).symm,rfl⟩
      | false=>
       go_wp2
       go_round
       case rel=>exact⟨k+1,by go_num,by omega,fun j hj h=>by
                  by_cases e:j=k
                  . subst e;exact he
                  . exact HA.o j hj (by omega)⟩
       . simp [intOf];omega
    . go_wp2
      go_ret;exact⟨Zaa (Zqj fun j hj=>HA.o j hj (by omega)).symm,rfl⟩
section
variable (nm ov:Zy_) (w:World)
theorem ZpO (s:Zy_) (B:Nat) (hB:B < w.heap.size) (hs:w.cell? ⟨B,0,none⟩=some (.string s)) :
 Calls prog 238 #[.agg #[.string nm,.string ov],.pointer (some ⟨B,0,none⟩)] w
  fun e w'=>e=.returned (.bool (nm.toList == s.toList))/\Zw_ w w':=by
 go_enter func238,ntmps238;go_wp2;go_ret;exact⟨rfl,Zb_.alloc Zl_ _⟩
end
theorem ZiA (lo:Nat) (v:Value) (Ts:List Tm) (s:Zy_) (B:Nat) (w:World) (hv:Zbn lo w v Ts) (hB:B < w.heap.size) (hs:w.cell? ⟨B,0,none⟩=some (.string s)) :
 Calls prog 237 #[v,.func (.func 238) #[] #[.pointer (some ⟨B,0,none⟩)]] w fun e w'=>e=.returned (.int .i64 (ZdB Ts s))/\Zw_ w w':=by
 by_cases hL:Ts=[]
 . subst hL
   obtain⟨a,cap,rfl⟩:=hv.form;clear hv;go_enter func237,ntmps237;go_wp2
   go_loop [8] (fun i=>i=.int .i64 0) (fun _=>0)
   case atStart=>rfl
   case round=>
    subst hrel;go_wp2;go_ret;exact⟨rfl,Below.refl _ _⟩
 . obtain⟨b,off,cap,rfl,hm,hbw,_,hc⟩:=hv.full hL
   clear hv;unfold maxLen at hm;go_enter func237,ntmps237;go_wp2
   go_loopw [8] (fun i wr=>∃ k:Nat,i=.int .i64 k/\k<=Ts.length/\Zw_ w wr/\∀ j (hj:j < Ts.length),j < k->(Ts[j].nm.toList == s.toList)=false) (fun i _=>Ts.length - (intOf i).toNat)
   case atStart=>exact⟨0,rfl,by omega,Below.refl _ _,fun j _ h=>by omega⟩
   case round=>
    obtain⟨k,rfl,hk,hb,hall⟩:=hrel;have HA:=Zab hall;have HB:=Zab hb;clear hall hb
    by_cases hlt:k < Ts.length
    . obtain⟨_,hcell⟩:=hc k hlt
      obtain⟨c0,c1⟩:=hcell.below HB.o hbw;clear hcell;go_wp2_with fail;refine (ZpO _ _ _ s B (Zk_ hB HB.o.size) (by rw [HB.o.cell (p:=⟨B,0,none⟩) hB];exact hs)).mono ?_;rintro e w1 ⟨rfl,hb1⟩;have HB1:Hd (Zw_ w w1):=HB.o.trans (hb1.mono HB.o.size);clear hb1 c0 c1
      cases he:(Ts[k].nm.toList == s.toList) with
      | true=>
       go_wp2;go_ret;exact⟨by rw [ZoE hlt he HA.o];rfl,HB1.o⟩
      | false=>
       go_wp2;go_roundw
       case rel=>exact⟨k+1,by go_num,by omega,HB1.o,fun j hj h=>by
                  by_cases e:j=k
                  . subst e;exact he
                  . exact HA.o j hj (by omega)⟩
       . simp [intOf];omega
    . go_wp2
      go_ret;exact⟨by rw [ZqO fun j hj=>HA.o j hj (by omega)];rfl,HB.o⟩
theorem ZcB (lo:Nat) (v:Value) (Ts:List Tm) (s:Zy_) (w:World) (hv:Zbn lo w v Ts) :
 Calls prog 207 #[v,.string s] w fun e w'=>e=.returned (.int .i64 (ZdB Ts s))/\Zw_ w w':=by
 have HV:=Zab hv;obtain⟨a,cap,rfl⟩:=hv.form;clear hv;have HW:∀ o,Hd (Zw_ w (w.alloc o)):=fun o=>Zac _ _
 go_enter func207,ntmps207;go_wp2_with fail;refine (ZiA lo _ Ts s _ _ (HV.o.below (HW _).o) (by simp) (by simp)).mono ?_;rintro e w1 ⟨rfl,hb⟩;have HB:Hd (Zw_ w w1):=(HW _).o.trans (hb.mono (by simp));clear hb;go_wp2;go_ret;exact⟨rfl,HB.o⟩
theorem Zjb (lo:Nat) (v:Value) (Ts:List Tm) (s:Zy_) (w:World) (hv:Zbn lo w v Ts) :
 Calls prog 230 #[v,.string s] w fun e w'=>e=.returned (.string (ovB Ts s))/\Zw_ w w':=by
 have HV:=Zab hv;obtain⟨a,cap,rfl⟩:=hv.form;clear hv;go_enter func230,ntmps230;go_wp2_with fail;refine (ZcB lo _ Ts s _ HV.o).mono ?_;rintro e w1 ⟨rfl,hb⟩;have HB:=Zab hb;clear hb
 by_cases hp:plT Ts s < Ts.length
 . rw [Zh8 hp]
   have hmx:=HV.o.max;obtain⟨b,off,rfl,hbw,hc⟩:=HV.o.full' (by omega);obtain⟨_,hcell⟩:=hc _ hp;obtain⟨c0,c1⟩:=hcell.below HB.o hbw;have HO:=Zab (Zt1 hp);unfold maxLen at hmx;clear hc hcell;generalize plT Ts s=p at*;go_wp2;go_ret;exact⟨Zka HO.o.symm,HB.o⟩
 . rw [Zh7 hp]
   have HO:=Zab (Zsw hp);go_wp2;go_ret;exact⟨Zka HO.o.symm,HB.o⟩
theorem ZjV (lo:Nat) (v:Value) (Ts:List Tm) (a b:Zy_) (w:World) (hv:Zbn lo w v Ts) :
 Calls prog 197 #[v,.string a,.string b] w fun e w'=>e=.returned (.bool (Zbd Ts a b))/\Zw_ w w':=by
 have HV:=Zab hv;obtain⟨ta,tcap,rfl⟩:=hv.form;clear hv
 cases hab:(a.toList == b.toList) with
 | true=>
  go_enter func197,ntmps197;go_wp2;go_ret;exact⟨Zaa (by simp [Zbd,hab]),Below.refl _ _⟩
 | false=>
  have HU:Hd (Zbd Ts a b=Zfx Ts b 4 a):=by unfold Hd Zbd;rw [hab];rfl
  go_enter func197,ntmps197;go_wp2;clear hab
  go_loopw [1,10] (fun x n wr=>∃ (k:Nat) (a':Zy_),x=.string a'/\n=.int .i64 k/\k<=4/\Zbd Ts a b=Zfx Ts b (4 - k) a'/\Zw_ w wr) (fun _ n _=>4 - (intOf n).toNat)
  case atStart=>exact⟨0,a,rfl,rfl,by omega,HU.o,Below.refl _ _⟩
  case round=>
   obtain⟨k,a',rfl,rfl,hk,hu,hb⟩:=hrel;have HU:=Zab hu;have HB:=Zab hb;clear hu hb
   by_cases hlt:k < 4
   . have HS:Hd (Zbd Ts a b=if (ovB Ts a').toList.isEmpty then false else if (ovB Ts a').toList == b.toList then true else Zfx Ts b (4 - (k+1)) (ovB Ts a')):=by
      unfold Hd;rw [HU.o,show 4 - k=(4 - (k+1))+1 from by omega]
      rfl
     clear HU;go_wp2_with fail;refine (Zjb lo _ Ts a' _ (HV.o.below HB.o)).mono ?_;rintro e w1 ⟨rfl,hb1⟩;have HB1:Hd (Zw_ w w1):=HB.o.trans (hb1.mono HB.o.size);clear hb1;clear HB
     cases he:(ovB Ts a').toList.isEmpty with
     | true=>
      have HR:Hd (Zbd Ts a b=false):=by unfold Hd;rw [HS.o,if_pos he]
      go_wp2;go_ret;exact⟨Zaa HR.o.symm,HB1.o⟩
     | false=>
      cases he2:((ovB Ts a').toList == b.toList) with
      | true=>
       have HR:Hd (Zbd Ts a b=true):=by unfold Hd;rw [HS.o,if_neg (by simp [he]),if_pos he2]
       go_wp2;go_ret;exact⟨Zaa HR.o.symm,HB1.o⟩
      | false=>
       have HR:Hd (Zbd Ts a b=Zfx Ts b (4 - (k+1)) (ovB Ts a')):=by unfold Hd;rw [HS.o,if_neg (by simp [he]),if_neg (by simp [he2])]
       go_wp2;go_roundw
       . exact⟨k+1,_,rfl,by go_num,by omega,HR.o,HB1.o⟩
       . simp [intOf];omega
   . have HR:Hd (Zbd Ts a b=false):=by unfold Hd;rw [HU.o,show 4 - k=0 from by omega];rfl
     go_wp2;go_ret;exact⟨Zaa HR.o.symm,HB.o⟩
theorem Zeo (lo:Nat) (v:Value) (Ts:List Tm) (a:Zy_) (w:World) (hv:Zbn lo w v Ts) :
 Calls prog 208 #[v,.string a] w fun e w'=>e=.returned (.bool (ZaS Ts 5 a))/\Zw_ w w':=by
 have HV:=Zab hv;obtain⟨ta,tcap,rfl⟩:=hv.form;clear hv;go_enter func208,ntmps208;go_wp2
 go_loopw [1,5] (fun x n wr=>∃ (k:Nat) (a':Zy_),x=.string a'/\n=.int .i64 k/\k<=5/\ZaS Ts 5 a=ZaS Ts (5 - k) a'/\Zw_ w wr) (fun _ n _=>5 - (intOf n).toNat)
 case atStart=>exact⟨0,a,rfl,rfl,by omega,rfl,Below.refl _ _⟩
 case round=>
  obtain⟨k,a',rfl,rfl,hk,hu,hb⟩:=hrel;have HU:=Zab hu;have HB:=Zab hb;clear hu hb
  by_cases hlt:k < 5
  . have HS:Hd (ZaS Ts 5 a=if (ovB Ts a').toList.isEmpty then false else ZaS Ts (5 - (k+1)) (ovB Ts a')):=by
     unfold Hd;rw [HU.o,show 5 - k=(5 - (k+1))+1 from by omega]
     rfl
    clear HU;go_wp2_with fail;refine (Zjb lo _ Ts a' _ (HV.o.below HB.o)).mono ?_;rintro e w1 ⟨rfl,hb1⟩;have HB1:Hd (Zw_ w w1):=HB.o.trans (hb1.mono HB.o.size);clear hb1 HB
    cases he:(ovB Ts a').toList.isEmpty with
    | true=>
     have HR:Hd (ZaS Ts 5 a=false):=by unfold Hd;rw [HS.o,if_pos he]
     go_wp2;go_ret;exact⟨Zaa HR.o.symm,HB1.o⟩
    | false=>
     have HR:Hd (ZaS Ts 5 a=ZaS Ts (5 - (k+1)) (ovB Ts a')):=by unfold Hd;rw [HS.o,if_neg (by simp [he])]
     go_wp2;go_roundw
     . exact⟨k+1,_,rfl,by go_num,by omega,HR.o,HB1.o⟩
     . simp [intOf];omega
  . have HR:Hd (ZaS Ts 5 a=true):=by unfold Hd;rw [HU.o,show 5 - k=0 from by omega];rfl
    go_wp2;go_ret;exact⟨Zaa HR.o.symm,HB.o⟩
end
theorem ZjU (lo:Nat) (v:Value) (Ts:List Tm) (w:World) (hv:Zbn lo w v Ts) :
 Calls prog 179 #[v] w fun e w'=>e=.returned (.bool (Zbs Ts))/\Zw_ w w':=by
 by_cases h12:¬ Ts.length<=12
 . have HR:=Zab (Zls h12)
   have hmx:=hv.max;unfold maxLen at hmx;obtain⟨a,cap,rfl⟩:=hv.form;go_enter func179,ntmps179;go_wp2;go_ret;exact⟨Zaa HR.o.symm,Below.refl _ _⟩
 replace h12:Ts.length<=12:=by omega
 by_cases hL:Ts=[]
 . subst hL
   obtain⟨a,cap,rfl⟩:=hv.form;clear hv;go_enter func179,ntmps179;go_wp2
   go_loop [10] (fun i=>i=.int .i64 0) (fun _=>0)
   case atStart=>rfl
   case round=>
    subst hrel;go_wp2;go_ret;exact⟨Zaa (by rfl),Below.refl _ _⟩
 . have HV:=Zab hv
   obtain⟨b,off,cap,rfl,hm,hbw,_,hc⟩:=hv.full hL;clear hv hm;have H12:=Zab h12;have h12i:decide ((12:Int) < (Ts.length:Int))=false:=by simp;omega
   go_enter func179,ntmps179;go_wp2
   go_loopw [10] (fun i wr=>∃ k:Nat,i=.int .i64 k/\k<=Ts.length/\Zw_ w wr/\∀ i,i < k->Zds Ts i=true) (fun i _=>Ts.length - (intOf i).toNat)
   case atStart=>exact⟨0,rfl,by omega,Below.refl _ _,fun i h=>by omega⟩
   case round=>
    obtain⟨k,rfl,hk,hb,hall⟩:=hrel;have HA:=Zab hall;have HB:=Zab hb;clear hall hb
    by_cases hlt:k < Ts.length
    . obtain⟨hsz,hcell⟩:=hc k hlt
      have HSZ:=Zab hsz;obtain⟨c0,c1⟩:=hcell.below HB.o hbw;clear hcell hsz
      cases hn:Zap Ts[k].nm with
      | false=>
       go_wp2
       go_quiet ((go_at_call 206;exact (Zan _ _ HSZ.o.s0).mono fun _ _ h=>⟨h.1,_,h.2⟩))
       go_wp2;go_ret;exact⟨Zaa (Zbo hlt (by rw [ZaB hlt];simp [hn])).symm,below_drewN (HB.o.alloc HB.o.size _) _⟩
      | true=>
       cases k with
       | zero=>
        have c0:wr.cell? ⟨b,off,none⟩=some (.string Ts[0].nm):=by simpa using c0
        have c1:wr.cell? ⟨b,off+1,none⟩=some (.string Ts[0].ov):=by simpa using c1
        go_wp2
        go_quiet ((go_at_call 206;exact (Zan _ _ HSZ.o.s0).mono fun _ _ h=>⟨h.1,_,h.2⟩))
        try simp only [hn]
        generalize hWb:World.drewN _ _=Wb;have HBX:Hd (Box Wb wr.heap.size #[.string Ts[0].nm,.string Ts[0].ov]):=by rw [<- hWb];exact (Box.new _ _ _ _ rfl).on (below_drewN Zb_ _)
        have HBB:Hd (Zw_ w Wb):=by rw [<- hWb];exact below_drewN (HB.o.alloc HB.o.size _) _
        clear hWb;have b0:Wb.cell? ⟨wr.heap.size,0,none⟩=some (.string Ts[0].nm):=HBX.o.cell 0;have b1:Wb.cell? ⟨wr.heap.size,1,none⟩=some (.string Ts[0].ov):=HBX.o.cell 1
        cases hoe:Ts[0].ov.toList.isEmpty with
        | true=>
         go_wp2_with fail;refine (Zeo lo _ Ts Ts[0].nm _ (HV.o.below HBB.o)).mono ?_;rintro e w2 ⟨rfl,hb2⟩;have HB2:Hd (Zw_ w w2):=HBB.o.trans (hb2.mono HBB.o.size);clear hb2 HBB HBX b0 b1
         cases hd:ZaS Ts 5 Ts[0].nm with
         | true=>
          have HR:Hd (Zbs Ts=false):=Zbo hlt (by rw [ZaB hlt,hd];simp);go_wp2;go_ret;exact⟨Zaa HR.o.symm,HB2.o⟩
         | false=>
          have HOK:Hd (∀ i,i < 0+1->Zds Ts i=true):=fun i hi=>by
           by_cases e:i=0
           . subst e;rw [ZaB hlt,hd];simp [hn,hoe]
           . exact HA.o i (by omega)
          go_wp2;go_roundw
          . exact⟨0+1,by go_num,by omega,HB2.o,HOK.o⟩
          . simp [intOf];omega
        | false=>
         go_wp2_with fail;refine (ZcB lo _ Ts Ts[0].ov _ (HV.o.below HBB.o)).mono ?_;rintro e w1 ⟨rfl,hb1⟩;have HBX:=Zab (HBX.o.on hb1);have HBB:Hd (Zw_ w w1):=HBB.o.trans (hb1.mono HBB.o.size);clear hb1 b0 b1;have b0:w1.cell? ⟨wr.heap.size,0,none⟩=some (.string Ts[0].nm):=HBX.o.cell 0;have b1:w1.cell? ⟨wr.heap.size,1,none⟩=some (.string Ts[0].ov):=HBX.o.cell 1
         by_cases hp:plT Ts Ts[0].ov < Ts.length
         . have hht:ZgB Ts Ts[0].ov=true:=by rw [ZhP];exact decide_eq_true hp
           rw [Zh8 hp];clear hp;generalize plT Ts Ts[0].ov=pp;go_wp2_with fail;refine (Zeo lo _ Ts Ts[0].nm _ (HV.o.below HBB.o)).mono ?_;rintro e w2 ⟨rfl,hb2⟩;have HB2:Hd (Zw_ w w2):=HBB.o.trans (hb2.mono HBB.o.size);clear hb2 HBB HBX b0 b1
           cases hd:ZaS Ts 5 Ts[0].nm with
           | true=>
            have HR:Hd (Zbs Ts=false):=Zbo hlt (by rw [ZaB hlt,hd];simp);go_wp2;go_ret;exact⟨Zaa HR.o.symm,HB2.o⟩
           | false=>
            have HOK:Hd (∀ i,i < 0+1->Zds Ts i=true):=fun i hi=>by
             by_cases e:i=0
             . subst e;rw [ZaB hlt,hd];simp [hn,hoe,hht]
             . exact HA.o i (by omega)
            go_wp2;go_roundw
            . exact⟨0+1,by go_num,by omega,HB2.o,HOK.o⟩
            . simp [intOf];omega
         . have hht:ZgB Ts Ts[0].ov=false:=by rw [ZhP];exact decide_eq_false hp
           have HR:Hd (Zbs Ts=false):=Zbo hlt (by rw [ZaB hlt,hht,hoe];simp);rw [Zh7 hp];clear hp;go_wp2;go_ret;exact⟨Zaa HR.o.symm,HBB.o⟩
       | succ j=>
        have HBE:Hd (((Ts[j+1 - 1]?.map Tm.nm).getD ⟨#[]⟩)=Ts[j].nm):=Zku hlt;have hcj:wr.cell? ⟨b,off+j*2,none⟩=some (.string Ts[j].nm):=by rw [HB.o.cell (p:=⟨b,_,none⟩) hbw];exact (hc j (by omega)).2.c0
        have hjw:IntKind.i64.wrap (j:Int)=j:=by rw [IntKind.wrap_i64];omega
        have hjl:j < Ts.length:=by omega
        have hdl:decide ((j:Int)+1 < (Ts.length:Int))=true:=by simp;omega
        have hbo:b < wr.heap.size:=Zk_ hbw HB.o.size
        have cj2:∀ o,(wr.alloc o).cell? ⟨b,off+j*2,none⟩=some (.string Ts[j].nm):=fun o=>by rw [((Below.refl wr.heap.size wr).alloc Zl_ o).cell (p:=⟨b,_,none⟩) hbo];exact hcj
        have cj3:∀ o n,((wr.alloc o).drewN n).cell? ⟨b,off+j*2,none⟩=some (.string Ts[j].nm):=fun o n=>cj2 o
        cases hls:Op.bytesLess Ts[j].nm.toList Ts[j+1].nm.toList with
        | false=>
         go_wp2
         go_quiet ((go_at_call 206;exact (Zan _ _ HSZ.o.s0).mono fun _ _ h=>⟨h.1,_,h.2⟩))
         go_wp2;go_ret;exact⟨Zaa (Zbo hlt (by rw [ZaB hlt];rw [HBE.o,hls];simp)).symm,below_drewN (HB.o.alloc HB.o.size _) _⟩
        | true=>
         go_wp2
         go_quiet ((go_at_call 206;exact (Zan _ _ HSZ.o.s0).mono fun _ _ h=>⟨h.1,_,h.2⟩))
         try simp only [hn]
         try simp only [hls]
         generalize hWb:World.drewN _ _=Wb;have HBX:Hd (Box Wb wr.heap.size #[.string Ts[j+1].nm,.string Ts[j+1].ov]):=by rw [<- hWb];exact (Box.new _ _ _ _ rfl).on (below_drewN Zb_ _)
         have HBB:Hd (Zw_ w Wb):=by rw [<- hWb];exact below_drewN (HB.o.alloc HB.o.size _) _
         clear hWb;have b0:Wb.cell? ⟨wr.heap.size,0,none⟩=some (.string Ts[j+1].nm):=HBX.o.cell 0;have b1:Wb.cell? ⟨wr.heap.size,1,none⟩=some (.string Ts[j+1].ov):=HBX.o.cell 1
         cases hoe:Ts[j+1].ov.toList.isEmpty with
         | true=>
          go_wp2_with fail;refine (Zeo lo _ Ts Ts[j+1].nm _ (HV.o.below HBB.o)).mono ?_;rintro e w2 ⟨rfl,hb2⟩;have HB2:Hd (Zw_ w w2):=HBB.o.trans (hb2.mono HBB.o.size);clear hb2 HBB HBX b0 b1
          cases hd:ZaS Ts 5 Ts[j+1].nm with
          | true=>
           have HR:Hd (Zbs Ts=false):=Zbo hlt (by rw [ZaB hlt,hd];simp);go_wp2;go_ret;exact⟨Zaa HR.o.symm,HB2.o⟩
          | false=>
           have HOK:Hd (∀ i,i < j+1+1->Zds Ts i=true):=fun i hi=>by
            by_cases e:i=j+1
            . subst e;rw [ZaB hlt,hd];rw [HBE.o,hls];simp [hn,hoe]
            . exact HA.o i (by omega)
           go_wp2;go_roundw
           . exact⟨j+1+1,by go_num,by omega,HB2.o,HOK.o⟩
           . simp [intOf];omega
         | false=>
          go_wp2_with fail;refine (ZcB lo _ Ts Ts[j+1].ov _ (HV.o.below HBB.o)).mono ?_;rintro e w1 ⟨rfl,hb1⟩;have HBX:=Zab (HBX.o.on hb1);have HBB:Hd (Zw_ w w1):=HBB.o.trans (hb1.mono HBB.o.size);clear hb1 b0 b1;have b0:w1.cell? ⟨wr.heap.size,0,none⟩=some (.string Ts[j+1].nm):=HBX.o.cell 0;have b1:w1.cell? ⟨wr.heap.size,1,none⟩=some (.string Ts[j+1].ov):=HBX.o.cell 1
          by_cases hp:plT Ts Ts[j+1].ov < Ts.length
          . have hht:ZgB Ts Ts[j+1].ov=true:=by rw [ZhP];exact decide_eq_true hp
            rw [Zh8 hp];clear hp;generalize plT Ts Ts[j+1].ov=pp;go_wp2_with fail;refine (Zeo lo _ Ts Ts[j+1].nm _ (HV.o.below HBB.o)).mono ?_;rintro e w2 ⟨rfl,hb2⟩;have HB2:Hd (Zw_ w w2):=HBB.o.trans (hb2.mono HBB.o.size);clear hb2 HBB HBX b0 b1
            cases hd:ZaS Ts 5 Ts[j+1].nm with
            | true=>
             have HR:Hd (Zbs Ts=false):=Zbo hlt (by rw [ZaB hlt,hd];simp);go_wp2;go_ret;exact⟨Zaa HR.o.symm,HB2.o⟩
            | false=>
             have HOK:Hd (∀ i,i < j+1+1->Zds Ts i=true):=fun i hi=>by
              by_cases e:i=j+1
              . subst e;rw [ZaB hlt,hd];rw [HBE.o,hls];simp [hn,hoe,hht]
              . exact HA.o i (by omega)
             go_wp2;go_roundw
             . exact⟨j+1+1,by go_num,by omega,HB2.o,HOK.o⟩
             . simp [intOf];omega
          . have hht:ZgB Ts Ts[j+1].ov=false:=by rw [ZhP];exact decide_eq_false hp
            have HR:Hd (Zbs Ts=false):=Zbo hlt (by rw [ZaB hlt,hht,hoe];simp);rw [Zh7 hp];clear hp;go_wp2;go_ret;exact⟨Zaa HR.o.symm,HBB.o⟩
    . have HR:Hd (Zbs Ts=true):=Zlt H12.o (by omega) HA.o
      go_wp2;go_ret;exact⟨Zaa HR.o.symm,HB.o⟩
end Go.Proofs.YtmappejlmapboaaGreat
