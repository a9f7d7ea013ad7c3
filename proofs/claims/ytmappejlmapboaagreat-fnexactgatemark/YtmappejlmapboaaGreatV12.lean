import Derived.Test.YtmappejlmapboaaGreatV11
import Derived.DeepKeys4
import Derived.Maps.RangeWalk
import Derived.Maps.OwnOps
set_option maxHeartbeats 16000000
set_option maxRecDepth 100000
open Go.Proofs.Tryz
namespace Go.Proofs.YtmappejlmapboaaGreat
section
open Go.RowKit Go.Deep Go.Maps Go.ChangeMaps Go.MapKept
variable {P:Program} {k s:TypeId}
def ZbY (a b:Zy_):Lit:=.string (keyBytes [.string a.data.toList,.string b.data.toList])
structure ZdY (P:Program) (k s:TypeId):Prop where
 ex:∃ f0 f1:Field,P.underlying k=some (.struct #[f0,f1])/\f0.type=s/\f1.type=s/\f0.offset=0/\f1.offset=1/\f0.name≠ "_"/\f1.name≠ "_"
 ty:P.keyType k=true
 cs:P.cellsOf k=2
 st:P.underlying s=some .string
 one:P.cellsOf s=1
 sz:0 < P.types.size
theorem ZdY.mk' (h:ZdY P k s) {a b:Zy_} (ha:a.size<=maxLen) (hb:b.size<=maxLen):keyOf P k (.agg #[.string a,.string b])=some (ZbY a b):=by
 obtain⟨f0,f1,hu,h0,h1,o0,o1,n0,n1⟩:=h.ex;obtain⟨n,hn⟩:∃ n,P.types.size=n+1:=⟨P.types.size - 1,by have:=h.sz;omega⟩
 simp [keyOf,hu,h.ty,Value.formed,h.cs,hn,Program.keyLits,h.st,h.one,Value.cells,ha,hb,ZbY,h0,h1,o0,o1,n0,n1]
theorem ZdY.wide (h:ZdY P k s):(match P.underlying k with | some (.array _ _) | some (.struct _)=>true | _=>false)=true:=by
 obtain⟨f0,f1,hu,-⟩:=h.ex;rw [hu]
theorem Zk5 (hs:P.underlying s=some .string) {d:Nat} {cs:List Value} {L:List Lit} (h:P.keyLits (d+1) s cs=some L):∃ a:Zy_,cs=[.string a]/\L=[.string a.data.toList]/\a.size<=maxLen:=by
 unfold Program.keyLits at h;rw [hs] at h
 split at h <;> simp_all
theorem ZdY.inv (h:ZdY P k s) {key:Value} {kl:Lit} (hk:keyOf P k key=some kl):∃ a b:Zy_,key=.agg #[.string a,.string b]/\kl=ZbY a b/\a.size<=maxLen/\b.size<=maxLen:=by
 obtain⟨f0,f1,hu,h0,h1,o0,o1,n0,n1⟩:=h.ex;obtain⟨n,hn⟩:∃ n,P.types.size=n+1:=⟨P.types.size - 1,by have:=h.sz;omega⟩
 obtain⟨xs,L,rfl,hL,rfl⟩:=keyOf_top h.wide hk;obtain⟨xs⟩:=xs;rw [hn] at hL;unfold Program.keyLits at hL;rw [hu] at hL;simp only [h.cs] at hL
 split at hL
 . rename_i hc
   obtain⟨hl,-⟩:=hc
   match xs,hl with
   | [c0,c1],_=>
    simp only [List.mapM_cons,List.mapM_nil,h0,h1,o0,o1,h.one,List.drop_zero,List.take_succ_cons,List.take_zero,List.drop_succ_cons,Option.map_eq_some_iff] at hL;obtain⟨M,hM,rfl⟩:=hL
    cases e0:P.keyLits (n+1) s [c0] with
    | none=>simp [e0] at hM
    | some L0=>
     cases e1:P.keyLits (n+1) s [c1] with
     | none=>simp [e0,e1] at hM
     | some L1=>
      obtain⟨a,ea,rfl,sa⟩:=Zk5 h.st e0;obtain⟨b,eb,rfl,sb⟩:=Zk5 h.st e1;injection ea with ea
      injection eb with eb
      subst ea eb;simp [e0,e1] at hM;subst hM;exact⟨a,b,rfl,rfl,sa,sb⟩
 . cases hL
theorem ZdY.inj (h:ZdY P k s) (K:WideMaps.KeyLaw P k) {a b a' b':Zy_} (ha:a.size<=maxLen) (hb:b.size<=maxLen) (ha':a'.size<=maxLen) (hb':b'.size<=maxLen) (e:ZbY a b=ZbY a' b'):a=a'/\b=b':=by
 have e:=K.inj (h.mk' ha hb) (e ▸ h.mk' ha' hb')
 simpa using e
theorem ZdZ:ZdY prog 251 9:=
 ⟨⟨_,_,underlying251,rfl,rfl,rfl,rfl,by decide,by decide⟩,by kernel_rfl,by kernel_rfl,underlying9,by kernel_rfl,of_decide_eq_true (by kernel_rfl)⟩
theorem Zng:laidOutB prog=true:=by kernel_rfl
theorem Zrz:(251:TypeId) < prog.types.size:=of_decide_eq_true (by kernel_rfl)
theorem Zsb:prog.keyTypeAt 2 251=true:=by kernel_rfl
theorem ZfT:WideMaps.KeyLaw prog 251:=deep_law_laid Zng (by decide) Zrz Zsb ZdZ.wide
theorem Zh8:Keyed prog 251:=Keyed.of_law ZfT
theorem Zh9 (w:World):(zeroValue 3).run prog w=.ok (.int .i64 0) w:=by kernel_rfl
end
section
open Go.RowKit Go.Deep
theorem Zjz (X:World) (cs:Array Value) (t:TypeId) (g i:Nat) (hg:X.heap.size=g):(X.alloc (.cells cs t)).cell? ⟨g,i,none⟩=cs[i]?:=by subst hg;simp
theorem ZnB:∀ (L:List Int) (n:Nat),(ff L n).1=0->ff L n=(0,0)
 | [],_,_=>rfl
 | c :: r,n,h=>by
  unfold ff at h |-
  by_cases h0:c=0
  . rw [if_pos h0] at h |-;exact ZnB r (n+1) h
  . rw [if_neg h0] at h;exact absurd h h0
theorem Zgi (w:World):Calls prog 271 #[] w fun e w'=>e=.returned (.slice (some ⟨w.heap.size,0,none⟩) 5 5)/\w'=w.alloc (.cells #[.func (.func 287) #[] #[],.func (.func 288) #[] #[],.func (.func 289) #[] #[],.func (.func 290) #[] #[],.func (.func 291) #[] #[]] 289):=by
 go_enter func271,ntmps271;go_wp2;go_ret;exact⟨rfl,rfl⟩
section
variable (kd kind nm team:Zy_) (vv hv fv:Value) (en:Bool) (ver:Int) (V Ho:List Zy_) (Fs:List Fd) (w:World) (lo:Nat)
def ZjY (Fs:List Fd) (nm team:Zy_) (V Ho:List Zy_) (ver:Int):Bool:=(Zap nm&&Zap team)&&(decide (V.length=Fs.length)&&((decide (Ho.length<=3)&&Zm8 Ho)&&inB 0 1000000 ver))
def ZaO (Fs:List Fd) (nm team:Zy_) (V Ho:List Zy_) (ver:Int):Int×Int:=if ZjY Fs nm team V Ho ver=true then ff (Za9 Fs V) 0 else (1,0)
theorem ZgB (hV:Zaf w vv V) (hH:Zaf w hv Ho) (hF:Zau lo w fv Fs) (s2:nm.size<=maxLen) (s3:team.size<=maxLen) :
 Calls prog 241 #[.agg #[.string kd,fv],.agg #[.string kind,.string nm,.string team,vv,.bool en,hv,.int .i64 ver]] w
  fun e w'=>e=.returned (Zj9 (ZaO Fs nm team V Ho ver))/\Zw_ w w':=by
 have HV:=Zab hV;have HH:=Zab hH;have HF:=Zab hF
 obtain⟨a,cap,rfl⟩:∃ a cap,vv=.slice a V.length cap:=by
  rcases hV with ⟨a,cap,h,rfl⟩ | ⟨b,off,cap,h,_⟩
  . exact⟨_,_,h⟩
  . exact⟨_,_,h⟩
 obtain⟨a',cap',rfl⟩:∃ a cap,hv=.slice a Ho.length cap:=by
  rcases hH with ⟨a,cap,h,rfl⟩ | ⟨b,off,cap,h,_⟩
  . exact⟨_,_,h⟩
  . exact⟨_,_,h⟩
 obtain⟨a1,cap1,rfl⟩:=hF.form;clear hV hH hF;have HW:∀ o o',Hd (Zw_ w ((w.alloc o).alloc o')):=fun o o'=>(Zb_.alloc Zl_ _).alloc (by simp) _
 go_enter func241,ntmps241;go_wp2_with fail;refine (Zgi _).mono ?_;rintro e w1 ⟨rfl,hw1⟩
 have G0:Hd (∀ i,w1.cell? ⟨w.heap.size+1+1,i,none⟩=(#[.func (.func 287) #[] #[],.func (.func 288) #[] #[],.func (.func 289) #[] #[],.func (.func 290) #[] #[],.func (.func 291) #[] #[]]:Array Value)[i]?):=fun i=>by
  rw [hw1];exact Zjz _ _ _ _ _ (by simp)
 have G1:Hd (∀ i,w1.cell? ⟨w.heap.size,i,none⟩=(#[.string kd,.slice a1 Fs.length cap1]:Array Value)[i]?):=fun i=>by
  rw [hw1,World.cell?_alloc_lt _ _ _ (by simp;omega),World.cell?_alloc_lt _ _ _ (by simp)];simp
 have G2:Hd (∀ i,w1.cell? ⟨w.heap.size+1,i,none⟩=(#[.string kind,.string nm,.string team,.slice a V.length cap,.bool en,.slice a' Ho.length cap',.int .i64 ver]:Array Value)[i]?):=fun i=>by
  rw [hw1,World.cell?_alloc_lt _ _ _ (by simp)];simp
 have HB1:Hd (Zw_ w w1):=by rw [hw1];exact (HW _ _).o.alloc (by simp;omega) _
 have hz1:w1.heap.size=w.heap.size+3:=by rw [hw1];simp
 simp only [World.size_alloc];clear hw1;go_wp2
 go_loopw [10] (fun i wr=>(i=.int .i64 0/\Below w1.heap.size w1 wr)\/(i=.int .i64 1/\Below w1.heap.size w1 wr/\(Zap nm&&Zap team)=true)\/(i=.int .i64 2/\Below w1.heap.size w1 wr/\(Zap nm&&Zap team)=true/\decide (V.length=Fs.length)=true)\/(i=.int .i64 3/\Below w1.heap.size w1 wr/\(Zap nm&&Zap team)=true/\decide (V.length=Fs.length)=true/\(decide (Ho.length<=3)&&Zm8 Ho)=true)\/(i=.int .i64 4/\Below w1.heap.size w1 wr/\(Zap nm&&Zap team)=true/\decide (V.length=Fs.length)=true/\(decide (Ho.length<=3)&&Zm8 Ho)=true/\inB 0 1000000 ver=true)\/(i=.int .i64 5/\Below w1.heap.size w1 wr/\(Zap nm&&Zap team)=true/\decide (V.length=Fs.length)=true/\(decide (Ho.length<=3)&&Zm8 Ho)=true/\inB 0 1000000 ver=true/\ff (Za9 Fs V) 0=(0,0))) (fun i _=>5 - (intOf i).toNat)
 case atStart=>exact Or.inl ⟨rfl,Below.refl _ _⟩
 case round=>
  rcases hrel with ⟨rfl,hb⟩ | ⟨rfl,hb,d0⟩ | ⟨rfl,hb,d0,d1⟩ | ⟨rfl,hb,d0,d1,d2⟩ | ⟨rfl,hb,d0,d1,d2,d3⟩ | ⟨rfl,hb,d0,d1,d2,d3,d4⟩
  . have HBB:=Zab hb
    have HBr:Hd (Zw_ w wr):=HB1.o.trans (hb.mono (by omega))
    have q1:∀ i,wr.cell? ⟨w.heap.size,i,none⟩=(#[.string kd,.slice a1 Fs.length cap1]:Array Value)[i]?:=fun i=>by
     rw [hb.cell (p:=⟨w.heap.size,i,none⟩) (by simp only [];omega)];exact G1.o i
    have q2:∀ i,wr.cell? ⟨w.heap.size+1,i,none⟩=(#[.string kind,.string nm,.string team,.slice a V.length cap,.bool en,.slice a' Ho.length cap',.int .i64 ver]:Array Value)[i]?:=fun i=>by
     rw [hb.cell (p:=⟨w.heap.size+1,i,none⟩) (by simp only [];omega)];exact G2.o i
    have q0:wr.cell? ⟨w.heap.size+1+1,0,none⟩=some (.func (.func 287) #[] #[]):=by
     rw [hb.cell (p:=⟨w.heap.size+1+1,0,none⟩) (by simp only [];omega)];exact G0.o 0
    clear hb;go_wp2_with fail;refine (Zhg _ _ _ _ _ _ _ _ _ _ s2 s3).mono ?_;rintro e w2 ⟨he,hb2⟩;have HB2:Hd (Zw_ w w2):=HBr.o.trans (hb2.mono HBr.o.size);have HB3:Hd (Below w1.heap.size w1 w2):=HBB.o.trans (hb2.mono HBB.o.size);clear hb2 q0 q1 q2
    cases hc:(Zap nm&&Zap team) with
    | true=>
     have HC:=Zab hc;rw [hc] at he;have he':e=.returned .nilIface:=he;subst he';clear hc he;go_wp2;go_roundw
     . exact Or.inr (Or.inl ⟨by go_num,HB3.o,HC.o⟩)
     . simp [intOf]
    | false=>
     have HX:Hd (ZaO Fs nm team V Ho ver=(1,0)):=by unfold Hd ZaO ZjY;rw [hc];simp
     rw [hc] at he;have he':e=.returned (.iface 347 (.agg #[.int .i64 1,.int .i64 0])):=he;subst he';clear hc he;go_wp2;go_ret;exact⟨by rw [HX.o];rfl,HB2.o⟩
  . have HBB:=Zab hb
    have HBr:Hd (Zw_ w wr):=HB1.o.trans (hb.mono (by omega))
    have q1:∀ i,wr.cell? ⟨w.heap.size,i,none⟩=(#[.string kd,.slice a1 Fs.length cap1]:Array Value)[i]?:=fun i=>by
     rw [hb.cell (p:=⟨w.heap.size,i,none⟩) (by simp only [];omega)];exact G1.o i
    have q2:∀ i,wr.cell? ⟨w.heap.size+1,i,none⟩=(#[.string kind,.string nm,.string team,.slice a V.length cap,.bool en,.slice a' Ho.length cap',.int .i64 ver]:Array Value)[i]?:=fun i=>by
     rw [hb.cell (p:=⟨w.heap.size+1,i,none⟩) (by simp only [];omega)];exact G2.o i
    have q0:wr.cell? ⟨w.heap.size+1+1,1,none⟩=some (.func (.func 288) #[] #[]):=by
     rw [hb.cell (p:=⟨w.heap.size+1+1,1,none⟩) (by simp only [];omega)];exact G0.o 1
    have D0:=Zab d0;clear hb d0;go_wp2_with fail;refine (Zib _ _ _ _ _ _ _ _ _ _ _ _ _ _).mono ?_;rintro e w2 ⟨he,hb2⟩;have HB2:Hd (Zw_ w w2):=HBr.o.trans (hb2.mono HBr.o.size);have HB3:Hd (Below w1.heap.size w1 w2):=HBB.o.trans (hb2.mono HBB.o.size);clear hb2 q0 q1 q2
    cases hc:decide (V.length=Fs.length) with
    | true=>
     have HC:=Zab hc;rw [hc] at he;have he':e=.returned .nilIface:=he;subst he';clear hc he;go_wp2;go_roundw
     . exact Or.inr (Or.inr (Or.inl ⟨by go_num,HB3.o,D0.o,HC.o⟩))
     . simp [intOf]
    | false=>
     have HX:Hd (ZaO Fs nm team V Ho ver=(1,0)):=by unfold Hd ZaO ZjY;rw [D0.o,hc];simp
     rw [hc] at he;have he':e=.returned (.iface 347 (.agg #[.int .i64 1,.int .i64 0])):=he;subst he';clear hc he;go_wp2;go_ret;exact⟨by rw [HX.o];rfl,HB2.o⟩
  . have HBB:=Zab hb
    have HBr:Hd (Zw_ w wr):=HB1.o.trans (hb.mono (by omega))
    have q1:∀ i,wr.cell? ⟨w.heap.size,i,none⟩=(#[.string kd,.slice a1 Fs.length cap1]:Array Value)[i]?:=fun i=>by
     rw [hb.cell (p:=⟨w.heap.size,i,none⟩) (by simp only [];omega)];exact G1.o i
    have q2:∀ i,wr.cell? ⟨w.heap.size+1,i,none⟩=(#[.string kind,.string nm,.string team,.slice a V.length cap,.bool en,.slice a' Ho.length cap',.int .i64 ver]:Array Value)[i]?:=fun i=>by
     rw [hb.cell (p:=⟨w.heap.size+1,i,none⟩) (by simp only [];omega)];exact G2.o i
    have q0:wr.cell? ⟨w.heap.size+1+1,2,none⟩=some (.func (.func 289) #[] #[]):=by
     rw [hb.cell (p:=⟨w.heap.size+1+1,2,none⟩) (by simp only [];omega)];exact G0.o 2
    have D0:=Zab d0;have D1:=Zab d1;clear hb d0 d1;go_wp2_with fail;refine (Zhf _ _ _ _ _ _ _ _ _ Ho _ (HH.o.below HBr.o)).mono ?_;rintro e w2 ⟨he,hb2⟩;have HB2:Hd (Zw_ w w2):=HBr.o.trans (hb2.mono HBr.o.size);have HB3:Hd (Below w1.heap.size w1 w2):=HBB.o.trans (hb2.mono HBB.o.size);clear hb2 q0 q1 q2
    cases hc:(decide (Ho.length<=3)&&Zm8 Ho) with
    | true=>
     have HC:=Zab hc;rw [hc] at he;have he':e=.returned .nilIface:=he;subst he';clear hc he;go_wp2;go_roundw
     . exact Or.inr (Or.inr (Or.inr (Or.inl ⟨by go_num,HB3.o,D0.o,D1.o,HC.o⟩)))
     . simp [intOf]
    | false=>
     have HX:Hd (ZaO Fs nm team V Ho ver=(1,0)):=by unfold Hd ZaO ZjY;rw [D0.o,D1.o,hc];simp
     rw [hc] at he;have he':e=.returned (.iface 347 (.agg #[.int .i64 1,.int .i64 0])):=he;subst he';clear hc he;go_wp2;go_ret;exact⟨by rw [HX.o];rfl,HB2.o⟩
  . have HBB:=Zab hb
    have HBr:Hd (Zw_ w wr):=HB1.o.trans (hb.mono (by omega))
    have q1:∀ i,wr.cell? ⟨w.heap.size,i,none⟩=(#[.string kd,.slice a1 Fs.length cap1]:Array Value)[i]?:=fun i=>by
     rw [hb.cell (p:=⟨w.heap.size,i,none⟩) (by simp only [];omega)];exact G1.o i
    have q2:∀ i,wr.cell? ⟨w.heap.size+1,i,none⟩=(#[.string kind,.string nm,.string team,.slice a V.length cap,.bool en,.slice a' Ho.length cap',.int .i64 ver]:Array Value)[i]?:=fun i=>by
     rw [hb.cell (p:=⟨w.heap.size+1,i,none⟩) (by simp only [];omega)];exact G2.o i
    have q0:wr.cell? ⟨w.heap.size+1+1,3,none⟩=some (.func (.func 290) #[] #[]):=by
     rw [hb.cell (p:=⟨w.heap.size+1+1,3,none⟩) (by simp only [];omega)];exact G0.o 3
    have D0:=Zab d0;have D1:=Zab d1;have D2:=Zab d2;clear hb d0 d1 d2;go_wp2_with fail;refine (Zgf _ _ _ _ _ _ _ _ _ _).mono ?_;rintro e w2 ⟨he,hb2⟩;have HB2:Hd (Zw_ w w2):=HBr.o.trans (hb2.mono HBr.o.size);have HB3:Hd (Below w1.heap.size w1 w2):=HBB.o.trans (hb2.mono HBB.o.size);clear hb2 q0 q1 q2
    cases hc:inB 0 1000000 ver with
    | true=>
     have HC:=Zab hc;rw [hc] at he;have he':e=.returned .nilIface:=he;subst he';clear hc he;go_wp2;go_roundw
     . exact Or.inr (Or.inr (Or.inr (Or.inr (Or.inl ⟨by go_num,HB3.o,D0.o,D1.o,D2.o,HC.o⟩))))
     . simp [intOf]
    | false=>
     have HX:Hd (ZaO Fs nm team V Ho ver=(1,0)):=by unfold Hd ZaO ZjY;rw [D0.o,D1.o,D2.o,hc];simp
     rw [hc] at he;have he':e=.returned (.iface 347 (.agg #[.int .i64 1,.int .i64 0])):=he;subst he';clear hc he;go_wp2;go_ret;exact⟨by rw [HX.o];rfl,HB2.o⟩
  . have HBB:=Zab hb
    have HBr:Hd (Zw_ w wr):=HB1.o.trans (hb.mono (by omega))
    have q1:∀ i,wr.cell? ⟨w.heap.size,i,none⟩=(#[.string kd,.slice a1 Fs.length cap1]:Array Value)[i]?:=fun i=>by
     rw [hb.cell (p:=⟨w.heap.size,i,none⟩) (by simp only [];omega)];exact G1.o i
    have q2:∀ i,wr.cell? ⟨w.heap.size+1,i,none⟩=(#[.string kind,.string nm,.string team,.slice a V.length cap,.bool en,.slice a' Ho.length cap',.int .i64 ver]:Array Value)[i]?:=fun i=>by
     rw [hb.cell (p:=⟨w.heap.size+1,i,none⟩) (by simp only [];omega)];exact G2.o i
    have q0:wr.cell? ⟨w.heap.size+1+1,4,none⟩=some (.func (.func 291) #[] #[]):=by
     rw [hb.cell (p:=⟨w.heap.size+1+1,4,none⟩) (by simp only [];omega)];exact G0.o 4
    have D0:=Zab d0;have D1:=Zab d1;have D2:=Zab d2;have D3:=Zab d3;clear hb d0 d1 d2 d3;have HC:Hd (V.length=Fs.length):=by have:=D1.o;unfold Hd;simpa using this
    go_wp2_with fail;refine (ZgA _ _ _ _ _ _ _ _ _ V Fs _ lo (HV.o.below HBr.o) (HF.o.below HBr.o) HC.o).mono ?_;rintro e w2 ⟨he,hb2⟩;have HB2:Hd (Zw_ w w2):=HBr.o.trans (hb2.mono HBr.o.size);have HB3:Hd (Below w1.heap.size w1 w2):=HBB.o.trans (hb2.mono HBB.o.size);clear hb2 q0 q1 q2
    by_cases hc:(ff (Za9 Fs V) 0).1=0
    . have he':e=.returned .nilIface:=by rw [he];unfold Zj9;rw [if_pos hc]
      have HC:Hd (ff (Za9 Fs V) 0=(0,0)):=ZnB _ _ hc;subst he';clear hc;go_wp2;go_roundw
      . exact Or.inr (Or.inr (Or.inr (Or.inr (Or.inr (⟨by go_num,HB3.o,D0.o,D1.o,D2.o,D3.o,HC.o⟩)))))
      . simp [intOf]
    . have HX:Hd (ZaO Fs nm team V Ho ver=ff (Za9 Fs V) 0):=by unfold Hd ZaO ZjY;rw [D0.o,D1.o,D2.o,D3.o];rfl
      have he':e=.returned (.iface 347 (.agg #[.int .i64 (ff (Za9 Fs V) 0).1,.int .i64 (ff (Za9 Fs V) 0).2])):=by rw [he];unfold Zj9;rw [if_neg hc]
      have HC:Hd (Zj9 (ff (Za9 Fs V) 0)=.iface 347 (.agg #[.int .i64 (ff (Za9 Fs V) 0).1,.int .i64 (ff (Za9 Fs V) 0).2])):=if_neg hc;subst he';generalize (ff (Za9 Fs V) 0).1=p1 at HC hc |-;generalize (ff (Za9 Fs V) 0).2=p2 at HC |-;clear hc he;go_wp2;go_ret;exact⟨by rw [HX.o,HC.o];rfl,HB2.o⟩
  . have HBB:=Zab hb
    have HBr:Hd (Zw_ w wr):=HB1.o.trans (hb.mono (by omega))
    have q1:∀ i,wr.cell? ⟨w.heap.size,i,none⟩=(#[.string kd,.slice a1 Fs.length cap1]:Array Value)[i]?:=fun i=>by
     rw [hb.cell (p:=⟨w.heap.size,i,none⟩) (by simp only [];omega)];exact G1.o i
    have q2:∀ i,wr.cell? ⟨w.heap.size+1,i,none⟩=(#[.string kind,.string nm,.string team,.slice a V.length cap,.bool en,.slice a' Ho.length cap',.int .i64 ver]:Array Value)[i]?:=fun i=>by
     rw [hb.cell (p:=⟨w.heap.size+1,i,none⟩) (by simp only [];omega)];exact G2.o i
    have D0:=Zab d0;have D1:=Zab d1;have D2:=Zab d2;have D3:=Zab d3;have D4:=Zab d4;clear hb d0 d1 d2 d3 d4;have HX:Hd (ZaO Fs nm team V Ho ver=(0,0)):=by unfold Hd ZaO ZjY;rw [D0.o,D1.o,D2.o,D3.o];exact D4.o
    clear D0 D1 D2 D3 D4;go_wp2;go_ret;exact⟨by rw [HX.o];rfl,HBr.o⟩
end
end
open Go.RowKit Go.Deep
theorem Zsk (X:World) (o:Obj):Below X.heap.size X (X.alloc o):=Zb_.alloc Zl_ _
theorem btz {a b c:World} (h:Below a.heap.size a b) (k:Below b.heap.size b c):Below a.heap.size a c:=h.trans (k.mono h.size)
theorem Zaf.formz {w:World}{v:Value}{L:List Zy_} (h:Zaf w v L):∃ a cap,v=.slice a L.length cap:=by
 rcases h with ⟨a,cap,h,rfl⟩ | ⟨b,off,cap,h,_⟩
 . exact⟨_,_,h⟩
 . exact⟨_,_,h⟩
end Go.Proofs.YtmappejlmapboaaGreat
