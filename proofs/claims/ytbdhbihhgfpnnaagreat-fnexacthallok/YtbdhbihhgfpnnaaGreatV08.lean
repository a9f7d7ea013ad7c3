import Derived.Test.YtbdhbihhgfpnnaaGreatV03
set_option maxHeartbeats 16000000
set_option maxRecDepth 100000
open Go.Proofs.Tryz
namespace Go.Proofs.YtbdhbihhgfpnnaaGreat
open Go.RowKit Go.Deep
theorem ZjC (X:World) (cs:Array Value) (t:TypeId) (g i:Nat) (hg:X.heap.size=g):(X.alloc (.cells cs t)).cell? ⟨g,i,none⟩=cs[i]?:=by subst hg;simp
theorem Znv:∀ (L:List Int) (n:Nat),(ff L n).1=0->ff L n=(0,0)
 | [],_,_=>rfl
 | c :: r,n,h=>by
  unfold ff at h |-
  by_cases h0:c=0
  . rw [if_pos h0] at h |-;exact Znv r (n+1) h
  . rw [if_neg h0] at h;exact absurd h h0
theorem ZfZ (w:World):Calls prog 240 #[] w fun e w'=>e=.returned (.slice (some ⟨w.heap.size,0,none⟩) 5 5)/\w'=w.alloc (.cells #[.func (.func 261) #[] #[],.func (.func 262) #[] #[],.func (.func 263) #[] #[],.func (.func 264) #[] #[],.func (.func 265) #[] #[]] 278):=by
 go_enter func240,ntmps240;go_wp2;go_ret;exact⟨rfl,rfl⟩
section
variable (kd kind nm team:Zy_) (vv hv fv:Value) (en:Bool) (ver:Int) (V Ho:List Zy_) (Fs:List Fd) (w:World) (lo:Nat)
def Zj5 (Fs:List Fd) (nm team:Zy_) (V Ho:List Zy_) (ver:Int):Bool:=(Zan nm&&Zan team)&&(decide (V.length=Fs.length)&&((decide (Ho.length<=3)&&ZmU Ho)&&inB 0 1000000 ver))
def ZaS (Fs:List Fd) (nm team:Zy_) (V Ho:List Zy_) (ver:Int):Int×Int:=if Zj5 Fs nm team V Ho ver=true then ff (Zbg Fs V) 0 else (1,0)
theorem Zgo (hV:Zae w vv V) (hH:Zae w hv Ho) (hF:ZaU lo w fv Fs) (s2:nm.size<=maxLen) (s3:team.size<=maxLen) :
 Calls prog 205 #[.agg #[.string kd,fv],.agg #[.string kind,.string nm,.string team,vv,.bool en,hv,.int .i64 ver]] w
  fun e w'=>e=.returned (Zkl (ZaS Fs nm team V Ho ver))/\Zw_ w w':=by
 have HV:=Zab hV;have HH:=Zab hH;have HF:=Zab hF
 obtain⟨a,cap,rfl⟩:∃ a cap,vv=.slice a V.length cap:=by
  rcases hV with ⟨a,cap,h,rfl⟩ | ⟨b,off,cap,h,_⟩
  . exact⟨_,_,h⟩
  . exact⟨_,_,h⟩
 obtain⟨a',cap',rfl⟩:∃ a cap,hv=.slice a Ho.length cap:=by
  rcases hH with ⟨a,cap,h,rfl⟩ | ⟨b,off,cap,h,_⟩
  . exact⟨_,_,h⟩
  . exact⟨_,_,h⟩
 obtain⟨a1,cap1,rfl⟩:=hF.form;clear hV hH hF;have HW:∀ o o',Hd (Zw_ w ((w.alloc o).alloc o')):=fun o o'=>(Zb_.alloc Zl_ _).alloc (by simp) _
 go_enter func205,ntmps205;go_wp2_with fail;refine (ZfZ _).mono ?_;rintro e w1 ⟨rfl,hw1⟩
 have G0:Hd (∀ i,w1.cell? ⟨w.heap.size+1+1,i,none⟩=(#[.func (.func 261) #[] #[],.func (.func 262) #[] #[],.func (.func 263) #[] #[],.func (.func 264) #[] #[],.func (.func 265) #[] #[]]:Array Value)[i]?):=fun i=>by
  rw [hw1];exact ZjC _ _ _ _ _ (by simp)
 have G1:Hd (∀ i,w1.cell? ⟨w.heap.size,i,none⟩=(#[.string kd,.slice a1 Fs.length cap1]:Array Value)[i]?):=fun i=>by
  rw [hw1,World.cell?_alloc_lt _ _ _ (by simp;omega),World.cell?_alloc_lt _ _ _ (by simp)];simp
 have G2:Hd (∀ i,w1.cell? ⟨w.heap.size+1,i,none⟩=(#[.string kind,.string nm,.string team,.slice a V.length cap,.bool en,.slice a' Ho.length cap',.int .i64 ver]:Array Value)[i]?):=fun i=>by
  rw [hw1,World.cell?_alloc_lt _ _ _ (by simp)];simp
 have HB1:Hd (Zw_ w w1):=by rw [hw1];exact (HW _ _).o.alloc (by simp;omega) _
 have hz1:w1.heap.size=w.heap.size+3:=by rw [hw1];simp
 simp only [World.size_alloc];clear hw1;go_wp2
 go_loopw [10] (fun i wr=>(i=.int .i64 0/\Below w1.heap.size w1 wr)\/(i=.int .i64 1/\Below w1.heap.size w1 wr/\(Zan nm&&Zan team)=true)\/(i=.int .i64 2/\Below w1.heap.size w1 wr/\(Zan nm&&Zan team)=true/\decide (V.length=Fs.length)=true)\/(i=.int .i64 3/\Below w1.heap.size w1 wr/\(Zan nm&&Zan team)=true/\decide (V.length=Fs.length)=true/\(decide (Ho.length<=3)&&ZmU Ho)=true)\/(i=.int .i64 4/\Below w1.heap.size w1 wr/\(Zan nm&&Zan team)=true/\decide (V.length=Fs.length)=true/\(decide (Ho.length<=3)&&ZmU Ho)=true/\inB 0 1000000 ver=true)\/(i=.int .i64 5/\Below w1.heap.size w1 wr/\(Zan nm&&Zan team)=true/\decide (V.length=Fs.length)=true/\(decide (Ho.length<=3)&&ZmU Ho)=true/\inB 0 1000000 ver=true/\ff (Zbg Fs V) 0=(0,0))) (fun i _=>5 - (intOf i).toNat)
 case atStart=>exact Or.inl ⟨rfl,Below.refl _ _⟩
 case round=>
  rcases hrel with ⟨rfl,hb⟩ | ⟨rfl,hb,d0⟩ | ⟨rfl,hb,d0,d1⟩ | ⟨rfl,hb,d0,d1,d2⟩ | ⟨rfl,hb,d0,d1,d2,d3⟩ | ⟨rfl,hb,d0,d1,d2,d3,d4⟩
  . have HBB:=Zab hb
    have HBr:Hd (Zw_ w wr):=HB1.o.trans (hb.mono (by omega))
    have q1:∀ i,wr.cell? ⟨w.heap.size,i,none⟩=(#[.string kd,.slice a1 Fs.length cap1]:Array Value)[i]?:=fun i=>by
     rw [hb.cell (p:=⟨w.heap.size,i,none⟩) (by simp only [];omega)];exact G1.o i
    have q2:∀ i,wr.cell? ⟨w.heap.size+1,i,none⟩=(#[.string kind,.string nm,.string team,.slice a V.length cap,.bool en,.slice a' Ho.length cap',.int .i64 ver]:Array Value)[i]?:=fun i=>by
     rw [hb.cell (p:=⟨w.heap.size+1,i,none⟩) (by simp only [];omega)];exact G2.o i
    have q0:wr.cell? ⟨w.heap.size+1+1,0,none⟩=some (.func (.func 261) #[] #[]):=by
     rw [hb.cell (p:=⟨w.heap.size+1+1,0,none⟩) (by simp only [];omega)];exact G0.o 0
    clear hb;go_wp2_with fail;refine (Zha _ _ _ _ _ _ _ _ _ _ s2 s3).mono ?_;rintro e w2 ⟨he,hb2⟩;have HB2:Hd (Zw_ w w2):=HBr.o.trans (hb2.mono HBr.o.size);have HB3:Hd (Below w1.heap.size w1 w2):=HBB.o.trans (hb2.mono HBB.o.size);clear hb2 q0 q1 q2
    cases hc:(Zan nm&&Zan team) with
    | true=>
     have HC:=Zab hc;rw [hc] at he;have he':e=.returned .nilIface:=he;subst he';clear hc he;go_wp2;go_roundw
     . exact Or.inr (Or.inl ⟨by go_num,HB3.o,HC.o⟩)
     . simp [intOf]
    | false=>
     have HX:Hd (ZaS Fs nm team V Ho ver=(1,0)):=by unfold Hd ZaS Zj5;rw [hc];simp
     rw [hc] at he;have he':e=.returned (.iface 348 (.agg #[.int .i64 1,.int .i64 0])):=he;subst he';clear hc he;go_wp2;go_ret;exact⟨by rw [HX.o];rfl,HB2.o⟩
  . have HBB:=Zab hb
    have HBr:Hd (Zw_ w wr):=HB1.o.trans (hb.mono (by omega))
    have q1:∀ i,wr.cell? ⟨w.heap.size,i,none⟩=(#[.string kd,.slice a1 Fs.length cap1]:Array Value)[i]?:=fun i=>by
     rw [hb.cell (p:=⟨w.heap.size,i,none⟩) (by simp only [];omega)];exact G1.o i
    have q2:∀ i,wr.cell? ⟨w.heap.size+1,i,none⟩=(#[.string kind,.string nm,.string team,.slice a V.length cap,.bool en,.slice a' Ho.length cap',.int .i64 ver]:Array Value)[i]?:=fun i=>by
     rw [hb.cell (p:=⟨w.heap.size+1,i,none⟩) (by simp only [];omega)];exact G2.o i
    have q0:wr.cell? ⟨w.heap.size+1+1,1,none⟩=some (.func (.func 262) #[] #[]):=by
     rw [hb.cell (p:=⟨w.heap.size+1+1,1,none⟩) (by simp only [];omega)];exact G0.o 1
    have D0:=Zab d0;clear hb d0;go_wp2_with fail;refine (Zib _ _ _ _ _ _ _ _ _ _ _ _ _ _).mono ?_;rintro e w2 ⟨he,hb2⟩;have HB2:Hd (Zw_ w w2):=HBr.o.trans (hb2.mono HBr.o.size);have HB3:Hd (Below w1.heap.size w1 w2):=HBB.o.trans (hb2.mono HBB.o.size);clear hb2 q0 q1 q2
    cases hc:decide (V.length=Fs.length) with
    | true=>
     have HC:=Zab hc;rw [hc] at he;have he':e=.returned .nilIface:=he;subst he';clear hc he;go_wp2;go_roundw
     . exact Or.inr (Or.inr (Or.inl ⟨by go_num,HB3.o,D0.o,HC.o⟩))
     . simp [intOf]
    | false=>
     have HX:Hd (ZaS Fs nm team V Ho ver=(1,0)):=by unfold Hd ZaS Zj5;rw [D0.o,hc];simp
     rw [hc] at he;have he':e=.returned (.iface 348 (.agg #[.int .i64 1,.int .i64 0])):=he;subst he';clear hc he;go_wp2;go_ret;exact⟨by rw [HX.o];rfl,HB2.o⟩
  . have HBB:=Zab hb
    have HBr:Hd (Zw_ w wr):=HB1.o.trans (hb.mono (by omega))
    have q1:∀ i,wr.cell? ⟨w.heap.size,i,none⟩=(#[.string kd,.slice a1 Fs.length cap1]:Array Value)[i]?:=fun i=>by
     rw [hb.cell (p:=⟨w.heap.size,i,none⟩) (by simp only [];omega)];exact G1.o i
    have q2:∀ i,wr.cell? ⟨w.heap.size+1,i,none⟩=(#[.string kind,.string nm,.string team,.slice a V.length cap,.bool en,.slice a' Ho.length cap',.int .i64 ver]:Array Value)[i]?:=fun i=>by
     rw [hb.cell (p:=⟨w.heap.size+1,i,none⟩) (by simp only [];omega)];exact G2.o i
    have q0:wr.cell? ⟨w.heap.size+1+1,2,none⟩=some (.func (.func 263) #[] #[]):=by
     rw [hb.cell (p:=⟨w.heap.size+1+1,2,none⟩) (by simp only [];omega)];exact G0.o 2
    have D0:=Zab d0;have D1:=Zab d1;clear hb d0 d1;go_wp2_with fail;refine (Zg9 _ _ _ _ _ _ _ _ _ Ho _ (HH.o.below HBr.o)).mono ?_;rintro e w2 ⟨he,hb2⟩;have HB2:Hd (Zw_ w w2):=HBr.o.trans (hb2.mono HBr.o.size);have HB3:Hd (Below w1.heap.size w1 w2):=HBB.o.trans (hb2.mono HBB.o.size);clear hb2 q0 q1 q2
    cases hc:(decide (Ho.length<=3)&&ZmU Ho) with
    | true=>
     have HC:=Zab hc;rw [hc] at he;have he':e=.returned .nilIface:=he;subst he';clear hc he;go_wp2;go_roundw
     . exact Or.inr (Or.inr (Or.inr (Or.inl ⟨by go_num,HB3.o,D0.o,D1.o,HC.o⟩)))
     . simp [intOf]
    | false=>
     have HX:Hd (ZaS Fs nm team V Ho ver=(1,0)):=by unfold Hd ZaS Zj5;rw [D0.o,D1.o,hc];simp
     rw [hc] at he;have he':e=.returned (.iface 348 (.agg #[.int .i64 1,.int .i64 0])):=he;subst he';clear hc he;go_wp2;go_ret;exact⟨by rw [HX.o];rfl,HB2.o⟩
  . have HBB:=Zab hb
    have HBr:Hd (Zw_ w wr):=HB1.o.trans (hb.mono (by omega))
    have q1:∀ i,wr.cell? ⟨w.heap.size,i,none⟩=(#[.string kd,.slice a1 Fs.length cap1]:Array Value)[i]?:=fun i=>by
     rw [hb.cell (p:=⟨w.heap.size,i,none⟩) (by simp only [];omega)];exact G1.o i
    have q2:∀ i,wr.cell? ⟨w.heap.size+1,i,none⟩=(#[.string kind,.string nm,.string team,.slice a V.length cap,.bool en,.slice a' Ho.length cap',.int .i64 ver]:Array Value)[i]?:=fun i=>by
     rw [hb.cell (p:=⟨w.heap.size+1,i,none⟩) (by simp only [];omega)];exact G2.o i
    have q0:wr.cell? ⟨w.heap.size+1+1,3,none⟩=some (.func (.func 264) #[] #[]):=by
     rw [hb.cell (p:=⟨w.heap.size+1+1,3,none⟩) (by simp only [];omega)];exact G0.o 3
    have D0:=Zab d0;have D1:=Zab d1;have D2:=Zab d2;clear hb d0 d1 d2;go_wp2_with fail;refine (ZfW _ _ _ _ _ _ _ _ _ _).mono ?_;rintro e w2 ⟨he,hb2⟩;have HB2:Hd (Zw_ w w2):=HBr.o.trans (hb2.mono HBr.o.size);have HB3:Hd (Below w1.heap.size w1 w2):=HBB.o.trans (hb2.mono HBB.o.size);clear hb2 q0 q1 q2
    cases hc:inB 0 1000000 ver with
    | true=>
     have HC:=Zab hc;rw [hc] at he;have he':e=.returned .nilIface:=he;subst he';clear hc he;go_wp2;go_roundw
     . exact Or.inr (Or.inr (Or.inr (Or.inr (Or.inl ⟨by go_num,HB3.o,D0.o,D1.o,D2.o,HC.o⟩))))
     . simp [intOf]
    | false=>
     have HX:Hd (ZaS Fs nm team V Ho ver=(1,0)):=by unfold Hd ZaS Zj5;rw [D0.o,D1.o,D2.o,hc];simp
     rw [hc] at he;have he':e=.returned (.iface 348 (.agg #[.int .i64 1,.int .i64 0])):=he;subst he';clear hc he;go_wp2;go_ret;exact⟨by rw [HX.o];rfl,HB2.o⟩
  . have HBB:=Zab hb
    have HBr:Hd (Zw_ w wr):=HB1.o.trans (hb.mono (by omega))
    have q1:∀ i,wr.cell? ⟨w.heap.size,i,none⟩=(#[.string kd,.slice a1 Fs.length cap1]:Array Value)[i]?:=fun i=>by
     rw [hb.cell (p:=⟨w.heap.size,i,none⟩) (by simp only [];omega)];exact G1.o i
    have q2:∀ i,wr.cell? ⟨w.heap.size+1,i,none⟩=(#[.string kind,.string nm,.string team,.slice a V.length cap,.bool en,.slice a' Ho.length cap',.int .i64 ver]:Array Value)[i]?:=fun i=>by
     rw [hb.cell (p:=⟨w.heap.size+1,i,none⟩) (by simp only [];omega)];exact G2.o i
    have q0:wr.cell? ⟨w.heap.size+1+1,4,none⟩=some (.func (.func 265) #[] #[]):=by
     rw [hb.cell (p:=⟨w.heap.size+1+1,4,none⟩) (by simp only [];omega)];exact G0.o 4
    have D0:=Zab d0;have D1:=Zab d1;have D2:=Zab d2;have D3:=Zab d3;clear hb d0 d1 d2 d3;have HC:Hd (V.length=Fs.length):=by have:=D1.o;unfold Hd;simpa using this
    go_wp2_with fail;refine (Zgn _ _ _ _ _ _ _ _ _ V Fs _ lo (HV.o.below HBr.o) (HF.o.below HBr.o) HC.o).mono ?_;rintro e w2 ⟨he,hb2⟩;have HB2:Hd (Zw_ w w2):=HBr.o.trans (hb2.mono HBr.o.size);have HB3:Hd (Below w1.heap.size w1 w2):=HBB.o.trans (hb2.mono HBB.o.size);clear hb2 q0 q1 q2
    by_cases hc:(ff (Zbg Fs V) 0).1=0
    . have he':e=.returned .nilIface:=by rw [he];unfold Zkl;rw [if_pos hc]
      have HC:Hd (ff (Zbg Fs V) 0=(0,0)):=Znv _ _ hc;subst he';clear hc;go_wp2;go_roundw
      . exact Or.inr (Or.inr (Or.inr (Or.inr (Or.inr (⟨by go_num,HB3.o,D0.o,D1.o,D2.o,D3.o,HC.o⟩)))))
      . simp [intOf]
    . have HX:Hd (ZaS Fs nm team V Ho ver=ff (Zbg Fs V) 0):=by unfold Hd ZaS Zj5;rw [D0.o,D1.o,D2.o,D3.o];rfl
      have he':e=.returned (.iface 348 (.agg #[.int .i64 (ff (Zbg Fs V) 0).1,.int .i64 (ff (Zbg Fs V) 0).2])):=by rw [he];unfold Zkl;rw [if_neg hc]
      have HC:Hd (Zkl (ff (Zbg Fs V) 0)=.iface 348 (.agg #[.int .i64 (ff (Zbg Fs V) 0).1,.int .i64 (ff (Zbg Fs V) 0).2])):=if_neg hc;subst he';generalize (ff (Zbg Fs V) 0).1=p1 at HC hc |-;generalize (ff (Zbg Fs V) 0).2=p2 at HC |-;clear hc he;go_wp2;go_ret;exact⟨by rw [HX.o,HC.o];rfl,HB2.o⟩
  . have HBB:=Zab hb
    have HBr:Hd (Zw_ w wr):=HB1.o.trans (hb.mono (by omega))
    have q1:∀ i,wr.cell? ⟨w.heap.size,i,none⟩=(#[.string kd,.slice a1 Fs.length cap1]:Array Value)[i]?:=fun i=>by
     rw [hb.cell (p:=⟨w.heap.size,i,none⟩) (by simp only [];omega)];exact G1.o i
    have q2:∀ i,wr.cell? ⟨w.heap.size+1,i,none⟩=(#[.string kind,.string nm,.string team,.slice a V.length cap,.bool en,.slice a' Ho.length cap',.int .i64 ver]:Array Value)[i]?:=fun i=>by
     rw [hb.cell (p:=⟨w.heap.size+1,i,none⟩) (by simp only [];omega)];exact G2.o i
    have D0:=Zab d0;have D1:=Zab d1;have D2:=Zab d2;have D3:=Zab d3;have D4:=Zab d4;clear hb d0 d1 d2 d3 d4;have HX:Hd (ZaS Fs nm team V Ho ver=(0,0)):=by unfold Hd ZaS Zj5;rw [D0.o,D1.o,D2.o,D3.o];exact D4.o
    clear D0 D1 D2 D3 D4;go_wp2;go_ret;exact⟨by rw [HX.o];rfl,HBr.o⟩
end
end Go.Proofs.YtbdhbihhgfpnnaaGreat
