import Derived.Test.YtcfjmagkinpaeaaGreatGDA
set_option maxHeartbeats 16000000
set_option maxRecDepth 100000
open Go.Proofs.Tryz
namespace Go.Proofs.YtcfjmagkinpaeaaGreat
open Go.RowKit Go.Deep
def ZnM (b:Bool):Value:=if b=true then .nilIface else .iface 355 (.agg #[.int .i64 1,.int .i64 0])
theorem ZaJ (b:Bool) (w:World):Calls prog 256 #[.bool b] w fun e w'=>e=.returned (ZnM b)∧Zw_ w w':=by
 cases b with
 | true=>
  go_enter func256,ntmps256;go_wp2;go_ret;exact⟨rfl,Below.refl _ _⟩
 | false=>
  go_enter func256,ntmps256;go_wp2;go_ret;exact⟨rfl,Below.refl _ _⟩
section
variable (kd kind nm team:Zy_) (vv hv fv:Value) (en:Bool) (ver:Int) (V Ho:List Zy_) (Fs:List Fd) (w:World) (lo:Nat)
theorem Zg9 (s2:nm.size≤maxLen) (s3:team.size≤maxLen) :
 Calls prog 245 #[.agg #[.string kd,fv],.agg #[.string kind,.string nm,.string team,vv,.bool en,hv,.int .i64 ver]] w
  fun e w'=>e=.returned (ZnM (Zaj nm&&Zaj team))∧Zw_ w w':=by
 have HW:∀ o o',Hid (Zw_ w ((w.alloc o).alloc o')):=fun o o'=>(Zb_.alloc Zl_ _).alloc (by simp) _
 cases hn:Zaj nm with
 | false=>
  go_enter func245,ntmps245
  go_wp2_with (first
   | (go_at_call 118;refine (Zag _ _ (by assumption)).mono ?_;rintro e w' ⟨rfl,rfl⟩)
   | (go_at_call 256;refine (ZaJ _ _).mono ?_;rintro e w' ⟨rfl,hb⟩))
  go_ret;exact⟨rfl,(HW _ _).out.trans (hb.mono (HW _ _).out.size)⟩
 | true=>
  cases ht:Zaj team with
  | false=>
   go_enter func245,ntmps245
   go_wp2_with (first
    | (go_at_call 118;refine (Zag _ _ (by assumption)).mono ?_;rintro e w' ⟨rfl,rfl⟩)
    | (go_at_call 256;refine (ZaJ _ _).mono ?_;rintro e w' ⟨rfl,hb⟩))
   go_ret;exact⟨rfl,(HW _ _).out.trans (hb.mono (HW _ _).out.size)⟩
  | true=>
   go_enter func245,ntmps245
   go_wp2_with (first
    | (go_at_call 118;refine (Zag _ _ (by assumption)).mono ?_;rintro e w' ⟨rfl,rfl⟩)
    | (go_at_call 256;refine (ZaJ _ _).mono ?_;rintro e w' ⟨rfl,hb⟩))
   go_ret;exact⟨rfl,(HW _ _).out.trans (hb.mono (HW _ _).out.size)⟩
theorem Zib (a a1:Option Addr) (cap cap1 n m:Nat) :
 Calls prog 246 #[.agg #[.string kd,.slice a1 m cap1],.agg #[.string kind,.string nm,.string team,.slice a n cap,.bool en,hv,.int .i64 ver]] w
  fun e w'=>e=.returned (ZnM (decide (n=m)))∧Zw_ w w':=by
 have HW:∀ o o',Hid (Zw_ w ((w.alloc o).alloc o')):=fun o o'=>(Zb_.alloc Zl_ _).alloc (by simp) _
 by_cases hnm:n=m
 · have hd:decide (n=m)=true:=by simpa using hnm
   have hi:((n:Int) == (m:Int))=true:=by rw [hnm];simp
   rw [hd];clear hnm hd;go_enter func246,ntmps246
   go_wp2_with (first
    | (go_at_call 256;refine (ZaJ _ _).mono ?_;rintro e w' ⟨rfl,hb⟩))
   go_ret;exact⟨rfl,(HW _ _).out.trans (hb.mono (HW _ _).out.size)⟩
 · have hd:decide (n=m)=false:=by simpa using hnm
   have hi:((n:Int) == (m:Int))=false:=by simp;omega
   rw [hd];clear hnm hd;go_enter func246,ntmps246
   go_wp2_with (first
    | (go_at_call 256;refine (ZaJ _ _).mono ?_;rintro e w' ⟨rfl,hb⟩))
   go_ret;exact⟨rfl,(HW _ _).out.trans (hb.mono (HW _ _).out.size)⟩
theorem Zg8 (hH:Zaf w hv Ho) :
 Calls prog 247 #[.agg #[.string kd,fv],.agg #[.string kind,.string nm,.string team,vv,.bool en,hv,.int .i64 ver]] w
  fun e w'=>e=.returned (ZnM (decide (Ho.length≤3)&&Zlx Ho))∧Zw_ w w':=by
 have HW:∀ o o',Hid (Zw_ w ((w.alloc o).alloc o')):=fun o o'=>(Zb_.alloc Zl_ _).alloc (by simp) _
 have HH:=Zab hH
 obtain⟨a,cap,rfl⟩:∃ a cap,hv=.slice a Ho.length cap:=by
  rcases hH with ⟨a,cap,h,rfl⟩ | ⟨b,off,cap,h,_⟩
  · exact⟨_,_,h⟩
  · exact⟨_,_,h⟩
 clear hH
 by_cases h3:Ho.length≤3
 · have hd:decide (Ho.length≤3)=true:=by simpa using h3
   have hi:(Ho.length:Int)≤3:=by omega
   rw [hd,Bool.true_and];generalize hB:Zlx Ho=B;have HB:=Zab hB;clear h3 hd hB;go_enter func247,ntmps247;go_wp2_with fail;refine (Zd5 _ Ho _ (HH.out.below (HW _ _).out)).mono ?_;rintro e w1 ⟨rfl,hb1⟩;have HB1:Hid (Zw_ w w1):=by rw [hb1];exact (HW _ _).out
   rw [HB.out];subst hb1;go_wp2_with fail;refine (ZaJ _ _).mono ?_;rintro e w' ⟨rfl,hb⟩;have HB2:Hid (Zw_ w w'):=HB1.out.trans (hb.mono HB1.out.size);clear hb;go_wp2;go_ret;exact⟨rfl,HB2.out⟩
 · have hd:decide (Ho.length≤3)=false:=by simpa using h3
   have hi:¬ (Ho.length:Int)≤3:=by omega
   rw [hd,Bool.false_and];clear h3 hd;go_enter func247,ntmps247
   go_wp2_with (first
    | (go_at_call 256;refine (ZaJ _ _).mono ?_;rintro e w' ⟨rfl,hb⟩))
   go_ret;exact⟨rfl,(HW _ _).out.trans (hb.mono (HW _ _).out.size)⟩
theorem ZfY :
 Calls prog 248 #[.agg #[.string kd,fv],.agg #[.string kind,.string nm,.string team,vv,.bool en,hv,.int .i64 ver]] w
  fun e w'=>e=.returned (ZnM (inB 0 1000000 ver))∧Zw_ w w':=by
 have HW:∀ o o',Hid (Zw_ w ((w.alloc o).alloc o')):=fun o o'=>(Zb_.alloc Zl_ _).alloc (by simp) _
 by_cases h0:0≤ver
 · by_cases h1:ver≤1000000
   · have hd:inB 0 1000000 ver=true:=by simp [inB];omega
     rw [hd];clear hd;go_enter func248,ntmps248
     go_wp2_with (first
      | (go_at_call 256;refine (ZaJ _ _).mono ?_;rintro e w' ⟨rfl,hb⟩))
     go_ret;exact⟨rfl,(HW _ _).out.trans (hb.mono (HW _ _).out.size)⟩
   · have hd:inB 0 1000000 ver=false:=by simp [inB];omega
     rw [hd];clear hd;go_enter func248,ntmps248
     go_wp2_with (first
      | (go_at_call 256;refine (ZaJ _ _).mono ?_;rintro e w' ⟨rfl,hb⟩))
     go_ret;exact⟨rfl,(HW _ _).out.trans (hb.mono (HW _ _).out.size)⟩
 · have hd:inB 0 1000000 ver=false:=by simp [inB];omega
   rw [hd];clear hd;go_enter func248,ntmps248
   go_wp2_with (first
    | (go_at_call 256;refine (ZaJ _ _).mono ?_;rintro e w' ⟨rfl,hb⟩))
   go_ret;exact⟨rfl,(HW _ _).out.trans (hb.mono (HW _ _).out.size)⟩
end
def Zbw (f:Fd) (v:Zy_):Int:=if v.toList.isEmpty=true then (if f.mu=true then 2 else 0) else if ZaL f.kd f.le f.mo f.words v=true then 0 else 3
def Zbe (Fs:List Fd) (V:List Zy_):List Int:=List.zipWith Zbw Fs V
def ff:List Int→Nat→Int×Int
 | [],_=>(0,0)
 | c :: r,n=>if c=0 then ff r (n+1) else (c,n)
theorem ZqL:∀ (L:List Int) (n:Nat),(∀ k (hk:k < L.length),L[k]=0)→ff L n=(0,0)
 | [],_,_=>rfl
 | c :: r,n,h=>by
  have h0:c=0:=h 0 (by simp);unfold ff;rw [if_pos h0];exact ZqL r (n+1) fun k hk=>h (k+1) (by simpa using hk)
theorem ZqM:∀ (L:List Int) (n k:Nat) (hk:k < L.length),L[k]≠0→(∀ j (hj:j < L.length),j < k→L[j]=0)→ff L n=(L[k],((n+k:Nat):Int))
 | c :: r,n,0,_,h,_=>by
  have h':c≠0:=h;unfold ff;rw [if_neg h'];simp
 | c :: r,n,k+1,hk,h,hall=>by
  have h0:c=0:=hall 0 (by simp) (by omega);unfold ff;rw [if_pos h0,ZqM r (n+1) k (by simpa using hk) h (fun j hj hjk=>hall (j+1) (by simpa using hj) (by omega))];simp only [List.getElem_cons_succ,Prod.mk.injEq,true_and]
  omega
theorem Zdy {Fs:List Fd} {V:List Zy_} (h:V.length=Fs.length):(Zbe Fs V).length=Fs.length:=by simp [Zbe,h]
theorem Zfw {Fs:List Fd} {V:List Zy_} {i:Nat} (h:i < (Zbe Fs V).length) (h1:i < Fs.length) (h2:i < V.length):(Zbe Fs V)[i]=Zbw Fs[i] V[i]:=by simp [Zbe]
theorem Zgu {Fs:List Fd} {V:List Zy_} (hl:V.length=Fs.length) (h:∀ j (h1:j < Fs.length) (h2:j < V.length),j < Fs.length→Zbw Fs[j] V[j]=0):ff (Zbe Fs V) 0=(0,0):=
 ZqL _ _ fun k hk=>by rw [Zfw hk (by rw [Zdy hl] at hk;exact hk) (by rw [Zdy hl] at hk;omega)];exact h k _ _ (by rw [Zdy hl] at hk;exact hk)
theorem Zep {Fs:List Fd} {V:List Zy_} (hl:V.length=Fs.length) {k:Nat} {c:Int} (h1:k < Fs.length) (h2:k < V.length) (hc:Zbw Fs[k] V[k]=c) (h0:c≠0) (h:∀ j (h1:j < Fs.length) (h2:j < V.length),j < k→Zbw Fs[j] V[j]=0):ff (Zbe Fs V) 0=(c,(k:Int)):=by
 have hk:k < (Zbe Fs V).length:=by rw [Zdy hl];exact h1
 have e:(Zbe Fs V)[k]=c:=by rw [Zfw hk h1 h2];exact hc
 rw [ZqM _ 0 k hk (by rw [e];exact h0) (fun j hj hjk=>by rw [Zfw hj (by rw [Zdy hl] at hj;exact hj) (by omega)];exact h j _ _ hjk),e,Nat.zero_add]
def Zka (r:Int×Int):Value:=if r.1=0 then .nilIface else .iface 355 (.agg #[.int .i64 r.1,.int .i64 r.2])
theorem Zav.fullz {lo:Nat} {w:World} {a:Option Addr} {n cap:Nat} {Fs:List Fd} (h:Zav lo w (.slice a n cap) Fs) (hL:0 < Fs.length) :
 ∃ b off,a=some ⟨b,off,none⟩∧b < w.heap.size∧∀ i (h:i < Fs.length),ZeG Fs[i]∧∃ wv,ZcC w b (off+i*11) Fs[i] wv∧Zaf w wv Fs[i].words:=by
 rcases h with ⟨a',cap',h,rfl⟩ | ⟨b',off',cap',h1,h2,h3,h4,h5,h6,h7⟩
 · simp at hL
 · injection h1 with e1 e2 e3
   exact⟨b',off',e1,h4,fun i hi=>by obtain⟨q1,wv,q2,q3⟩:=h7 i hi;exact⟨q1,wv,q2,q3.at⟩⟩
theorem Zav.len {lo:Nat} {w:World} {v:Value} {Fs:List Fd} (h:Zav lo w v Fs):Fs.length≤maxLen:=by
 rcases h with ⟨_,_,_,rfl⟩ | ⟨_,_,_,_,_,h,_⟩
 · exact Nat.zero_le _
 · exact h
theorem Zaf.fullz {w:World} {a:Option Addr} {n cap:Nat} {L:List Zy_} (h:Zaf w (.slice a n cap) L) (hL:0 < L.length) :
 ∃ b off,a=some ⟨b,off,none⟩∧n=L.length∧b < w.heap.size∧∀ i (h:i < L.length),L[i].size≤maxLen∧w.cell? ⟨b,off+i,none⟩=some (.string L[i]):=by
 rcases h with ⟨a',cap',h,rfl⟩ | ⟨b',off',cap',h1,h2,h3,h4,h5,h6⟩
 · simp at hL
 · injection h1 with e1 e2 e3
   exact⟨b',off',e1,e2,h4,fun i hi=>⟨h6 _ (List.getElem_mem hi),h5 i hi⟩⟩
section
variable (kd kind nm team:Zy_) (vv hv fv:Value) (en:Bool) (ver:Int) (V Ho:List Zy_) (Fs:List Fd) (w:World) (lo:Nat)
theorem Zgn (hV:Zaf w vv V) (hF:Zav lo w fv Fs) (hl:V.length=Fs.length) :
 Calls prog 249 #[.agg #[.string kd,fv],.agg #[.string kind,.string nm,.string team,vv,.bool en,hv,.int .i64 ver]] w
  fun e w'=>e=.returned (Zka (ff (Zbe Fs V) 0))∧Zw_ w w':=by
 have HV:=Zab hV;have HF:=Zab hF;obtain⟨a,n,cap,rfl⟩:=hV.form;obtain⟨a1,cap1,rfl⟩:=hF.form;have HL:=Zab hl;have hn:=hF.len;unfold maxLen at hn;clear hV hF hl;have HW:∀ o o',Hid (Zw_ w ((w.alloc o).alloc o')):=fun o o'=>(Zb_.alloc Zl_ _).alloc (by simp) _
 go_enter func249,ntmps249;go_wp2_with fail;refine (Zet _).mono ?_;rintro e w1 ⟨rfl,hw1⟩;have hr1:w1.heap[w.heap.size+2]?=some (.map Zam 4):=by have:=ZfQ ((w.alloc (.cells #[.string kd,.slice a1 Fs.length cap1] 128)).alloc (.cells #[.string kind,.string nm,.string team,.slice a n cap,.bool en,hv,.int .i64 ver] 160)) (.map Zam 4);rw [← hw1] at this;simpa using this
 have hbx:Hid (∀ i,w1.cell? ⟨w.heap.size,i,none⟩=(#[.string kd,.slice a1 Fs.length cap1]:Array Value)[i]?):=fun i=>by
  rw [hw1,World.cell?_alloc_lt _ _ _ (by simp;omega),World.cell?_alloc_lt _ _ _ (by simp)];simp
 have hby:Hid (∀ i,w1.cell? ⟨w.heap.size+1,i,none⟩=(#[.string kind,.string nm,.string team,.slice a n cap,.bool en,hv,.int .i64 ver]:Array Value)[i]?):=fun i=>by
  rw [hw1,World.cell?_alloc_lt _ _ _ (by simp)];simp
 have HB1:Hid (Zw_ w w1):=by rw [hw1];exact (HW _ _).out.alloc (by simp;omega) _
 have hz1:w1.heap.size=w.heap.size+3:=by rw [hw1];simp
 have HR1:=Zab hr1;clear hw1 hr1;have q0:=hbx.out;go_wp2
 go_loopw [13] (fun i wr=>∃ k:Nat,i=.int .i64 k∧k≤Fs.length∧Below w1.heap.size w1 wr∧∀ j (h1:j < Fs.length) (h2:j < V.length),j < k→Zbw Fs[j] V[j]=0) (fun i _=>Fs.length - (intOf i).toNat)
 case atStart=>exact⟨0,rfl,by omega,Below.refl _ _,fun j _ _ h=>by omega⟩
 case round=>
  obtain⟨k,rfl,hk,hb,hall⟩:=hrel;have HA:=Zab hall;have HBB:=Zab hb;have hszr:w.heap.size+2 < wr.heap.size:=by have:=hb.size;omega
  have hsz1:w.heap.size+1 < wr.heap.size:=by omega
  have HBr:Hid (Zw_ w wr):=HB1.out.trans (hb.mono (by omega));have HRr:Hid (wr.heap[w.heap.size+1+1]?=some (.map Zam 4)):=by unfold Hid;rw [hb.block _ (by omega)];exact HR1.out
  have hO:∀ i,wr.cell? ⟨w.heap.size+1,i,none⟩=(#[.string kind,.string nm,.string team,.slice a n cap,.bool en,hv,.int .i64 ver]:Array Value)[i]?:=fun i=>by
   rw [hb.cell (p:=⟨w.heap.size+1,i,none⟩) (by simp only [];omega)];exact hby.out i
  clear hb hall q0
  by_cases hlt:k < Fs.length
  · have hlv:k < V.length:=by have:=HL.out;omega
    obtain⟨fb,foff,rfl,hfb,hfc⟩:=HF.out.fullz (by omega);obtain⟨hsz,wv,hcell,hst⟩:=hfc k hlt;obtain⟨c0,c1,c2,c3,c4,c5,c6,c7,c8,c9,c10⟩:=hcell.below HBr.out hfb;obtain⟨wa,wn,wcap,rfl⟩:=hst.form;obtain⟨vb,voff,rfl,rfl,hvb,hvc⟩:=HV.out.fullz (by omega);have hvk:wr.cell? ⟨vb,voff+k,none⟩=some (.string V[k]):=by rw [HBr.out.cell (p:=⟨vb,_,none⟩) hvb];exact (hvc k hlv).2
    have hvbr:vb < wr.heap.size:=by have:=HBr.out.size;omega
    have HZ:=Zab (hvc k hlv).1;have HST:=Zab hst;clear hcell hst hvc hfc hsz
    cases he:V[k].toList.isEmpty with
    | true=>
     cases hm:Fs[k].mu with
     | true=>
      have HX:Hid (ff (Zbe Fs V) 0=(2,(k:Int))):=Zep HL.out hlt hlv (by unfold Zbw;rw [he,hm];rfl) (by decide) HA.out;have HBo:∀ o,Hid (Zw_ w (wr.alloc o)):=fun o=>HBr.out.alloc (by omega) o
      rw [hm] at c7;clear HA;go_wp2;go_ret;exact⟨by rw [HX.out];rfl,(HBo _).out⟩
     | false=>
      have HX:Hid (Zbw Fs[k] V[k]=0):=by unfold Hid Zbw;rw [he,hm];rfl
      rw [hm] at c7;go_wp2;go_roundw
      case rel=>exact⟨k+1,by go_num,by omega,HBB.out.alloc (HBB.out.size) _,fun j h1 h2 hj=>by
                 by_cases e:j=k
                 · subst e;exact HX.out
                 · exact HA.out j h1 h2 (by omega)⟩
      case measure=>simp [intOf];omega
    | false=>
     have HBo:∀ o,Hid (Below wr.heap.size wr (wr.alloc o)):=fun o=>Zb_.alloc Zl_ o
     have HRo:∀ o,Hid ((wr.alloc o).heap[w.heap.size+1+1]?=some (.map Zam 4)):=fun o=>by unfold Hid;rw [Below.heap_alloc _ _ _ (by omega)];exact HRr.out
     go_wp2_with fail;refine (Zhz _ _ _ _ _ _ _ _ _ _ Fs[k].words _ _ _ _ (HRo _).out (HST.out.below (HBr.out.trans ((HBo _).out.mono HBr.out.size))) HZ.out).mono ?_;rintro e w2 ⟨rfl,hb2⟩;have HB2:Hid (Below wr.heap.size wr w2):=(HBo _).out.trans (hb2.mono (HBo _).out.size);have HBw:Hid (Zw_ w w2):=HBr.out.trans (HB2.out.mono HBr.out.size);have HB3:Hid (Below w1.heap.size w1 w2):=HBB.out.trans (HB2.out.mono HBB.out.size);clear hb2
     cases hf:ZaL Fs[k].kd Fs[k].le Fs[k].mo Fs[k].words V[k] with
     | true=>
      have HX:Hid (Zbw Fs[k] V[k]=0):=by unfold Hid Zbw;rw [he,hf];rfl
      go_wp2;go_roundw
      case rel=>exact⟨k+1,by go_num,by omega,HB3.out,fun j h1 h2 hj=>by
                 by_cases e:j=k
                 · subst e;exact HX.out
                 · exact HA.out j h1 h2 (by omega)⟩
      case measure=>simp [intOf];omega
     | false=>
      have HX:Hid (ff (Zbe Fs V) 0=(3,(k:Int))):=Zep HL.out hlt hlv (by unfold Zbw;rw [he,hf];rfl) (by decide) HA.out;clear HA;go_wp2;go_ret;exact⟨by rw [HX.out];rfl,HBw.out⟩
  · have HX:Hid (ff (Zbe Fs V) 0=(0,0)):=Zgu HL.out (fun j h1 h2 _=>HA.out j h1 h2 (by omega))
    clear HA;go_wp2;go_ret;exact⟨by rw [HX.out];rfl,HBr.out⟩
end
theorem Zjs (X:World) (cs:Array Value) (t:TypeId) (g i:Nat) (hg:X.heap.size=g):(X.alloc (.cells cs t)).cell? ⟨g,i,none⟩=cs[i]?:=by subst hg;simp
theorem Znp:∀ (L:List Int) (n:Nat),(ff L n).1=0→ff L n=(0,0)
 | [],_,_=>rfl
 | c :: r,n,h=>by
  unfold ff at h ⊢
  by_cases h0:c=0
  · rw [if_pos h0] at h ⊢;exact Znp r (n+1) h
  · rw [if_neg h0] at h;exact absurd h h0
theorem Zf0 (w:World):Calls prog 224 #[] w fun e w'=>e=.returned (.slice (some ⟨w.heap.size,0,none⟩) 5 5)∧w'=w.alloc (.cells #[.func (.func 245) #[] #[],.func (.func 246) #[] #[],.func (.func 247) #[] #[],.func (.func 248) #[] #[],.func (.func 249) #[] #[]] 272):=by
 go_enter func224,ntmps224;go_wp2;go_ret;exact⟨rfl,rfl⟩
section
variable (kd kind nm team:Zy_) (vv hv fv:Value) (en:Bool) (ver:Int) (V Ho:List Zy_) (Fs:List Fd) (w:World) (lo:Nat)
def ZjX (Fs:List Fd) (nm team:Zy_) (V Ho:List Zy_) (ver:Int):Bool:=(Zaj nm&&Zaj team)&&(decide (V.length=Fs.length)&&((decide (Ho.length≤3)&&Zlx Ho)&&inB 0 1000000 ver))
def ZaV (Fs:List Fd) (nm team:Zy_) (V Ho:List Zy_) (ver:Int):Int×Int:=if ZjX Fs nm team V Ho ver=true then ff (Zbe Fs V) 0 else (1,0)
theorem Zgo (hV:Zaf w vv V) (hH:Zaf w hv Ho) (hF:Zav lo w fv Fs) (s2:nm.size≤maxLen) (s3:team.size≤maxLen) :
 Calls prog 185 #[.agg #[.string kd,fv],.agg #[.string kind,.string nm,.string team,vv,.bool en,hv,.int .i64 ver]] w
  fun e w'=>e=.returned (Zka (ZaV Fs nm team V Ho ver))∧Zw_ w w':=by
 have HV:=Zab hV;have HH:=Zab hH;have HF:=Zab hF
 obtain⟨a,cap,rfl⟩:∃ a cap,vv=.slice a V.length cap:=by
  rcases hV with ⟨a,cap,h,rfl⟩ | ⟨b,off,cap,h,_⟩
  · exact⟨_,_,h⟩
  · exact⟨_,_,h⟩
 obtain⟨a',cap',rfl⟩:∃ a cap,hv=.slice a Ho.length cap:=by
  rcases hH with ⟨a,cap,h,rfl⟩ | ⟨b,off,cap,h,_⟩
  · exact⟨_,_,h⟩
  · exact⟨_,_,h⟩
 obtain⟨a1,cap1,rfl⟩:=hF.form;clear hV hH hF;have HW:∀ o o',Hid (Zw_ w ((w.alloc o).alloc o')):=fun o o'=>(Zb_.alloc Zl_ _).alloc (by simp) _
 go_enter func185,ntmps185;go_wp2_with fail;refine (Zf0 _).mono ?_;rintro e w1 ⟨rfl,hw1⟩
 have G0:Hid (∀ i,w1.cell? ⟨w.heap.size+1+1,i,none⟩=(#[.func (.func 245) #[] #[],.func (.func 246) #[] #[],.func (.func 247) #[] #[],.func (.func 248) #[] #[],.func (.func 249) #[] #[]]:Array Value)[i]?):=fun i=>by
  rw [hw1];exact Zjs _ _ _ _ _ (by simp)
 have G1:Hid (∀ i,w1.cell? ⟨w.heap.size,i,none⟩=(#[.string kd,.slice a1 Fs.length cap1]:Array Value)[i]?):=fun i=>by
  rw [hw1,World.cell?_alloc_lt _ _ _ (by simp;omega),World.cell?_alloc_lt _ _ _ (by simp)];simp
 have G2:Hid (∀ i,w1.cell? ⟨w.heap.size+1,i,none⟩=(#[.string kind,.string nm,.string team,.slice a V.length cap,.bool en,.slice a' Ho.length cap',.int .i64 ver]:Array Value)[i]?):=fun i=>by
  rw [hw1,World.cell?_alloc_lt _ _ _ (by simp)];simp
 have HB1:Hid (Zw_ w w1):=by rw [hw1];exact (HW _ _).out.alloc (by simp;omega) _
 have hz1:w1.heap.size=w.heap.size+3:=by rw [hw1];simp
 simp only [World.size_alloc];clear hw1;go_wp2
 go_loopw [10] (fun i wr=>(i=.int .i64 0∧Below w1.heap.size w1 wr)∨(i=.int .i64 1∧Below w1.heap.size w1 wr∧(Zaj nm&&Zaj team)=true)∨(i=.int .i64 2∧Below w1.heap.size w1 wr∧(Zaj nm&&Zaj team)=true∧decide (V.length=Fs.length)=true)∨(i=.int .i64 3∧Below w1.heap.size w1 wr∧(Zaj nm&&Zaj team)=true∧decide (V.length=Fs.length)=true∧(decide (Ho.length≤3)&&Zlx Ho)=true)∨(i=.int .i64 4∧Below w1.heap.size w1 wr∧(Zaj nm&&Zaj team)=true∧decide (V.length=Fs.length)=true∧(decide (Ho.length≤3)&&Zlx Ho)=true∧inB 0 1000000 ver=true)∨(i=.int .i64 5∧Below w1.heap.size w1 wr∧(Zaj nm&&Zaj team)=true∧decide (V.length=Fs.length)=true∧(decide (Ho.length≤3)&&Zlx Ho)=true∧inB 0 1000000 ver=true∧ff (Zbe Fs V) 0=(0,0))) (fun i _=>5 - (intOf i).toNat)
 case atStart=>exact Or.inl ⟨rfl,Below.refl _ _⟩
 case round=>
  rcases hrel with ⟨rfl,hb⟩ | ⟨rfl,hb,d0⟩ | ⟨rfl,hb,d0,d1⟩ | ⟨rfl,hb,d0,d1,d2⟩ | ⟨rfl,hb,d0,d1,d2,d3⟩ | ⟨rfl,hb,d0,d1,d2,d3,d4⟩
  · have HBB:=Zab hb
    have HBr:Hid (Zw_ w wr):=HB1.out.trans (hb.mono (by omega))
    have q1:∀ i,wr.cell? ⟨w.heap.size,i,none⟩=(#[.string kd,.slice a1 Fs.length cap1]:Array Value)[i]?:=fun i=>by
     rw [hb.cell (p:=⟨w.heap.size,i,none⟩) (by simp only [];omega)];exact G1.out i
    have q2:∀ i,wr.cell? ⟨w.heap.size+1,i,none⟩=(#[.string kind,.string nm,.string team,.slice a V.length cap,.bool en,.slice a' Ho.length cap',.int .i64 ver]:Array Value)[i]?:=fun i=>by
     rw [hb.cell (p:=⟨w.heap.size+1,i,none⟩) (by simp only [];omega)];exact G2.out i
    have q0:wr.cell? ⟨w.heap.size+1+1,0,none⟩=some (.func (.func 245) #[] #[]):=by
     rw [hb.cell (p:=⟨w.heap.size+1+1,0,none⟩) (by simp only [];omega)];exact G0.out 0
    clear hb;go_wp2_with fail;refine (Zg9 _ _ _ _ _ _ _ _ _ _ s2 s3).mono ?_;rintro e w2 ⟨he,hb2⟩;have HB2:Hid (Zw_ w w2):=HBr.out.trans (hb2.mono HBr.out.size);have HB3:Hid (Below w1.heap.size w1 w2):=HBB.out.trans (hb2.mono HBB.out.size);clear hb2 q0 q1 q2
    cases hc:(Zaj nm&&Zaj team) with
    | true=>
     have HC:=Zab hc;rw [hc] at he;have he':e=.returned .nilIface:=he;subst he';clear hc he;go_wp2;go_roundw
     case rel=>exact Or.inr (Or.inl ⟨by go_num,HB3.out,HC.out⟩)
     case measure=>simp [intOf]
    | false=>
     have HX:Hid (ZaV Fs nm team V Ho ver=(1,0)):=by unfold Hid ZaV ZjX;rw [hc];simp
     rw [hc] at he;have he':e=.returned (.iface 355 (.agg #[.int .i64 1,.int .i64 0])):=he;subst he';clear hc he;go_wp2;go_ret;exact⟨by rw [HX.out];rfl,HB2.out⟩
  · have HBB:=Zab hb
    have HBr:Hid (Zw_ w wr):=HB1.out.trans (hb.mono (by omega))
    have q1:∀ i,wr.cell? ⟨w.heap.size,i,none⟩=(#[.string kd,.slice a1 Fs.length cap1]:Array Value)[i]?:=fun i=>by
     rw [hb.cell (p:=⟨w.heap.size,i,none⟩) (by simp only [];omega)];exact G1.out i
    have q2:∀ i,wr.cell? ⟨w.heap.size+1,i,none⟩=(#[.string kind,.string nm,.string team,.slice a V.length cap,.bool en,.slice a' Ho.length cap',.int .i64 ver]:Array Value)[i]?:=fun i=>by
     rw [hb.cell (p:=⟨w.heap.size+1,i,none⟩) (by simp only [];omega)];exact G2.out i
    have q0:wr.cell? ⟨w.heap.size+1+1,1,none⟩=some (.func (.func 246) #[] #[]):=by
     rw [hb.cell (p:=⟨w.heap.size+1+1,1,none⟩) (by simp only [];omega)];exact G0.out 1
    have D0:=Zab d0;clear hb d0;go_wp2_with fail;refine (Zib _ _ _ _ _ _ _ _ _ _ _ _ _ _).mono ?_;rintro e w2 ⟨he,hb2⟩;have HB2:Hid (Zw_ w w2):=HBr.out.trans (hb2.mono HBr.out.size);have HB3:Hid (Below w1.heap.size w1 w2):=HBB.out.trans (hb2.mono HBB.out.size);clear hb2 q0 q1 q2
    cases hc:decide (V.length=Fs.length) with
    | true=>
     have HC:=Zab hc;rw [hc] at he;have he':e=.returned .nilIface:=he;subst he';clear hc he;go_wp2;go_roundw
     case rel=>exact Or.inr (Or.inr (Or.inl ⟨by go_num,HB3.out,D0.out,HC.out⟩))
     case measure=>simp [intOf]
    | false=>
     have HX:Hid (ZaV Fs nm team V Ho ver=(1,0)):=by unfold Hid ZaV ZjX;rw [D0.out,hc];simp
     rw [hc] at he;have he':e=.returned (.iface 355 (.agg #[.int .i64 1,.int .i64 0])):=he;subst he';clear hc he;go_wp2;go_ret;exact⟨by rw [HX.out];rfl,HB2.out⟩
  · have HBB:=Zab hb
    have HBr:Hid (Zw_ w wr):=HB1.out.trans (hb.mono (by omega))
    have q1:∀ i,wr.cell? ⟨w.heap.size,i,none⟩=(#[.string kd,.slice a1 Fs.length cap1]:Array Value)[i]?:=fun i=>by
     rw [hb.cell (p:=⟨w.heap.size,i,none⟩) (by simp only [];omega)];exact G1.out i
    have q2:∀ i,wr.cell? ⟨w.heap.size+1,i,none⟩=(#[.string kind,.string nm,.string team,.slice a V.length cap,.bool en,.slice a' Ho.length cap',.int .i64 ver]:Array Value)[i]?:=fun i=>by
     rw [hb.cell (p:=⟨w.heap.size+1,i,none⟩) (by simp only [];omega)];exact G2.out i
    have q0:wr.cell? ⟨w.heap.size+1+1,2,none⟩=some (.func (.func 247) #[] #[]):=by
     rw [hb.cell (p:=⟨w.heap.size+1+1,2,none⟩) (by simp only [];omega)];exact G0.out 2
    have D0:=Zab d0;have D1:=Zab d1;clear hb d0 d1;go_wp2_with fail;refine (Zg8 _ _ _ _ _ _ _ _ _ Ho _ (HH.out.below HBr.out)).mono ?_;rintro e w2 ⟨he,hb2⟩;have HB2:Hid (Zw_ w w2):=HBr.out.trans (hb2.mono HBr.out.size);have HB3:Hid (Below w1.heap.size w1 w2):=HBB.out.trans (hb2.mono HBB.out.size);clear hb2 q0 q1 q2
    cases hc:(decide (Ho.length≤3)&&Zlx Ho) with
    | true=>
     have HC:=Zab hc;rw [hc] at he;have he':e=.returned .nilIface:=he;subst he';clear hc he;go_wp2;go_roundw
     case rel=>exact Or.inr (Or.inr (Or.inr (Or.inl ⟨by go_num,HB3.out,D0.out,D1.out,HC.out⟩)))
     case measure=>simp [intOf]
    | false=>
     have HX:Hid (ZaV Fs nm team V Ho ver=(1,0)):=by unfold Hid ZaV ZjX;rw [D0.out,D1.out,hc];simp
     rw [hc] at he;have he':e=.returned (.iface 355 (.agg #[.int .i64 1,.int .i64 0])):=he;subst he';clear hc he;go_wp2;go_ret;exact⟨by rw [HX.out];rfl,HB2.out⟩
  · have HBB:=Zab hb
    have HBr:Hid (Zw_ w wr):=HB1.out.trans (hb.mono (by omega))
    have q1:∀ i,wr.cell? ⟨w.heap.size,i,none⟩=(#[.string kd,.slice a1 Fs.length cap1]:Array Value)[i]?:=fun i=>by
     rw [hb.cell (p:=⟨w.heap.size,i,none⟩) (by simp only [];omega)];exact G1.out i
    have q2:∀ i,wr.cell? ⟨w.heap.size+1,i,none⟩=(#[.string kind,.string nm,.string team,.slice a V.length cap,.bool en,.slice a' Ho.length cap',.int .i64 ver]:Array Value)[i]?:=fun i=>by
     rw [hb.cell (p:=⟨w.heap.size+1,i,none⟩) (by simp only [];omega)];exact G2.out i
    have q0:wr.cell? ⟨w.heap.size+1+1,3,none⟩=some (.func (.func 248) #[] #[]):=by
     rw [hb.cell (p:=⟨w.heap.size+1+1,3,none⟩) (by simp only [];omega)];exact G0.out 3
    have D0:=Zab d0;have D1:=Zab d1;have D2:=Zab d2;clear hb d0 d1 d2;go_wp2_with fail;refine (ZfY _ _ _ _ _ _ _ _ _ _).mono ?_;rintro e w2 ⟨he,hb2⟩;have HB2:Hid (Zw_ w w2):=HBr.out.trans (hb2.mono HBr.out.size);have HB3:Hid (Below w1.heap.size w1 w2):=HBB.out.trans (hb2.mono HBB.out.size);clear hb2 q0 q1 q2
    cases hc:inB 0 1000000 ver with
    | true=>
     have HC:=Zab hc;rw [hc] at he;have he':e=.returned .nilIface:=he;subst he';clear hc he;go_wp2;go_roundw
     case rel=>exact Or.inr (Or.inr (Or.inr (Or.inr (Or.inl ⟨by go_num,HB3.out,D0.out,D1.out,D2.out,HC.out⟩))))
     case measure=>simp [intOf]
    | false=>
     have HX:Hid (ZaV Fs nm team V Ho ver=(1,0)):=by unfold Hid ZaV ZjX;rw [D0.out,D1.out,D2.out,hc];simp
     rw [hc] at he;have he':e=.returned (.iface 355 (.agg #[.int .i64 1,.int .i64 0])):=he;subst he';clear hc he;go_wp2;go_ret;exact⟨by rw [HX.out];rfl,HB2.out⟩
  · have HBB:=Zab hb
    have HBr:Hid (Zw_ w wr):=HB1.out.trans (hb.mono (by omega))
    have q1:∀ i,wr.cell? ⟨w.heap.size,i,none⟩=(#[.string kd,.slice a1 Fs.length cap1]:Array Value)[i]?:=fun i=>by
     rw [hb.cell (p:=⟨w.heap.size,i,none⟩) (by simp only [];omega)];exact G1.out i
    have q2:∀ i,wr.cell? ⟨w.heap.size+1,i,none⟩=(#[.string kind,.string nm,.string team,.slice a V.length cap,.bool en,.slice a' Ho.length cap',.int .i64 ver]:Array Value)[i]?:=fun i=>by
     rw [hb.cell (p:=⟨w.heap.size+1,i,none⟩) (by simp only [];omega)];exact G2.out i
    have q0:wr.cell? ⟨w.heap.size+1+1,4,none⟩=some (.func (.func 249) #[] #[]):=by
     rw [hb.cell (p:=⟨w.heap.size+1+1,4,none⟩) (by simp only [];omega)];exact G0.out 4
    have D0:=Zab d0;have D1:=Zab d1;have D2:=Zab d2;have D3:=Zab d3;clear hb d0 d1 d2 d3;have HC:Hid (V.length=Fs.length):=by have:=D1.out;unfold Hid;simpa using this
    go_wp2_with fail;refine (Zgn _ _ _ _ _ _ _ _ _ V Fs _ lo (HV.out.below HBr.out) (HF.out.below HBr.out) HC.out).mono ?_;rintro e w2 ⟨he,hb2⟩;have HB2:Hid (Zw_ w w2):=HBr.out.trans (hb2.mono HBr.out.size);have HB3:Hid (Below w1.heap.size w1 w2):=HBB.out.trans (hb2.mono HBB.out.size);clear hb2 q0 q1 q2
    by_cases hc:(ff (Zbe Fs V) 0).1=0
    · have he':e=.returned .nilIface:=by rw [he];unfold Zka;rw [if_pos hc]
      have HC:Hid (ff (Zbe Fs V) 0=(0,0)):=Znp _ _ hc;subst he';clear hc;go_wp2;go_roundw
      case rel=>exact Or.inr (Or.inr (Or.inr (Or.inr (Or.inr (⟨by go_num,HB3.out,D0.out,D1.out,D2.out,D3.out,HC.out⟩)))))
      case measure=>simp [intOf]
    · have HX:Hid (ZaV Fs nm team V Ho ver=ff (Zbe Fs V) 0):=by unfold Hid ZaV ZjX;rw [D0.out,D1.out,D2.out,D3.out];rfl
      have he':e=.returned (.iface 355 (.agg #[.int .i64 (ff (Zbe Fs V) 0).1,.int .i64 (ff (Zbe Fs V) 0).2])):=by rw [he];unfold Zka;rw [if_neg hc]
      have HC:Hid (Zka (ff (Zbe Fs V) 0)=.iface 355 (.agg #[.int .i64 (ff (Zbe Fs V) 0).1,.int .i64 (ff (Zbe Fs V) 0).2])):=if_neg hc;subst he';generalize (ff (Zbe Fs V) 0).1=p1 at HC hc ⊢;generalize (ff (Zbe Fs V) 0).2=p2 at HC ⊢;clear hc he;go_wp2;go_ret;exact⟨by rw [HX.out,HC.out];rfl,HB2.out⟩
  · have HBB:=Zab hb
    have HBr:Hid (Zw_ w wr):=HB1.out.trans (hb.mono (by omega))
    have q1:∀ i,wr.cell? ⟨w.heap.size,i,none⟩=(#[.string kd,.slice a1 Fs.length cap1]:Array Value)[i]?:=fun i=>by
     rw [hb.cell (p:=⟨w.heap.size,i,none⟩) (by simp only [];omega)];exact G1.out i
    have q2:∀ i,wr.cell? ⟨w.heap.size+1,i,none⟩=(#[.string kind,.string nm,.string team,.slice a V.length cap,.bool en,.slice a' Ho.length cap',.int .i64 ver]:Array Value)[i]?:=fun i=>by
     rw [hb.cell (p:=⟨w.heap.size+1,i,none⟩) (by simp only [];omega)];exact G2.out i
    have D0:=Zab d0;have D1:=Zab d1;have D2:=Zab d2;have D3:=Zab d3;have D4:=Zab d4;clear hb d0 d1 d2 d3 d4;have HX:Hid (ZaV Fs nm team V Ho ver=(0,0)):=by unfold Hid ZaV ZjX;rw [D0.out,D1.out,D2.out,D3.out];exact D4.out
    clear D0 D1 D2 D3 D4;go_wp2;go_ret;exact⟨by rw [HX.out];rfl,HBr.out⟩
end
theorem Ztx (X:World) (o:Obj):Below X.heap.size X (X.alloc o):=Zb_.alloc Zl_ _
theorem btz {a b c:World} (h:Below a.heap.size a b) (k:Below b.heap.size b c):Below a.heap.size a c:=h.trans (k.mono h.size)
theorem Zaf.formz {w:World} {v:Value} {L:List Zy_} (h:Zaf w v L):∃ a cap,v=.slice a L.length cap:=by
 rcases h with ⟨a,cap,h,rfl⟩ | ⟨b,off,cap,h,_⟩
 · exact⟨_,_,h⟩
 · exact⟨_,_,h⟩
def Zhu (Ss:List Sh) (kind nm team:Zy_) (V Ho:List Zy_) (ver:Int):Int×Int:=
 match Zb3 Ss kind with
 | none=>(1,0)
 | some x=>ZaV x.fields nm team V Ho ver
theorem Zgp {Ss:List Sh} {kind nm team:Zy_} {V Ho:List Zy_} {ver:Int} {x:Sh} (h:Zb3 Ss kind=some x):Zhu Ss kind nm team V Ho ver=ZaV x.fields nm team V Ho ver:=by unfold Zhu;rw [h]
theorem ZiY {Ss:List Sh} {kind nm team:Zy_} {V Ho:List Zy_} {ver:Int} (h:∀ x,Zb3 Ss kind=some x→x.fields.length≠V.length):Zhu Ss kind nm team V Ho ver=(1,0):=by
 unfold Zhu
 cases hx:Zb3 Ss kind with
 | none=>rfl
 | some x=>
  have hd:decide (V.length=x.fields.length)=false:=by simpa using fun e=>h x hx e.symm
  show ZaV x.fields nm team V Ho ver=(1,0)
  unfold ZaV ZjX;rw [hd];simp
section
variable (kind nm team:Zy_) (vv hv sv:Value) (en:Bool) (ver:Int) (V Ho:List Zy_) (Ss:List Sh) (w:World) (lo:Nat)
theorem Zke (hS:ZaU lo w sv Ss) (hV:Zaf w vv V) (hH:Zaf w hv Ho) (s2:nm.size≤maxLen) (s3:team.size≤maxLen) :
 Calls prog 100 #[sv,.agg #[.string kind,.string nm,.string team,vv,.bool en,hv,.int .i64 ver]] w
  fun e w'=>e=.returned (.tuple #[.int .i64 (Zhu Ss kind nm team V Ho ver).1,.int .i64 (Zhu Ss kind nm team V Ho ver).2])∧Zw_ w w':=by
 have HV:=Zab hV;have HH:=Zab hH;have HS:=Zab hS;obtain⟨a,cap,rfl⟩:=hV.formz;obtain⟨a',cap',rfl⟩:=hH.formz;obtain⟨a1,cap1,rfl⟩:=hS.form;clear hV hH hS;go_enter func100,ntmps100;go_wp2_with fail;generalize hW0:w.alloc _=W0;have HB0:Hid (Zw_ w W0):=by rw [← hW0];exact Ztx _ _
 have G0:Hid (∀ i,W0.cell? ⟨w.heap.size,i,none⟩=(#[.string kind,.string nm,.string team,.slice a V.length cap,.bool en,.slice a' Ho.length cap',.int .i64 ver]:Array Value)[i]?):=fun i=>by rw [← hW0];exact Zjs _ _ _ _ _ rfl
 have hz0:w.heap.size < W0.heap.size:=by rw [← hW0];simp
 clear hW0;refine (Zcx _ _ _ _ _ _ _ _ V Ho Ss _ lo w HS.out HB0.out (HV.out.below HB0.out) (HH.out.below HB0.out)).mono ?_;rintro e w1 ⟨hb1,hsh⟩;have HB1:Hid (Zw_ w w1):=btz HB0.out hb1;have hz1:w.heap.size < w1.heap.size:=Zk_ hz0 hb1.size
 have g1:∀ i,w1.cell? ⟨w.heap.size,i,none⟩=(#[.string kind,.string nm,.string team,.slice a V.length cap,.bool en,.slice a' Ho.length cap',.int .i64 ver]:Array Value)[i]?:=fun i=>by rw [hb1.cell (p:=⟨w.heap.size,i,none⟩) hz0];exact G0.out i
 clear hb1 HB0 G0
 rcases hsh with ⟨x,fv,hx,hlen,rfl,hfd⟩ | ⟨hx,fa,fcap,rfl⟩
 · obtain⟨fa,fcap,rfl⟩:=hfd.form
   have HF:=Zab hfd;have HX:=Zab (Zgp (nm:=nm) (team:=team) (V:=V) (Ho:=Ho) (ver:=ver) hx);have HL:Hid (V.length=x.fields.length):=hlen.symm;have HD:Hid (decide (V.length=x.fields.length)=true):=by unfold Hid;simpa using HL.out
   clear hx hfd hlen
   cases hn:Zaj nm with
   | false=>
    have HR:Hid (ZaV x.fields nm team V Ho ver=(1,0)):=by unfold Hid ZaV ZjX;rw [hn];simp
    go_wp2_with (first
     | (go_at_call 58;refine (Zad _ _ (by assumption)).mono ?_;rintro e w' ⟨rfl,rfl⟩)
     | (go_at_call 158;refine (Zbf _ Ho _ (HH.out.below HB1.out)).mono ?_;rintro e w2 ⟨rfl,hb2⟩;have HB2:Hid (Zw_ w w2):=btz HB1.out hb2;have g2:∀ i,w2.cell? ⟨w.heap.size,i,none⟩=(#[.string kind,.string nm,.string team,.slice a V.length cap,.bool en,.slice a' Ho.length cap',.int .i64 ver]:Array Value)[i]?:=(fun i=>by rw [hb2.cell (p:=⟨w.heap.size,i,none⟩) hz1];exact g1 i);clear hb2)
     | (go_at_call 54;refine (Zal _ _ _ _).mono ?_;rintro e w5 ⟨rfl,rfl⟩))
    go_ret2
    exact⟨by rw [HX.out,HR.out];rfl,HB1.out⟩
   | true=>
    cases ht:Zaj team with
    | false=>
     have HR:Hid (ZaV x.fields nm team V Ho ver=(1,0)):=by unfold Hid ZaV ZjX;rw [hn,ht];simp
     go_wp2_with (first
      | (go_at_call 58;refine (Zad _ _ (by assumption)).mono ?_;rintro e w' ⟨rfl,rfl⟩)
      | (go_at_call 158;refine (Zbf _ Ho _ (HH.out.below HB1.out)).mono ?_;rintro e w2 ⟨rfl,hb2⟩;have HB2:Hid (Zw_ w w2):=btz HB1.out hb2;have g2:∀ i,w2.cell? ⟨w.heap.size,i,none⟩=(#[.string kind,.string nm,.string team,.slice a V.length cap,.bool en,.slice a' Ho.length cap',.int .i64 ver]:Array Value)[i]?:=(fun i=>by rw [hb2.cell (p:=⟨w.heap.size,i,none⟩) hz1];exact g1 i);clear hb2)
      | (go_at_call 54;refine (Zal _ _ _ _).mono ?_;rintro e w5 ⟨rfl,rfl⟩))
     go_ret2
     exact⟨by rw [HX.out,HR.out];rfl,HB1.out⟩
    | true=>
     by_cases h3:Ho.length≤3
     · have h3d:decide (Ho.length≤3)=true:=by simpa using h3
       have h3i:¬ (3 < (Ho.length:Int)):=by omega
       cases hs:Zlx Ho with
       | false=>
        have HR:Hid (ZaV x.fields nm team V Ho ver=(1,0)):=by unfold Hid ZaV ZjX;rw [hn,ht,h3d,hs];simp
        clear h3d
        go_wp2_with (first
         | (go_at_call 58;refine (Zad _ _ (by assumption)).mono ?_;rintro e w' ⟨rfl,rfl⟩)
         | (go_at_call 158;refine (Zbf _ Ho _ (HH.out.below HB1.out)).mono ?_;rintro e w2 ⟨rfl,hb2⟩;have HB2:Hid (Zw_ w w2):=btz HB1.out hb2;have g2:∀ i,w2.cell? ⟨w.heap.size,i,none⟩=(#[.string kind,.string nm,.string team,.slice a V.length cap,.bool en,.slice a' Ho.length cap',.int .i64 ver]:Array Value)[i]?:=(fun i=>by rw [hb2.cell (p:=⟨w.heap.size,i,none⟩) hz1];exact g1 i);clear hb2)
         | (go_at_call 54;refine (Zal _ _ _ _).mono ?_;rintro e w5 ⟨rfl,rfl⟩))
        go_ret2
        exact⟨by rw [HX.out,HR.out];rfl,HB2.out⟩
       | true=>
        cases hi:inB 0 1000000 ver with
        | false=>
         have HR:Hid (ZaV x.fields nm team V Ho ver=(1,0)):=by unfold Hid ZaV ZjX;rw [hn,ht,h3d,hs,hi];simp
         clear h3d
         go_wp2_with (first
          | (go_at_call 58;refine (Zad _ _ (by assumption)).mono ?_;rintro e w' ⟨rfl,rfl⟩)
          | (go_at_call 158;refine (Zbf _ Ho _ (HH.out.below HB1.out)).mono ?_;rintro e w2 ⟨rfl,hb2⟩;have HB2:Hid (Zw_ w w2):=btz HB1.out hb2;have g2:∀ i,w2.cell? ⟨w.heap.size,i,none⟩=(#[.string kind,.string nm,.string team,.slice a V.length cap,.bool en,.slice a' Ho.length cap',.int .i64 ver]:Array Value)[i]?:=(fun i=>by rw [hb2.cell (p:=⟨w.heap.size,i,none⟩) hz1];exact g1 i);clear hb2)
          | (go_at_call 54;refine (Zal _ _ _ _).mono ?_;rintro e w5 ⟨rfl,rfl⟩))
         go_ret2
         exact⟨by rw [HX.out,HR.out];rfl,HB2.out⟩
        | true=>
         have HR:Hid (ZaV x.fields nm team V Ho ver=ff (Zbe x.fields V) 0):=by unfold Hid ZaV ZjX;rw [hn,ht,h3d,hs,hi,HD.out];rfl
         clear h3d
         go_wp2_with (first
          | (go_at_call 58;refine (Zad _ _ (by assumption)).mono ?_;rintro e w' ⟨rfl,rfl⟩)
          | (go_at_call 158;refine (Zbf _ Ho _ (HH.out.below HB1.out)).mono ?_;rintro e w2 ⟨rfl,hb2⟩;have HB2:Hid (Zw_ w w2):=btz HB1.out hb2;have g2:∀ i,w2.cell? ⟨w.heap.size,i,none⟩=(#[.string kind,.string nm,.string team,.slice a V.length cap,.bool en,.slice a' Ho.length cap',.int .i64 ver]:Array Value)[i]?:=(fun i=>by rw [hb2.cell (p:=⟨w.heap.size,i,none⟩) hz1];exact g1 i);clear hb2)
          | (go_at_call 54;refine (Zal _ _ _ _).mono ?_;rintro e w5 ⟨rfl,rfl⟩))
         clear hn ht hs hi h3i h3 g1;have hn:=HF.out.len;unfold maxLen at hn;have hz2:w.heap.size < w5.heap.size:=by have:=HB2.out.size;have h:=World.block_lt_of_cell? w5 ⟨w.heap.size,0,none⟩ (g2 0);exact h
         have G2:=Zab g2;clear g2
         go_loopw [8] (fun i wr=>∃ k:Nat,i=.int .i64 k∧k≤x.fields.length∧Below w5.heap.size w5 wr∧∀ j (h1:j < x.fields.length) (h2:j < V.length),j < k→Zbw x.fields[j] V[j]=0) (fun i _=>x.fields.length - (intOf i).toNat)
         case atStart=>exact⟨0,rfl,by omega,Below.refl _ _,fun j _ _ h=>by omega⟩
         case round=>
          obtain⟨k,rfl,hk,hb,hall⟩:=hrel;have HA:=Zab hall;have HBB:=Zab hb;have hszr:w.heap.size < wr.heap.size:=Zk_ hz2 hb.size
          have HBr:Hid (Zw_ w wr):=btz HB2.out hb
          have hO:∀ i,wr.cell? ⟨w.heap.size,i,none⟩=(#[.string kind,.string nm,.string team,.slice a V.length cap,.bool en,.slice a' Ho.length cap',.int .i64 ver]:Array Value)[i]?:=fun i=>by
           rw [hb.cell (p:=⟨w.heap.size,i,none⟩) hz2];exact G2.out i
          clear hb hall
          by_cases hlt:k < x.fields.length
          · have hlv:k < V.length:=by have:=HL.out;omega
            obtain⟨fb,foff,rfl,hfb0,hfc⟩:=HF.out.fullz (by omega);obtain⟨hsz,wv,hcell,hst⟩:=hfc k hlt;obtain⟨c0,c1,c2,c3,c4,c5,c6,c7,c8,c9,c10⟩:=hcell.below HBr.out hfb0;obtain⟨wa,wn,wcap,rfl⟩:=hst.form;obtain⟨vb,voff,rfl,hvn,hvb0,hvc⟩:=HV.out.fullz (by omega);have hvk:wr.cell? ⟨vb,voff+k,none⟩=some (.string V[k]):=by rw [HBr.out.cell (p:=⟨vb,_,none⟩) hvb0];exact (hvc k hlv).2
            have hfb:fb < wr.heap.size:=by have:=HBr.out.size;omega
            have hvb:vb < wr.heap.size:=by have:=HBr.out.size;omega
            have HZ:=Zab (hvc k hlv).1;have HST:=Zab hst;clear hcell hst hvc hfc hsz hvn hfb0 hvb0
            cases he:V[k].toList.isEmpty with
            | true=>
             cases hm:x.fields[k].mu with
             | true=>
              have HY:Hid (ff (Zbe x.fields V) 0=(2,(k:Int))):=Zep HL.out hlt hlv (by unfold Zbw;rw [he,hm];rfl) (by decide) HA.out;rw [hm] at c7;clear HA;go_wp2
              go_ret2
              exact⟨by rw [HX.out,HR.out,HY.out];rfl,HBr.out⟩
             | false=>
              have HY:Hid (Zbw x.fields[k] V[k]=0):=by unfold Hid Zbw;rw [he,hm];rfl
              rw [hm] at c7;go_wp2;go_roundw
              case rel=>exact⟨k+1,by go_num,by omega,HBB.out,fun j h1 h2 hj=>by
                         by_cases e:j=k
                         · subst e;exact HY.out
                         · exact HA.out j h1 h2 (by omega)⟩
              case measure=>simp [intOf];omega
            | false=>
             go_wp2
             go_region_held3 (fun W=>(∀ i,W.cell? ⟨w.heap.size,i,none⟩=(#[.string kind,.string nm,.string team,.slice (some ⟨vb,voff,none⟩) V.length cap,.bool en,.slice a' Ho.length cap',.int .i64 ver]:Array Value)[i]?)∧W.cell? ⟨vb,voff+k,none⟩=some (.string V[k])∧W.cell? ⟨fb,foff+k*11,none⟩=some (.string x.fields[k].nm)∧W.cell? ⟨fb,foff+k*11+1,none⟩=some (.int .i64 x.fields[k].kd)∧W.cell? ⟨fb,foff+k*11+2,none⟩=some (.int .i64 x.fields[k].le)∧W.cell? ⟨fb,foff+k*11+3,none⟩=some (.int .i64 x.fields[k].mo)∧W.cell? ⟨fb,foff+k*11+4,none⟩=some (.slice wa wn wcap)∧W.cell? ⟨fb,foff+k*11+5,none⟩=some (.string x.fields[k].to)∧W.cell? ⟨fb,foff+k*11+6,none⟩=some (.int .i64 x.fields[k].ro)∧W.cell? ⟨fb,foff+k*11+7,none⟩=some (.bool x.fields[k].mu)∧W.cell? ⟨fb,foff+k*11+8,none⟩=some (.bool x.fields[k].fx)∧W.cell? ⟨fb,foff+k*11+9,none⟩=some (.string x.fields[k].df)∧W.cell? ⟨fb,foff+k*11+10,none⟩=some (.string x.fields[k].we))
              (first
                | (with_reducible exact⟨hO,hvk,c0,c1,c2,c3,c4,c5,c6,c7,c8,c9,c10⟩)
                | exact⟨fun i=>(hb4.cell (p:=⟨w.heap.size,i,none⟩) hszr).trans (hO i),(hb4.cell (p:=⟨vb,_,none⟩) hvb).trans hvk,(hb4.cell (p:=⟨fb,_,none⟩) hfb).trans c0,(hb4.cell (p:=⟨fb,_,none⟩) hfb).trans c1,(hb4.cell (p:=⟨fb,_,none⟩) hfb).trans c2,(hb4.cell (p:=⟨fb,_,none⟩) hfb).trans c3,(hb4.cell (p:=⟨fb,_,none⟩) hfb).trans c4,(hb4.cell (p:=⟨fb,_,none⟩) hfb).trans c5,(hb4.cell (p:=⟨fb,_,none⟩) hfb).trans c6,(hb4.cell (p:=⟨fb,_,none⟩) hfb).trans c7,(hb4.cell (p:=⟨fb,_,none⟩) hfb).trans c8,(hb4.cell (p:=⟨fb,_,none⟩) hfb).trans c9,(hb4.cell (p:=⟨fb,_,none⟩) hfb).trans c10⟩
                | exact⟨hO,hvk,c0,c1,c2,c3,c4,c5,c6,c7,c8,c9,c10⟩)
              (first
                | (go_at_call 159
                   refine (Zbu _ _ _ _ _ _ _ _ _ _ x.fields[k].words _ _ _ ((HST.out.below HBr.out).below (Zb_.drew)) HZ.out).mono ?_;rintro e w4 ⟨rfl,hb4'⟩;have hb4:Below wr.heap.size wr w4:=((Below.refl wr.heap.size wr).drew).trans (hb4'.mono Zl_);clear hb4'))
             have HB4:=Zab hb4;have HBw:Hid (Zw_ w w4):=btz HBr.out hb4;have HB5:Hid (Below w5.heap.size w5 w4):=btz HBB.out hb4;clear hb4
             cases hf:ZaL x.fields[k].kd x.fields[k].le x.fields[k].mo x.fields[k].words V[k] with
             | true=>
              have HY:Hid (Zbw x.fields[k] V[k]=0):=by unfold Hid Zbw;rw [he,hf];rfl
              go_wp2;go_roundw
              case rel=>exact⟨k+1,by go_num,by omega,HB5.out,fun j h1 h2 hj=>by
                         by_cases e:j=k
                         · subst e;exact HY.out
                         · exact HA.out j h1 h2 (by omega)⟩
              case measure=>simp [intOf];omega
             | false=>
              have HY:Hid (ff (Zbe x.fields V) 0=(3,(k:Int))):=Zep HL.out hlt hlv (by unfold Zbw;rw [he,hf];rfl) (by decide) HA.out;clear HA;go_wp2
              go_ret2
              exact⟨by rw [HX.out,HR.out,HY.out];rfl,HBw.out⟩
          · have HY:Hid (ff (Zbe x.fields V) 0=(0,0)):=Zgu HL.out (fun j h1 h2 _=>HA.out j h1 h2 (by omega))
            clear HA;go_wp2
            go_ret2
            exact⟨by rw [HX.out,HR.out,HY.out];rfl,HBr.out⟩
     · have h3d:decide (Ho.length≤3)=false:=by simpa using h3
       have h3i:3 < (Ho.length:Int):=by omega
       have HR:Hid (ZaV x.fields nm team V Ho ver=(1,0)):=by unfold Hid ZaV ZjX;rw [hn,ht,h3d];simp
       clear h3d
       go_wp2_with (first
        | (go_at_call 58;refine (Zad _ _ (by assumption)).mono ?_;rintro e w' ⟨rfl,rfl⟩)
        | (go_at_call 158;refine (Zbf _ Ho _ (HH.out.below HB1.out)).mono ?_;rintro e w2 ⟨rfl,hb2⟩;have HB2:Hid (Zw_ w w2):=btz HB1.out hb2;have g2:∀ i,w2.cell? ⟨w.heap.size,i,none⟩=(#[.string kind,.string nm,.string team,.slice a V.length cap,.bool en,.slice a' Ho.length cap',.int .i64 ver]:Array Value)[i]?:=(fun i=>by rw [hb2.cell (p:=⟨w.heap.size,i,none⟩) hz1];exact g1 i);clear hb2)
        | (go_at_call 54;refine (Zal _ _ _ _).mono ?_;rintro e w5 ⟨rfl,rfl⟩))
       go_ret2
       exact⟨by rw [HX.out,HR.out];rfl,HB1.out⟩
 · have HX:=Zab (ZiY (nm:=nm) (team:=team) (Ho:=Ho) (ver:=ver) hx)
   clear hx;go_wp2
   go_ret2
   exact⟨by rw [HX.out];rfl,HB1.out⟩
end
theorem Zft {Fs:List Fd} {nm team:Zy_} {V Ho:List Zy_} {ver:Int} (h:(ZaV Fs nm team V Ho ver).1=0):V.length=Fs.length:=by
 unfold ZaV at h
 by_cases hb:ZjX Fs nm team V Ho ver=true
 · unfold ZjX at hb;simp at hb;exact hb.2.1
 · rw [if_neg hb] at h;exact absurd h (by decide)
theorem ZlX {r:Int×Int} (h:r.1=0):Zka r=.nilIface:=if_pos h
theorem ZlY {r:Int×Int} (h:¬ r.1=0):Zka r=.iface 355 (.agg #[.int .i64 r.1,.int .i64 r.2]):=if_neg h
end Go.Proofs.YtcfjmagkinpaeaaGreat
