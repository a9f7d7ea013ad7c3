import Derived.Test.YtmappejlmapboaaGreatD13
set_option maxHeartbeats 16000000
set_option maxRecDepth 100000
open Go.Proofs.Tryz
namespace Go.Proofs.YtmappejlmapboaaGreat
open Go.RowKit Go.Deep
section
theorem Zaf.spread {w:World}{a:Option Addr}{n cap:Nat}{L:List Zy_} (h:Zaf w (.slice a n cap) L) (hL:0 < L.length) :
 ∃ b off,a=some ⟨b,off,none⟩/\b < w.heap.size/\(∀ i (h:i < L.length),w.cell? ⟨b,off+i,none⟩=some (.string L[i]))/\∀ s ∈ L,s.size<=maxLen:=by
 rcases h with ⟨_,_,_,rfl⟩ | ⟨b,off,_,h1,_,_,h4,h5,h6⟩
 . simp at hL
 . cases h1
   exact⟨b,off,rfl,h4,h5,h6⟩
theorem ZjG (s:Zy_):0<=ZjF s/\ZjF s<=9999999:=by
 unfold ZjF
 split
 . rename_i h
   have h7:s.size<=7/\Zgn Zc6 s=true:=by
    unfold ZeP inB at h;simp only [Bool.and_eq_true,decide_eq_true_eq] at h;exact⟨by omega,h.2⟩
   have:=ZcD s s.size Zl_ h7.1 (by
    rw [List.take_of_length_le (by simp)];exact h7.2)
   rw [ZdO Zl_] at this
   omega
 . omega
theorem ZmT (s:Zy_):ZjF s=if 0 < Zm4 s then Zm4 s else 0:=by
 have:=ZjG s;unfold ZjF Zm4 at*
 split
 . rename_i h
   rw [if_pos h] at this
   split <;> omega
 . simp
def ZsA (r:Zy_) (f:Fd) (s:Zy_):Int:=if (f.kd == 1&&f.we.toList == r.toList)=true then ZjF s else 0
def Zfg (r:Zy_) (Fs:List Fd) (V:List Zy_):Nat->Int
 | 0=>0
 | k+1=>Zfg r Fs V k+(match Fs[k]?,V[k]? with | some f,some s=>ZsA r f s | _,_=>0)
theorem Ztx (r:Zy_) (f:Fd) (s:Zy_):0<=ZsA r f s/\ZsA r f s<=9999999:=by
 have:=ZjG s;unfold ZsA
 split <;> omega
theorem ZlB {r:Zy_}{Fs:List Fd}{V:List Zy_}{k:Nat} (hf:k < Fs.length) (hv:k < V.length):Zfg r Fs V (k+1)=Zfg r Fs V k+ZsA r Fs[k] V[k]:=by
 rw [Zfg];simp [hf,hv]
theorem Zty (r:Zy_) (Fs:List Fd) (V:List Zy_) (k:Nat):0<=Zfg r Fs V k/\Zfg r Fs V k<=9999999*k:=by
 induction k with
 | zero=>simp [Zfg]
 | succ k ih=>
  rw [Zfg]
  split
  . rename_i f s _ _
    have:=Ztx r f s
    push_cast
    omega
  . push_cast
    omega
def Zd5 (Ss:List Sh) (kind:Zy_) (V:List Zy_) (r:Zy_):Int:=
 if r.toList.isEmpty=true then 0 else
 match Zcn Ss kind with
 | some x=>if x.fields.length=V.length then (if (r.toList == kind.toList)=true then 1 else 0)+Zfg r x.fields V V.length else 0
 | none=>0
theorem Znr {Ss:List Sh}{kind:Zy_}{V:List Zy_}{r:Zy_} (h:∀ x,Zcn Ss kind=some x->x.fields.length≠V.length):Zd5 Ss kind V r=0:=by
 unfold Zd5
 split
 . rfl
 . cases hs:Zcn Ss kind with
   | none=>rfl
   | some x=>simp [h x hs]
theorem Zlx {Ss:List Sh}{kind:Zy_}{V:List Zy_}{r:Zy_} (h:r.toList.isEmpty=true):Zd5 Ss kind V r=0:=by
 unfold Zd5;rw [if_pos h]
theorem Zly {Ss:List Sh}{kind:Zy_}{V:List Zy_}{r:Zy_}{x:Sh} (h:Zcn Ss kind=some x) (hl:x.fields.length=V.length) (hr:r.toList.isEmpty=false) :
 Zd5 Ss kind V r=(if (r.toList == kind.toList)=true then 1 else 0)+Zfg r x.fields V V.length:=by
 unfold Zd5;rw [h];simp [hr,hl]
section
variable (lo:Nat) (sv mv tv:Value) (Ss:List Sh) (Ms:List Md) (Ts:List Tm) (kind nm team:Zy_) (vv hv:Value) (en:Bool) (ver:Int) (V Ho:List Zy_) (r:Zy_) (w:World)
theorem ZiI (h:ZbH lo w sv mv tv Ss Ms Ts) (hV:Zaf w vv V) (hH:Zaf w hv Ho) (n1:V.length<=1048576) :
 Calls prog 152 #[.agg #[sv,mv,tv],.agg #[.string kind,.string nm,.string team,vv,.bool en,hv,.int .i64 ver],.string r] w
  fun e w'=>e=.returned (.int .i64 (Zd5 Ss kind V r))/\Zw_ w w':=by
 have HL:=Zab h;have HV:=Zab hV;have HH:=Zab hH;obtain⟨a,cap,rfl⟩:=h.shs.form;obtain⟨a1,cap1,rfl⟩:=h.mds.form;obtain⟨a2,cap2,rfl⟩:=h.tms.form;obtain⟨va,vcap,rfl⟩:=hV.form';obtain⟨ha,hcap,rfl⟩:=hH.form';clear h hV hH;go_enter func152,ntmps152;go_wp2_with fail
 obtain⟨wz,hwz,HO,HB⟩:∃ wz,wz=(w.alloc (.cells #[.slice a Ss.length cap,.slice a1 Ms.length cap1,.slice a2 Ts.length cap2] 41)).alloc (.cells #[.string kind,.string nm,.string team,.slice va V.length vcap,.bool en,.slice ha Ho.length hcap,.int .i64 ver] 128)/\
  Hd (Box wz (w.heap.size+1) #[.string kind,.string nm,.string team,.slice va V.length vcap,.bool en,.slice ha Ho.length hcap,.int .i64 ver])/\Hd (Zw_ w wz):=
  ⟨_,rfl,Box.new _ _ _ _ (by simp),(Zac _ _).trans ((Zac _ _).mono (by simp))⟩
 rw [<- hwz];clear hwz;refine (Zcr kind nm team _ _ _ en ver V Ho Ss wz lo wz (HL.o.below HB.o).shs Zb_ (HV.o.below HB.o) (HH.o.below HB.o)).mono ?_;rintro e w1 ⟨hb1,hq⟩;have HO1:=Zab (HO.o.on hb1);have HB1:=Zab (HB.o.trans (hb1.mono HB.o.size))
 rcases hq with ⟨x,fv,hsh,hlen,rfl,hF⟩ | ⟨hno,fa,fcap,rfl⟩
 . have HF:=Zab (hF.below hb1)
   obtain⟨fa,fcap,rfl⟩:=hF.form;have HS:=Zab hsh;have HN:=Zab hlen;clear hb1 hF hsh HO HB hlen
   cases hr:r.toList.isEmpty with
   | true=>
    have HQ:=Zab (Zlx (Ss:=Ss) (kind:=kind) (V:=V) hr);go_wp2;go_ret;exact⟨ZaE HQ.o.symm,HB1.o⟩
   | false=>
    have HQ:=Zab (Zly HS.o HN.o hr);have hbd:=Zty r x.fields V;have HBD:=Zab hbd;have o0:=HO1.o.cell 0;have o3:=HO1.o.cell 3;simp at o0 o3;have hvl:x.fields.length<=1048576:=by have:=HN.o;omega
    have HV1:=Zab (HV.o.below HB1.o);clear hbd
    cases hk:(r.toList == kind.toList) with
    | true=>
     have HE:Hd (Zd5 Ss kind V r=1+Zfg r x.fields V V.length):=by unfold Hd;rw [HQ.o,hk];rfl
     go_wp2
     go_loop [9,10] (fun n i=>∃ k:Nat,n=.int .i64 (1+Zfg r x.fields V k)/\i=.int .i64 k/\k<=x.fields.length) (fun _ i=>x.fields.length - (intOf i).toNat)
     case atStart=>exact⟨0,by simp [Zfg],rfl,by omega⟩
     case round=>
      obtain⟨k,rfl,rfl,hkl⟩:=hrel
      by_cases hlt:k < x.fields.length
      . have hlv:k < V.length:=by have:=HN.o;omega
        obtain⟨fb,foff,rfl,hfb,hfc⟩:=HF.o.full' (by omega);obtain⟨hsz,wv,hcell,-⟩:=hfc k hlt;obtain⟨c0,c1,c2,c3,c4,c5,c6,c7,c8,c9,c10⟩:=hcell;obtain⟨vb,voff,rfl,hvb,hvc,hvs⟩:=HV1.o.spread (by omega);have hvk:=hvc k hlv;have hvz:V[k].size<=maxLen:=hvs _ (List.getElem_mem hlv);have HST:=Zab (ZlB (r:=r) hlt hlv);have HDN:=Zab (ZmT V[k]);have hbd:=HBD.o k;have hbn:=ZjG V[k];have hW:ZsA r x.fields[k] V[k]=if (x.fields[k].kd == 1&&x.fields[k].we.toList == r.toList)=true then ZjF V[k] else 0:=rfl
        have HW:=Zab hW;clear hfc hvc hvs c0 c2 c3 c4 c5 c6 c7 c8 c9 hsz hW
        cases hk1:(x.fields[k].kd == 1) with
        | false=>
         have HE2:Hd (Zfg r x.fields V (k+1)=Zfg r x.fields V k):=by unfold Hd;rw [HST.o,HW.o,hk1];simp
         go_wp2_with (go_at_call 193;refine (Zbi _ _ hvz).mono ?_;rintro e w2 ⟨rfl,rfl⟩)
         go_round
         . exact⟨k+1,by rw [HE2.o],by go_num,by omega⟩
         . simp [intOf];omega
        | true=>
         cases hk2:(x.fields[k].we.toList == r.toList) with
         | false=>
          have HE2:Hd (Zfg r x.fields V (k+1)=Zfg r x.fields V k):=by unfold Hd;rw [HST.o,HW.o,hk1,hk2];simp
          go_wp2_with (go_at_call 193;refine (Zbi _ _ hvz).mono ?_;rintro e w2 ⟨rfl,rfl⟩)
          go_round
          . exact⟨k+1,by rw [HE2.o],by go_num,by omega⟩
          . simp [intOf];omega
         | true=>
          by_cases hn:0 < Zm4 V[k]
          . have HE2:Hd (Zfg r x.fields V (k+1)=Zfg r x.fields V k+Zm4 V[k]):=by unfold Hd;rw [HST.o,HW.o,hk1,hk2,HDN.o,if_pos hn];simp
            have hb2:=HBD.o (k+1);rw [HE2.o] at hb2
            push_cast at hb2
            go_wp2_with (go_at_call 193;refine (Zbi _ _ hvz).mono ?_;rintro e w2 ⟨rfl,rfl⟩)
            go_round
            . exact⟨k+1,by rw [HE2.o];congr 1;omega,by go_num,by omega⟩
            . simp [intOf];omega
          . have HE2:Hd (Zfg r x.fields V (k+1)=Zfg r x.fields V k):=by unfold Hd;rw [HST.o,HW.o,hk1,hk2,HDN.o,if_neg hn];simp
            go_wp2_with (go_at_call 193;refine (Zbi _ _ hvz).mono ?_;rintro e w2 ⟨rfl,rfl⟩)
            go_round
            . exact⟨k+1,by rw [HE2.o],by go_num,by omega⟩
            . simp [intOf];omega
      . have he:k=V.length:=by have:=HN.o;omega
        subst he;go_wp2;go_ret;exact⟨ZaE (by have:=HE.o;omega),HB1.o⟩
    | false=>
     have HE:Hd (Zd5 Ss kind V r=0+Zfg r x.fields V V.length):=by unfold Hd;rw [HQ.o,hk];rfl
     go_wp2
     go_loop [9,10] (fun n i=>∃ k:Nat,n=.int .i64 (0+Zfg r x.fields V k)/\i=.int .i64 k/\k<=x.fields.length) (fun _ i=>x.fields.length - (intOf i).toNat)
     case atStart=>exact⟨0,by simp [Zfg],rfl,by omega⟩
     case round=>
      obtain⟨k,rfl,rfl,hkl⟩:=hrel
      by_cases hlt:k < x.fields.length
      . have hlv:k < V.length:=by have:=HN.o;omega
        obtain⟨fb,foff,rfl,hfb,hfc⟩:=HF.o.full' (by omega);obtain⟨hsz,wv,hcell,-⟩:=hfc k hlt;obtain⟨c0,c1,c2,c3,c4,c5,c6,c7,c8,c9,c10⟩:=hcell;obtain⟨vb,voff,rfl,hvb,hvc,hvs⟩:=HV1.o.spread (by omega);have hvk:=hvc k hlv;have hvz:V[k].size<=maxLen:=hvs _ (List.getElem_mem hlv);have HST:=Zab (ZlB (r:=r) hlt hlv);have HDN:=Zab (ZmT V[k]);have hbd:=HBD.o k;have hbn:=ZjG V[k];have hW:ZsA r x.fields[k] V[k]=if (x.fields[k].kd == 1&&x.fields[k].we.toList == r.toList)=true then ZjF V[k] else 0:=rfl
        have HW:=Zab hW;clear hfc hvc hvs c0 c2 c3 c4 c5 c6 c7 c8 c9 hsz hW
        cases hk1:(x.fields[k].kd == 1) with
        | false=>
         have HE2:Hd (Zfg r x.fields V (k+1)=Zfg r x.fields V k):=by unfold Hd;rw [HST.o,HW.o,hk1];simp
         go_wp2_with (go_at_call 193;refine (Zbi _ _ hvz).mono ?_;rintro e w2 ⟨rfl,rfl⟩)
         go_round
         . exact⟨k+1,by rw [HE2.o];congr 1;omega,by go_num,by omega⟩
         . simp [intOf];omega
        | true=>
         cases hk2:(x.fields[k].we.toList == r.toList) with
         | false=>
          have HE2:Hd (Zfg r x.fields V (k+1)=Zfg r x.fields V k):=by unfold Hd;rw [HST.o,HW.o,hk1,hk2];simp
          go_wp2_with (go_at_call 193;refine (Zbi _ _ hvz).mono ?_;rintro e w2 ⟨rfl,rfl⟩)
          go_round
          . exact⟨k+1,by rw [HE2.o];congr 1;omega,by go_num,by omega⟩
          . simp [intOf];omega
         | true=>
          by_cases hn:0 < Zm4 V[k]
          . have HE2:Hd (Zfg r x.fields V (k+1)=Zfg r x.fields V k+Zm4 V[k]):=by unfold Hd;rw [HST.o,HW.o,hk1,hk2,HDN.o,if_pos hn];simp
            have hb2:=HBD.o (k+1);rw [HE2.o] at hb2
            push_cast at hb2
            go_wp2_with (go_at_call 193;refine (Zbi _ _ hvz).mono ?_;rintro e w2 ⟨rfl,rfl⟩)
            go_round
            . exact⟨k+1,by rw [HE2.o];congr 1;omega,by go_num,by omega⟩
            . simp [intOf];omega
          . have HE2:Hd (Zfg r x.fields V (k+1)=Zfg r x.fields V k):=by unfold Hd;rw [HST.o,HW.o,hk1,hk2,HDN.o,if_neg hn];simp
            go_wp2_with (go_at_call 193;refine (Zbi _ _ hvz).mono ?_;rintro e w2 ⟨rfl,rfl⟩)
            go_round
            . exact⟨k+1,by rw [HE2.o];congr 1;omega,by go_num,by omega⟩
            . simp [intOf];omega
      . have he:k=V.length:=by have:=HN.o;omega
        subst he;go_wp2;go_ret;exact⟨ZaE (by have:=HE.o;omega),HB1.o⟩
 . have HQ:=Zab (Znr (r:=r) hno)
   clear hb1 HO HB hno;go_wp2;go_ret;exact⟨ZaE HQ.o.symm,HB1.o⟩
end
end
structure In (C:World->Prop) where
 w:World
 h:C w
theorem Za0 {P:Program}{id:Nat}{Q:Exit->Act->World->Prop}{a:Act}{w:World}{l:List Oper} (C:World->Prop) (hm:P.follows .mixedOrders=true) (hB:Region.lexB .any l.toArray=true) (hC:C w.drew)
 (h:wpQuiet P l.toArray (fun w'=>∃ X:In C,w'=X.w) (fun a'=>∀ w',(∃ X:In C,w'=X.w)->Q .normal a' w') l a):(Code.region id l.toArray true).wp P Q a w:=
 wp_region_quiet (C:=fun w'=>∃ X:In C,w'=X.w) hm hB ⟨⟨_,hC⟩,rfl⟩ (by simpa using h)
theorem ZhT {C:World->Prop} (X:In C):(∃ Y:In C,X.w=Y.w)=True:=eq_true ⟨X,rfl⟩
section
variable {b n lo hi lo' hi':Nat} {v:Value} {w w':World} {L:List Int}
structure ZbV (b o n lo hi:Nat) (w w':World):Prop where
 os:w'.os=w.os
 tape:w'.tape=w.tape
 output:w'.output=w.output
 size:w.heap.size<=w'.heap.size
 block:∀ k,k < w.heap.size->k≠b->(k < lo\/hi<=k)->w'.heap[k]?=w.heap[k]?
 cell:∀ i,(i < o\/o+n<=i)->w'.cell? ⟨b,i,none⟩=w.cell? ⟨b,i,none⟩
 frz:∀ i,w'.frozen? ⟨b,i,none⟩=w.frozen? ⟨b,i,none⟩
theorem ZbV.refl (b o n lo hi:Nat) (w:World):ZbV b o n lo hi w w:=⟨rfl,rfl,rfl,Nat.le_refl _,fun _ _ _ _=>rfl,fun _ _=>rfl,fun _=>rfl⟩
theorem ZbV.trans {o:Nat}{u v:World} (h:ZbV b o n lo hi u v) (k:ZbV b o n lo hi v w):ZbV b o n lo hi u w:=
 ⟨k.os.trans h.os,k.tape.trans h.tape,k.output.trans h.output,Nat.le_trans h.size k.size,fun i hi' hb ho=>(k.block i (Zk_ hi' h.size) hb ho).trans (h.block i hi' hb ho),fun i hi'=>(k.cell i hi').trans (h.cell i hi'),fun i=>(k.frz i).trans (h.frz i)⟩
theorem ZbV.below {o:Nat} (h:Zw_ w w') (hb:b < w.heap.size):ZbV b o n lo hi w w':=
 ⟨h.os,h.tape,h.output,h.size,fun k hk _ _=>h.block k hk,fun i _=>h.cell (p:=⟨b,i,none⟩) hb,fun i=>h.frozen (p:=⟨b,i,none⟩) hb⟩
theorem ZbV.touch {o:Nat} (h:Zag lo' hi' w w') (hb:b < w.heap.size) (h1:lo<=lo') (h2:hi'<=hi) (hx:b < lo'\/hi'<=b):ZbV b o n lo hi w w':=
 ⟨h.os,h.tape,h.output,h.size,fun k hk _ ho=>h.block k hk (by omega),fun i _=>h.cell (p:=⟨b,i,none⟩) hb hx,fun i=>h.frozen (p:=⟨b,i,none⟩) hb hx⟩
theorem ZbV.set (b o n lo hi:Nat) (w:World) (i:Nat) (u:Value) (h1:o<=i) (h2:i < o+n):ZbV b o n lo hi w (w.setCell ⟨b,i,none⟩ u):=
 ⟨rfl,rfl,rfl,by simp [World.setCell],fun k _ hb _=>Below.heap_setCell _ _ _ _ hb,fun j hj=>by apply World.cell?_setCell_other;simp only [ne_eq,Addr.mk.injEq,not_and];omega,fun j=>by rw [World.frozen?_setCell]⟩
theorem ZbV.wide {o:Nat} (h:ZbV b o n lo hi w w') (_hb:b < w.heap.size) (h1:lo'<=lo) (h2:hi<=hi') (hx:lo'<=b/\b < hi'):Zag lo' hi' w w':=
 ⟨h.os,h.tape,h.output,h.size,fun k hk ho=>h.block k hk (by omega) (by omega)⟩
theorem ZbV.o {o:Nat} (h:ZbV b o n lo hi w w') {p:Addr} (hp:p.block < w.heap.size) (hb:p.block≠b) (ho:p.block < lo\/hi<=p.block):w'.cell? p=w.cell? p/\w'.frozen? p=w.frozen? p:=
 ⟨World.cell?_of_block (w:=w) (h.block p.block hp hb ho),World.frozen?_of_block (w:=w) (h.block p.block hp hb ho)⟩
theorem Zad.near {o:Nat}{L:List Zy_} (h:Zad lo hi w v L) (ht:ZbV b o n lo' hi' w w') (ho:hi<=lo'\/hi'<=lo) (hb:b < lo\/hi<=b):Zad lo hi w' v L:=by
 rcases h with h | ⟨g,off,cap,h1,h2,h3,h4,h5,h6,h7,h8,h9⟩
 . exact Or.inl h
 . exact Or.inr ⟨g,off,cap,h1,h2,h3,Zk_ h4 ht.size,fun i hi'=>((ht.o (p:=⟨g,off+i,none⟩) h4 (by simp only [ne_eq];omega) (by simp only [];omega)).1).trans (h5 i hi'),h6,h7,h8,fun i=>((ht.o (p:=⟨g,off+i,none⟩) h4 (by simp only [ne_eq];omega) (by simp only [];omega)).2).trans (h9 i)⟩
theorem Zad.in' {L:List Zy_} (h:Zad lo hi w v L):Zaq lo w v L:=by
 rcases h with h | ⟨g,off,cap,h1,h2,h3,h4,h5,h6,h7,h8,h9⟩
 . exact Or.inl h
 . exact Or.inr ⟨g,off,cap,h1,h2,h3,h4,h5,h6,h7⟩
theorem cne {v:World}{i j:Nat}{u:Value} (h:i≠j):(v.setCell ⟨b,i,none⟩ u).cell? ⟨b,j,none⟩=v.cell? ⟨b,j,none⟩:=by
 apply World.cell?_setCell_other;simp only [ne_eq,Addr.mk.injEq,not_and]
 omega
theorem Zag.setB (B:Nat) (w:World) (i:Nat) (u:Value):Zag B (B+1) w (w.setCell ⟨B,i,none⟩ u):=Zag.setCell _ _ _ _ _ ⟨Nat.le_refl _,Nat.lt_succ_self _⟩
def Zav (lo hi:Nat) (w:World) (v:Value) (L:List Int):Prop:=
 (∃ (a:Option Addr) (cap:Nat),v=.slice a 0 cap/\L=[])\/
 ∃ (b off cap:Nat),v=.slice (some ⟨b,off,none⟩) L.length cap/\L≠[]/\L.length<=maxLen/\b < w.heap.size/\
  (∀ i (h:i < L.length),w.cell? ⟨b,off+i,none⟩=some (.int .i64 L[i]))/\lo<=b/\b < hi/\∀ i,w.frozen? ⟨b,off+i,none⟩=false
theorem Zav.near {o:Nat} (h:Zav lo hi w v L) (ht:ZbV b o n lo' hi' w w') (ho:hi<=lo'\/hi'<=lo) (hb:b < lo\/hi<=b):Zav lo hi w' v L:=by
 rcases h with h | ⟨g,off,cap,h1,h2,h3,h4,h5,h7,h8,h9⟩
 . exact Or.inl h
 . exact Or.inr ⟨g,off,cap,h1,h2,h3,Zk_ h4 ht.size,fun i hi'=>((ht.o (p:=⟨g,off+i,none⟩) h4 (by simp only [ne_eq];omega) (by simp only [];omega)).1).trans (h5 i hi'),h7,h8,fun i=>((ht.o (p:=⟨g,off+i,none⟩) h4 (by simp only [ne_eq];omega) (by simp only [];omega)).2).trans (h9 i)⟩
theorem Zav.below (h:Zav lo hi w v L) (hb:Zw_ w w'):Zav lo hi w' v L:=by
 rcases h with h | ⟨g,off,cap,h1,h2,h3,h4,h5,h7,h8,h9⟩
 . exact Or.inl h
 . exact Or.inr ⟨g,off,cap,h1,h2,h3,Zk_ h4 hb.size,fun i hi'=>(hb.cell (p:=⟨g,off+i,none⟩) h4).trans (h5 i hi'),h7,h8,fun i=>(hb.frozen (p:=⟨g,off+i,none⟩) h4).trans (h9 i)⟩
theorem Zav.touch (h:Zav lo hi w v L) (ht:Zag lo' hi' w w') (ho:hi<=lo'\/hi'<=lo):Zav lo hi w' v L:=by
 rcases h with h | ⟨b,off,cap,h1,h2,h3,h4,h5,h7,h8,h9⟩
 . exact Or.inl h
 . exact Or.inr ⟨b,off,cap,h1,h2,h3,Zk_ h4 ht.size,fun i hi'=>(ht.cell (p:=⟨b,off+i,none⟩) h4 (by simp only [];omega)).trans (h5 i hi'),h7,h8,fun i=>(ht.frozen (p:=⟨b,off+i,none⟩) h4 (by simp only [];omega)).trans (h9 i)⟩
theorem Zav.in' (h:Zav lo hi w v L):Zat lo w v L:=by
 rcases h with h | ⟨g,off,cap,h1,h2,h3,h4,h5,h7,h8,h9⟩
 . exact Or.inl h
 . exact Or.inr ⟨g,off,cap,h1,h2,h3,h4,h7,h5⟩
theorem Zav.wide (h:Zav lo hi w v L) (h1:lo'<=lo) (h2:hi<=hi'):Zav lo' hi' w v L:=by
 rcases h with h | ⟨g,off,cap,e1,e2,e3,e4,e5,e7,e8,e9⟩
 . exact Or.inl h
 . exact Or.inr ⟨g,off,cap,e1,e2,e3,e4,e5,by omega,by omega,e9⟩
theorem Zav.form (h:Zav lo hi w v L):∃ a cap,v=.slice a L.length cap:=by
 rcases h with ⟨a,cap,h,rfl⟩ | ⟨b,off,cap,h,_⟩
 . exact⟨a,cap,h⟩
 . exact⟨_,cap,h⟩
def Zev (k:Int) (n:Nat):List Int:=(List.range n).map fun (i:Nat)=>k+(i:Int)
theorem Zcq (k:Int) (n:Nat):(Zev k n).length=n:=by simp [Zev]
theorem ZiZ (k:Int) (n i:Nat) (h:i < (Zev k n).length):(Zev k n)[i]=k+i:=by simp [Zev]
theorem Zg6 (lo hi:Nat) (v:Value) (L:List Int) (k:Int) (w:World) (hv:Zav lo hi w v L) (h0:0<=k) (hk:k+L.length<=4000000000000000000) :
 Calls prog 18 #[v,.int .i64 k] w fun e w'=>e=.returned (.int .i64 (k+L.length))/\Zag lo hi w w'/\Zav lo hi w' v (Zev k L.length):=by
 rcases hv with ⟨a,cap,rfl,rfl⟩ | ⟨b,off,cap,rfl,hne,hm,hbw,hc,hlo,hhi,hfr⟩
 . go_enter func18,ntmps18
   go_wp2
   go_loop [5,1] (fun i q=>i=.int .i64 0/\q=.int .i64 k) (fun _ _=>0)
   case atStart=>exact⟨rfl,rfl⟩
   case round=>
    obtain⟨rfl,rfl⟩:=hrel;go_wp2;go_ret;exact⟨by simp,Zag.refl _ _ _,Or.inl ⟨_,_,rfl,rfl⟩⟩
 . unfold maxLen at hm
   go_enter func18,ntmps18;go_wp2
   go_loopw [5,1] (fun i q wr=>∃ j:Nat,i=.int .i64 j/\q=.int .i64 (k+j)/\j<=L.length/\Zag lo hi w wr/\(∀ i,i < j->wr.cell? ⟨b,off+i,none⟩=some (.int .i64 (k+i)))/\(∀ i (h:i < L.length),j<=i->wr.cell? ⟨b,off+i,none⟩=some (.int .i64 L[i]))/\∀ i,wr.frozen? ⟨b,off+i,none⟩=false) (fun i _ _=>L.length - (intOf i).toNat)
   case atStart=>exact⟨0,rfl,by simp,by omega,Zag.refl _ _ _,fun i h=>by omega,fun i h _=>hc i h,hfr⟩
   case round=>
    obtain⟨j,rfl,rfl,hj,ht,hA,hB,hF⟩:=hrel;have HT:=Zab ht;have HA:=Zab hA;have HBB:=Zab hB;have HF:=Zab hF;clear ht hA hB hF
    by_cases hlt:j < L.length
    . have hcj:wr.cell? ⟨b,off+j,none⟩=some (.int .i64 L[j]):=HBB.o j hlt Zl_
      have hfj:wr.frozen? ⟨b,off+j,none⟩=false:=HF.o j;go_wp2;go_roundw
      . 
       refine⟨j+1,by go_num,by go_num,by omega,HT.o.trans (Zag.setCell _ _ _ _ _ ⟨hlo,hhi⟩),fun i hi'=>?_,fun i h hi'=>?_,fun i=>?_⟩
       . by_cases e:i=j
         . subst e;exact World.cell?_setCell_same' _ _ _ (by rw [hcj];rfl)
         . rw [show (wr.setCell ⟨b,off+j,none⟩ (.int .i64 (k+j))).cell? ⟨b,off+i,none⟩=wr.cell? ⟨b,off+i,none⟩ from by apply World.cell?_setCell_other;simp only [ne_eq,Addr.mk.injEq,not_and];omega]
           exact HA.o i (by omega)
       . rw [show (wr.setCell ⟨b,off+j,none⟩ (.int .i64 (k+j))).cell? ⟨b,off+i,none⟩=wr.cell? ⟨b,off+i,none⟩ from by apply World.cell?_setCell_other;simp only [ne_eq,Addr.mk.injEq,not_and];omega]
         exact HBB.o i h (by omega)
       . rw [World.frozen?_setCell]
         exact HF.o i
      . simp [intOf];omega
    . have e:j=L.length:=by omega
      subst e;go_wp2;go_ret;refine⟨rfl,HT.o,Or.inr ⟨b,off,cap,by rw [Zcq],?_,by rw [Zcq];unfold maxLen;omega,Zk_ hbw HT.o.size,fun i h=>?_,hlo,hhi,HF.o⟩⟩
      . intro e;have:=congrArg List.length e;rw [Zcq] at this;simp at this;exact hne this
      . rw [ZiZ];exact HA.o i (by rw [Zcq] at h;exact h)
theorem ZgY (lo:Nat) (v:Value) (n:Nat) (k:Int) (w:World) (hv:Zat lo w v (Zev k n)) (h0:0<=k) (hk:k+n<=4000000000000000000) :
 Calls prog 19 #[v,.int .i64 k] w fun e w'=>e=.returned (.int .i64 (k+n))/\Zw_ w w':=by
 have HV:=Zab hv;obtain⟨a,cap,rfl⟩:=hv.form;clear hv;rw [Zcq] at HV;rw [Zcq];go_enter func19,ntmps19;go_wp2
 go_loop [5,1] (fun i q=>∃ j:Nat,i=.int .i64 j/\q=.int .i64 (k+j)/\j<=n) (fun i _=>n - (intOf i).toNat)
 case atStart=>exact⟨0,rfl,by simp,by omega⟩
 case round=>
  obtain⟨j,rfl,rfl,hj⟩:=hrel
  by_cases hlt:j < n
  . obtain⟨b,off,rfl,hbw,hc⟩:=HV.o.full' (by rw [Zcq];omega)
    have hcj:w.cell? ⟨b,off+j,none⟩=some (.int .i64 (k+j)):=by rw [hc j (by rw [Zcq];omega),ZiZ]
    clear hc;go_wp2
    go_round
    . exact⟨j+1,by go_num,by go_num,by omega⟩
    . simp [intOf];omega
  . have e:j=n:=by omega
    subst e;go_wp2;go_ret;exact⟨rfl,Below.refl _ _⟩
end
theorem Ze6 {Fs:List Fd}{nm team:Zy_}{V Ho:List Zy_}{ver:Int} (h:(ZaQ Fs nm team V Ho ver).1=0):V.length=Fs.length:=by
 unfold ZaQ at h
 by_cases hb:ZlD Fs nm team V Ho ver=true
 . unfold ZlD at hb;simp at hb;exact hb.2.1
 . rw [if_neg hb] at h;exact absurd h (by decide)
theorem Zob {r:Int×Int} (h:r.1=0):ZlU r=.nilIface:=if_pos h
theorem Zoc {r:Int×Int} (h:¬ r.1=0):ZlU r=.iface 347 (.agg #[.int .i64 r.1,.int .i64 r.2]):=if_neg h
end Go.Proofs.YtmappejlmapboaaGreat
