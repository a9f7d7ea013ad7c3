import Derived.Test.YtcfjmagkinpaeaaGreatGSA
set_option maxHeartbeats 16000000
set_option maxRecDepth 100000
open Go.Proofs.Tryz
namespace Go.Proofs.YtcfjmagkinpaeaaGreat
open Go.RowKit Go.Deep
theorem Zaq {w w':World} {m b o:Nat} {cs:List Value} (h:w.rangeAt b o cs) (hb:Below m w w') (hlt:b < m):w'.rangeAt b o cs:=fun j v hv=>by
 rw [hb.cell (p:=⟨b,o+j,none⟩) hlt];exact h j v hv
theorem Zn5 {w:World} {b o:Nat} {cs:List Value} (h:w.rangeAt b o cs) {p:Addr} (hp:b≠p.block) (u:Value):(w.setCell p u).rangeAt b o cs:=fun j v hv=>by
 rw [Zar _ _ _ _ hp];exact h j v hv
theorem Zg0 {w w':World} {m b o n:Nat} (h:w.there b o n) (hb:Below m w w') (hlt:b < m):w'.there b o n:=fun j hj=>by
 rw [hb.cell (p:=⟨b,o+j,none⟩) hlt,hb.frozen (p:=⟨b,o+j,none⟩) hlt];exact h j hj
theorem Zey {w:World} {b n m o:Nat} (h:w.there b 0 n) (hle:o+m≤n):w.there b o m:=fun j hj=>by
 have:=h (o+j) (by omega)
 rwa [Nat.zero_add] at this
theorem ZgV (b:Nat):∀ (vs:List Value) (o:Nat) (w:World),(w.setCells b o vs).heap.size=w.heap.size
 | [],_,_=>rfl
 | v :: vs,o,w=>(ZgV b vs (o+1) (w.setCell ⟨b,o,none⟩ v)).trans (by simp [World.setCell])
theorem Below.sets {n b:Nat} (hb:n≤b):∀ (vs:List Value) (o:Nat) {a w:World},Below n a w→Below n a (w.setCells b o vs)
 | [],_,_,_,h=>h
 | v :: vs,o,_,_,h=>Below.sets hb vs (o+1) (h.setCell hb v)
theorem Zex (w:World) (C:Array Value) (t:TypeId) (n:Nat) (hn:C.size=n):(w.alloc (.cells C t)).there w.heap.size 0 n:=fun j hj=>by
 have:=World.rowIs_alloc w C t (fun i=>C.getD i default) (fun i hi=>by simp [Array.getD,hi]);rw [Nat.zero_add];exact⟨by rw [this.cell (by omega)];rfl,this.frozen j⟩
theorem ZaM {P:Program} {ops:Array Oper} {C:World→Prop} {Q:Act→Prop} {a:Act} {o:Oper} {rest:List Oper} (hw:Region.wanted o (yielded ops a.tmps)=true) (ty:TypeId) (x:Operand) (ho:o.op=.load ty x)
 (b off:Nat) (hx:a.eval x=.pointer (some ⟨b,off,none⟩)) (cs:List Value) (d:TypeDesc) (hC:∀ w,C w→w.rangeAt b off cs)
 (hu:P.underlying ty=some d) (hd:d.isRow=true) (hi:(P.info? ty).map (·.size)=some cs.length)
 (h:wpQuiet P ops C Q rest (a.put o.dst (.agg cs.toArray))):wpQuiet P ops C Q (o :: rest) a:=
 BigFrame.wpQuiet_want hw fun K hK=>⟨.agg cs.toArray,fun w hw'=>by
  unfold Oper.quietAt execOp;simp only [ho,hx,Instr.loadAt,Instr.sureAddr,Sem.run_bind,Sem.run_pure,Result.andThen_ok,run_loadVar_mid w b off ty cs d (hC w hw') hu hd hi,Oper.quietUpon,and_self],hK _ h⟩
theorem Zhp {P:Program} {ops:Array Oper} {rest:List Oper} {op:Oper} {a:Act} {w:World} {Q:Exit→Act→World→Prop} (hw:Region.wanted op (yielded ops a.tmps)=true) (ty:TypeId) (x:Operand) (ho:op.op=.load ty x)
 (b o:Nat) (hx:a.eval x=.pointer (some ⟨b,o,none⟩)) (cs:List Value) (d:TypeDesc) (hc:w.rangeAt b o cs)
 (hu:P.underlying ty=some d) (hd:d.isRow=true) (hi:(P.info? ty).map (·.size)=some cs.length)
 (h:wpList P ops Q rest (a.put op.dst (.agg cs.toArray)) w):wpList P ops Q (op :: rest) a w:=
 BigFrame.wpList_want hw fun _ hK=>wp_load_mid ty x ho b o hx cs d hc hu hd hi (hK _ _ h)
def slL (S:Sl) (a0:Option Addr) (k0:Nat) (a1:Option Addr) (k1:Nat) (a2:Option Addr) (k2:Nat) (a3:Option Addr) (k3:Nat):List Value:=[.string S.dr,.string S.ak.who,.int .i64 S.ak.verb,.string S.ak.kd,.string S.ak.nm,.string S.ak.tm,.slice a0 S.ak.vs.length k0,.slice a1 S.ak.hs.length k1,.int .i64 S.ak.seen,.string S.ak.hold,.string S.ak.tw,.slice a2 S.ak.vb.length k2,.string S.ak.rk,.string S.ak.rt,.string S.ak.rp,.int .i64 S.ak.num,.int .i64 S.gn,.slice a3 S.ws.length k3]
theorem Zr3 (S:Sl) (a0:Option Addr) (k0:Nat) (a1:Option Addr) (k1:Nat) (a2:Option Addr) (k2:Nat) (a3:Option Addr) (k3:Nat):Array.all (slL S a0 k0 a1 k1 a2 k2 a3 k3).toArray (·.oneCell')=true:=by
 unfold slL;simp [Value.oneCell']
theorem Zcw.set {lo:Nat} {w:World} {va ha qa wv:Value} {S:Sl} (h:Zcw lo w va ha qa wv S) {p:Addr} (hp:p.block < lo) (u:Value):Zcw lo (w.setCell p u) va ha qa wv S:=⟨h.ak.setCell hp u,h.ws.set hp u,h.sz⟩
def SlC (lo:Nat) (w:World) (cs:List Value) (S:Sl):Prop:=
 ∃ a0 k0 a1 k1 a2 k2 a3 k3,cs=slL S a0 k0 a1 k1 a2 k2 a3 k3∧Zcw lo w (.slice a0 S.ak.vs.length k0) (.slice a1 S.ak.hs.length k1) (.slice a2 S.ak.vb.length k2) (.slice a3 S.ws.length k3) S
theorem SlC.below {lo:Nat} {w w':World} {cs:List Value} {S:Sl} (h:SlC lo w cs S) (hb:Zw_ w w'):SlC lo w' cs S:=by
 obtain⟨a0,k0,a1,k1,a2,k2,a3,k3,h1,h2⟩:=h;exact⟨a0,k0,a1,k1,a2,k2,a3,k3,h1,h2.below hb⟩
theorem SlC.mono {lo lo':Nat} {w:World} {cs:List Value} {S:Sl} (h:SlC lo w cs S) (hl:lo'≤lo):SlC lo' w cs S:=by
 obtain⟨a0,k0,a1,k1,a2,k2,a3,k3,h1,h2⟩:=h;exact⟨a0,k0,a1,k1,a2,k2,a3,k3,h1,h2.mono hl⟩
theorem SlC.set {lo:Nat} {w:World} {cs:List Value} {S:Sl} (h:SlC lo w cs S) {p:Addr} (hp:p.block < lo) (u:Value):SlC lo (w.setCell p u) cs S:=by
 obtain⟨a0,k0,a1,k1,a2,k2,a3,k3,h1,h2⟩:=h;exact⟨a0,k0,a1,k1,a2,k2,a3,k3,h1,h2.set hp u⟩
theorem SlC.len {lo:Nat} {w:World} {cs:List Value} {S:Sl} (h:SlC lo w cs S):cs.length=18:=by
 obtain⟨a0,k0,a1,k1,a2,k2,a3,k3,h1,h2⟩:=h;rw [h1];rfl
theorem SlC.one {lo:Nat} {w:World} {cs:List Value} {S:Sl} (h:SlC lo w cs S):Array.all cs.toArray (·.oneCell')=true:=by
 obtain⟨a0,k0,a1,k1,a2,k2,a3,k3,h1,h2⟩:=h;rw [h1];exact Zr3 _ _ _ _ _ _ _ _ _
theorem ZsV (lo:Nat) (cs:List Value) (S:Sl) (left:Int) (w:World) (h0:0≤left) (h1:left≤1048576) (h:SlC lo w cs S) :
 Calls prog 154 #[.agg cs.toArray,.int .i64 left] w
  fun e w'=>∃ r:Int,e=.returned (.int .i64 r)∧Zw_ w w'∧-1≤r∧r≤left∧(0≤r→ZeS S):=by
 obtain⟨a0,k0,a1,k1,a2,k2,a3,k3,rfl,h2⟩:=h;exact ZmD lo _ _ _ _ S w left h0 h1 h2
theorem Zst (lo lo':Nat) (cs cs':List Value) (S:Sl) (w:World) (h:SlC lo w cs S) (h':SlC lo' w cs' S) :
 Calls prog 180 #[.agg cs.toArray,.agg cs'.toArray] w fun e w'=>e=.returned (.bool true)∧Zw_ w w':=by
 obtain⟨a0,k0,a1,k1,a2,k2,a3,k3,rfl,h2⟩:=h;obtain⟨b0,m0,b1,m1,b2,m2,b3,m3,rfl,h3⟩:=h';exact Zj8 lo _ _ _ _ S w lo' _ _ _ _ h2 h3
theorem ZsY (lo:Nat) (cs:List Value) (S:Sl) (w:World) (h:SlC lo w cs S) (hn:ZeS S) :
 Calls prog 168 #[.agg cs.toArray] w
  fun e w'=>∃ cs',e=.returned (.agg cs'.toArray)∧Zw_ w w'∧SlC w.heap.size w' cs' S:=by
 obtain⟨a0,k0,a1,k1,a2,k2,a3,k3,rfl,h2⟩:=h;refine (ZmJ lo _ _ _ _ S w h2 hn).mono ?_;rintro e w' ⟨b0,m0,b1,m1,b2,m2,b3,m3,h3,h4,h5⟩;exact⟨slL S b0 m0 b1 m1 b2 m2 b3 m3,h3,h4,b0,m0,b1,m1,b2,m2,b3,m3,rfl,h5⟩
theorem SlC.sets {lo b:Nat} (hb:b < lo) {cs:List Value} {x:Sl}:∀ (vs:List Value) (o:Nat) {w:World},SlC lo w cs x→SlC lo (w.setCells b o vs) cs x
 | [],_,_,h=>h
 | v :: vs,o,_,h=>SlC.sets hb vs (o+1) (h.set hb v)
theorem Zen:(prog.info? 125).map (·.size)=some 18:=by kernel_rfl
theorem ZkW:(prog.info? 242).map (·.size)=some 18:=by kernel_rfl
def ZcD (lo:Nat) (w:World) (v:Value) (Xl:List Sl):Prop:=
 (∃ (a:Option Addr) (cap:Nat),v=.slice a 0 cap∧Xl=[])∨
 ∃ (b off cap:Nat),v=.slice (some ⟨b,off,none⟩) Xl.length cap∧Xl≠[]∧Xl.length≤maxLen∧b < w.heap.size∧lo≤b∧Xl.length≤cap∧
  ∀ i (h:i < Xl.length),∃ cs,w.rangeAt b (off+i*18) cs∧SlC lo w cs Xl[i]
theorem ZcD.below {lo:Nat} {w w':World} {v:Value} {Xl:List Sl} (h:ZcD lo w v Xl) (hb:Zw_ w w'):ZcD lo w' v Xl:=by
 rcases h with h | ⟨b,off,cap,h1,h2,h3,h4,h5,h6,h7⟩
 · exact Or.inl h
 · refine Or.inr ⟨b,off,cap,h1,h2,h3,Zk_ h4 hb.size,h5,h6,fun i hi=>?_⟩
   obtain⟨cs,hr,hc⟩:=h7 i hi;exact⟨cs,Zaq hr hb h4,hc.below hb⟩
theorem ZcD.mono {lo lo':Nat} {w:World} {v:Value} {Xl:List Sl} (h:ZcD lo w v Xl) (hl:lo'≤lo):ZcD lo' w v Xl:=by
 rcases h with h | ⟨b,off,cap,h1,h2,h3,h4,h5,h6,h7⟩
 · exact Or.inl h
 · refine Or.inr ⟨b,off,cap,h1,h2,h3,h4,Nat.le_trans hl h5,h6,fun i hi=>?_⟩
   obtain⟨cs,hr,hc⟩:=h7 i hi;exact⟨cs,hr,hc.mono hl⟩
theorem ZcD.set {lo:Nat} {w:World} {v:Value} {Xl:List Sl} (h:ZcD lo w v Xl) {p:Addr} (hp:p.block < lo) (u:Value):ZcD lo (w.setCell p u) v Xl:=by
 rcases h with h | ⟨b,off,cap,h1,h2,h3,h4,h5,h6,h7⟩
 · exact Or.inl h
 · refine Or.inr ⟨b,off,cap,h1,h2,h3,by simpa [World.setCell] using h4,h5,h6,fun i hi=>?_⟩
   obtain⟨cs,hr,hc⟩:=h7 i hi;exact⟨cs,Zn5 hr (by omega) u,hc.set hp u⟩
theorem ZcD.form {lo:Nat} {w:World} {v:Value} {Xl:List Sl} (h:ZcD lo w v Xl):∃ a cap,v=.slice a Xl.length cap:=by
 rcases h with ⟨a,cap,h,rfl⟩ | ⟨b,off,cap,h,_⟩
 · exact⟨a,cap,h⟩
 · exact⟨_,cap,h⟩
theorem ZcD.max {lo:Nat} {w:World} {v:Value} {Xl:List Sl} (h:ZcD lo w v Xl):Xl.length≤maxLen:=by
 rcases h with ⟨a,cap,h,rfl⟩ | ⟨b,off,cap,h,_,h3,_⟩
 · exact Nat.zero_le _
 · exact h3
theorem ZcD.full' {lo:Nat} {w:World} {a:Option Addr} {n cap:Nat} {Xl:List Sl} (h:ZcD lo w (.slice a n cap) Xl) (hL:0 < Xl.length) :
 ∃ b off,a=some ⟨b,off,none⟩∧b < w.heap.size∧lo≤b∧∀ i (h:i < Xl.length),∃ cs,w.rangeAt b (off+i*18) cs∧SlC lo w cs Xl[i]:=by
 rcases h with ⟨a',cap',h,rfl⟩ | ⟨b',off',cap',h1,h2,h3,h4,h5,h6,h7⟩
 · simp at hL
 · injection h1 with e1 e2 e3
   exact⟨b',off',e1,h4,h5,h7⟩
def Zh4 (Xl:List Sl):Prop:=Xl.length≤1048576∧∀ i (h:i < Xl.length),ZeS Xl[i]
def Ztd (Xl:List Sl) (left r:Int):Prop:= -1≤r∧r≤left∧(0≤r→Zh4 Xl)
theorem Zov (lo:Nat) (v:Value) (Xl:List Sl) (left:Int) (w:World) (h0:0≤left) (h1:left≤1048576) (hv:ZcD lo w v Xl) :
 Calls prog 97 #[v,.int .i64 left] w fun e w'=>∃ r:Int,e=.returned (.int .i64 r)∧Zw_ w w'∧Ztd Xl left r:=by
 rcases hv with ⟨a,cap,rfl,rfl⟩ | ⟨b,off,cap,rfl,hne,hm,hbw,_,_,hc⟩
 · go_enter func97,ntmps97
   go_wp2
   go_loop [1,5] (fun l i=>∃ r:Int,l=.int .i64 r∧0≤r∧r≤left∧i=.int .i64 0) (fun _ _=>0)
   case atStart=>exact⟨_,rfl,by omega,by omega,rfl⟩
   case round=>
    obtain⟨r,rfl,hr0,hr1,rfl⟩:=hrel;go_wp2;go_ret;exact⟨r,rfl,Below.refl _ _,by omega,by omega,fun _=>⟨by simp,fun i h=>by simp at h⟩⟩
 · unfold maxLen at hm
   by_cases hle:(Xl.length:Int)≤left
   · go_enter func97,ntmps97
     go_wp2
     go_loopw [1,5] (fun l i wr=>∃ (r:Int) (k:Nat),l=.int .i64 r∧0≤r∧r≤left∧i=.int .i64 k∧k≤Xl.length∧Zw_ w wr∧∀ j (hj:j < Xl.length),j < k→ZeS Xl[j]) (fun _ i _=>Xl.length - (intOf i).toNat)
     case atStart=>exact⟨_,0,rfl,by omega,by omega,rfl,by omega,Below.refl _ _,fun j _ h=>by omega⟩
     case round=>
      obtain⟨r,k,rfl,hr0,hr1,rfl,hk,hb,hall⟩:=hrel;have HA:=Zab hall;clear hall
      by_cases hlt:k < Xl.length
      · obtain⟨cs,hr,hx⟩:=hc k hlt
        have HX:=Zab (hx.below hb);have HR:=Zab (Zaq hr hb hbw);have HZ:Hid ((prog.info? 242).map (·.size)=some cs.length):=by unfold Hid;rw [hx.len];exact ZkW
        clear hr hx;go_wp2_with (refine wpList_load_mid rfl 242 (.tmp 20) rfl b (off+k*18) rfl cs _ HR.out underlying242 rfl HZ.out ?_);refine (ZsV lo _ _ _ _ hr0 (by omega) HX.out).mono ?_;rintro e w1 ⟨r1,rfl,hb1,q0,q1,q2⟩;have HQ2:=Zab q2;have hB:Hid (Zw_ w w1):=hb.trans (hb1.mono hb.size);clear hb1 hb q2 HX HR HZ
        by_cases hneg:r1 < 0
        · go_wp2
          go_ret;exact⟨-1,rfl,hB.out,by omega,by omega,fun h=>by omega⟩
        · have HL:Hid (ZeS Xl[k]):=HQ2.out (by omega)
          clear HQ2;go_wp2;go_roundw
          case rel=>exact⟨_,k+1,rfl,by omega,by omega,by go_num,by omega,hB.out,fun j hj h=>by
                     by_cases e:j=k
                     · subst e;exact HL.out
                     · exact HA.out j hj (by omega)⟩
          case measure=>simp [intOf];omega
      · go_wp2
        go_ret;exact⟨r,rfl,hb,by omega,by omega,fun _=>⟨by omega,fun j hj=>HA.out j hj (by omega)⟩⟩
   · go_enter func97,ntmps97
     go_wp2;go_ret;exact⟨-1,rfl,Below.refl _ _,by omega,by omega,fun h=>by omega⟩
theorem ZlU (lo lo':Nat) (v v':Value) (Xl:List Sl) (w:World) (hv:ZcD lo w v Xl) (hv':ZcD lo' w v' Xl) :
 Calls prog 124 #[v,v'] w fun e w'=>e=.returned (.bool true)∧Zw_ w w':=by
 have hm:=hv.max;unfold maxLen at hm;have HV:=Zab hv;have HW:=Zab hv';obtain⟨a,cap,rfl⟩:=hv.form;obtain⟨a',cap',rfl⟩:=hv'.form;clear hv hv';go_enter func124,ntmps124;go_wp2
 go_loopw [5] (fun i wr=>∃ k:Nat,i=.int .i64 k∧k≤Xl.length∧Zw_ w wr) (fun i _=>Xl.length - (intOf i).toNat)
 case atStart=>exact⟨0,rfl,by omega,Below.refl _ _⟩
 case round=>
  obtain⟨k,rfl,hk,hb⟩:=hrel
  by_cases hlt:k < Xl.length
  · obtain⟨b,off,rfl,hbw,-,hc⟩:=HV.out.full' (by omega)
    obtain⟨b',off',rfl,hbw',-,hc'⟩:=HW.out.full' (by omega);obtain⟨cs,hr,hx⟩:=hc k hlt;obtain⟨cs',hr',hx'⟩:=hc' k hlt;have HX:=Zab (hx.below hb);have HX':=Zab (hx'.below hb);have HB:=Zab hb;have hz:(prog.info? 125).map (·.size)=some cs.length:=by rw [hx.len];exact Zen
    have hz':(prog.info? 125).map (·.size)=some cs'.length:=by rw [hx'.len];exact Zen
    have hRr:Hid (wr.rangeAt b (off+k*18) cs∧b < wr.heap.size):=⟨Zaq hr hb hbw,Zk_ hbw hb.size⟩;have hRr':Hid (wr.rangeAt b' (off'+k*18) cs'∧b' < wr.heap.size):=⟨Zaq hr' hb hbw',Zk_ hbw' hb.size⟩;have i0:(0:Int)≤(k:Int):=by omega
    have i1:(k:Int) < (Xl.length:Int):=by omega
    have KP:Hid (∀ W,Below wr.heap.size wr W→W.rangeAt b (off+k*18) cs∧W.rangeAt b' (off'+k*18) cs'):=fun W hW=>⟨Zaq hRr.out.1 hW hRr.out.2,Zaq hRr'.out.1 hW hRr'.out.2⟩
    have HZ1:=Zab hz;have HZ2:=Zab hz';clear hc hc' hr hr' hx hx' hb hz hz' hRr hRr';go_wp2;refine wp_region_held_drew (S:=fun W=>W.rangeAt b (off+k*18) cs∧W.rangeAt b' (off'+k*18) cs') (by kernel_rfl) (KP.out _ (Zb_.drew)) (fun hHeld=>?_);refine wpAnyH_take (i:=0) (v:=.slice (some ⟨b,off,none⟩) Xl.length cap) rfl (by kernel_rfl) (by kernel_rfl) (by kernel_rfl) (fun _ _ _ h=>h) (Or.inl ⟨by rfl,fun W hW=>by go_simp⟩) hHeld ?_;simp only [Act.put,List.setIfInBounds_toArray];refine wpAnyH_take (i:=1) (v:=.int .i64 k) rfl (by kernel_rfl) (by kernel_rfl) (by kernel_rfl) (fun _ _ _ h=>h) (Or.inl ⟨by rfl,fun W hW=>by go_simp⟩) hHeld ?_;simp only [Act.put];refine wpAnyH_take (i:=2) (v:=.pointer (some ⟨b,off+k*18,none⟩)) rfl (by kernel_rfl) (by kernel_rfl) (by kernel_rfl) (fun _ _ _ h=>h) (Or.inl ⟨by rfl,fun W hW=>by go_simp⟩) hHeld ?_;simp only [Act.put]
    refine wpAnyH_take (i:=3) rfl (by kernel_rfl) (by kernel_rfl) (by kernel_rfl) (fun _ _ _ h=>h) (yieldsIf_load_mid (by rfl) 125 (.tmp 19) rfl b (off+k*18) rfl cs _ (fun _ h=>h.1) underlying125 rfl HZ1.out) hHeld ?_;simp only [Act.put];refine wpAnyH_take (i:=4) (v:=(.slice (some ⟨b',off',none⟩) Xl.length cap')) rfl (by kernel_rfl) (by kernel_rfl) (by kernel_rfl) (fun _ _ _ h=>h) (Or.inl ⟨by rfl,fun W hW=>by go_simp⟩) hHeld ?_;simp only [Act.put];refine wpAnyH_take (i:=5) (v:=.int .i64 k) rfl (by kernel_rfl) (by kernel_rfl) (by kernel_rfl) (fun _ _ _ h=>h) (Or.inl ⟨by rfl,fun W hW=>by go_simp⟩) hHeld ?_;simp only [Act.put];refine wpAnyH_take (i:=6) (v:=(.pointer (some ⟨b',off'+k*18,none⟩))) rfl (by kernel_rfl) (by kernel_rfl) (by kernel_rfl) (fun _ _ _ h=>h) (Or.inl ⟨by rfl,fun W hW=>by go_simp⟩) hHeld ?_;simp only [Act.put]
    refine wpAnyH_take (i:=7) rfl (by kernel_rfl) (by kernel_rfl) (by kernel_rfl) (fun _ _ _ h=>h) (yieldsIf_load_mid (by rfl) 125 (.tmp 23) rfl b' (off'+k*18) rfl cs' _ (fun _ h=>h.2) underlying125 rfl HZ2.out) hHeld ?_;simp only [Act.put];refine wpAnyH_ready (rs:=[8]) (by kernel_rfl) (by simp) ?_;refine AllReadyH.cons rfl (fun K hK=>?_) AllReadyH.nil
    go_simp
    refine (Zst lo lo' _ _ _ _ (HX.out.below (Zb_.drew)) (HX'.out.below (Zb_.drew))).mono ?_;rintro e w1 ⟨rfl,hb1⟩;have HC1:Hid (Below wr.heap.size wr w1):=bt (Zb_.drew) hb1;have hB:Hid (Zw_ w w1):=bt HB.out HC1.out;clear hb1
    try go_wp2_with fail
    refine hK.out _ _ (KP.out _ HC1.out) (fun hHeld=>?_);clear hK K
    try simp only [Act.put,List.setIfInBounds_toArray,List.set_cons_zero,List.set_cons_succ]
    refine wpAnyH_take (i:=9) (v:=.bool false) rfl (by kernel_rfl) (by kernel_rfl) (by kernel_rfl) (fun _ _ _ h=>h) (Or.inl ⟨by rfl,fun W hW=>by go_simp⟩) hHeld ?_;simp only [Act.put,List.setIfInBounds_toArray];refine wpAnyH_done (by kernel_rfl) ?_ _;go_wp2;go_roundw
    case rel=>exact⟨k+1,by go_num,by omega,hB.out⟩
    case measure=>simp [intOf];omega
  · go_wp2
    go_ret;exact⟨rfl,hb⟩
def ZcE (wr:World) (B:Nat) (Xl:List Sl) (k:Nat):Prop:=
 B < wr.heap.size∧wr.there B 0 (Xl.length*18)∧∀ i (h:i < Xl.length),i < k→∃ cs,wr.rangeAt B (i*18) cs∧SlC (B+1) wr cs Xl[i]
theorem ZcE.below {wr w1:World} {B:Nat} {Xl:List Sl} {k:Nat} (h:ZcE wr B Xl k) (hb:Below wr.heap.size wr w1):ZcE w1 B Xl k:=by
 obtain⟨h1,h2,h3⟩:=h;refine⟨Zk_ h1 hb.size,Zg0 h2 hb h1,fun i hi hik=>?_⟩;obtain⟨cs,hr,hc⟩:=h3 i hi hik;exact⟨cs,Zaq hr hb h1,hc.below hb⟩
theorem ZcE.step {w1:World} {B:Nat} {Xl:List Sl} {k:Nat} {cs:List Value} (h:ZcE w1 B Xl k) (hk:k < Xl.length) (hc:SlC (B+1) w1 cs Xl[k]) :
 ZcE (w1.setCells B (k*18) cs) B Xl (k+1):=by
 obtain⟨h1,h2,h3⟩:=h;have hl:=hc.len;refine⟨by rw [ZgV];exact h1,World.there_setCells h2 _ _ _,fun i hi hik=>?_⟩
 by_cases e:i=k
 · subst e
   exact⟨cs,World.rangeAt_setCells_same _ _ _ _ (by rw [hl];exact Zey h2 (by omega)),hc.sets (by omega) _ _⟩
 · obtain⟨cs',hr,hc'⟩:=h3 i hi (by omega)
   have hl':=hc'.len;exact⟨cs',World.rangeAt_setCells_apart hr _ _ _ (by omega),hc'.sets (by omega) _ _⟩
theorem ZcE.done {wr:World} {B:Nat} {Xl:List Sl} {k:Nat} (h:ZcE wr B Xl k) (hk:Xl.length≤k) (hm:Xl.length≤maxLen):ZcD B wr (.slice (some ⟨B,0,none⟩) Xl.length Xl.length) Xl:=by
 by_cases hne:Xl=[]
 · subst hne
   exact Or.inl ⟨_,_,rfl,rfl⟩
 obtain⟨h1,h2,h3⟩:=h;refine Or.inr ⟨B,0,Xl.length,rfl,hne,hm,h1,Nat.le_refl _,Nat.le_refl _,fun i hi=>?_⟩;obtain⟨cs,hr,hc⟩:=h3 i hi (by omega);rw [Nat.zero_add];exact⟨cs,hr,hc.mono (by omega)⟩
theorem Zq1:(prog.info? 125).map (fun i=>(i.zero,i.size,i.bytes))=some (some (.agg #[.string ⟨#[]⟩,.string ⟨#[]⟩,.int .i64 0,.string ⟨#[]⟩,.string ⟨#[]⟩,.string ⟨#[]⟩,.slice none 0 0,.slice none 0 0,.int .i64 0,.string ⟨#[]⟩,.string ⟨#[]⟩,.slice none 0 0,.string ⟨#[]⟩,.string ⟨#[]⟩,.string ⟨#[]⟩,.int .i64 0,.int .i64 0,.slice none 0 0]),18,288):=by kernel_rfl
theorem ZcE.new (w:World) (Xl:List Sl) (z:Array Value):ZcE (w.alloc (.cells (madeCells z (Xl.length*18)) 125)) w.heap.size Xl 0:=
 ⟨by simp,Zex w _ _ _ (size_madeCells _ _),fun i _ h=>by omega⟩
theorem ZoN (lo:Nat) (v:Value) (Xl:List Sl) (w:World) (hv:ZcD lo w v Xl) (hn:Zh4 Xl) :
 Calls prog 115 #[v] w fun e w'=>∃ v',e=.returned v'∧Zw_ w w'∧ZcD w.heap.size w' v' Xl:=by
 obtain⟨i0,hi,hz0,hz1,hz2⟩:=info_parts Zq1;have HSM:=Zab hn.2;have hn1:=hn.1;have HM:=Zab hv.max;have HV:=Zab hv;obtain⟨a,cap,rfl⟩:=hv.form;clear hn hv
 have hmk:∀ u:World,(Instr.makeSlice 69 (.int .i64 (Xl.length:Int)) (.int .i64 (Xl.length:Int))).run prog u=.ok (.slice (some ⟨u.heap.size,0,none⟩) Xl.length Xl.length) (u.alloc (.cells (madeCells (Value.cells (.agg #[.string ⟨#[]⟩,.string ⟨#[]⟩,.int .i64 0,.string ⟨#[]⟩,.string ⟨#[]⟩,.string ⟨#[]⟩,.slice none 0 0,.slice none 0 0,.int .i64 0,.string ⟨#[]⟩,.string ⟨#[]⟩,.slice none 0 0,.string ⟨#[]⟩,.string ⟨#[]⟩,.string ⟨#[]⟩,.int .i64 0,.int .i64 0,.slice none 0 0])) (Xl.length*18)) 125)):=fun u=>by
  have h:=run_make (P:=prog) u 69 125 i0 _ underlying69 hi hz0 .i64 .i64 Xl.length Xl.length (by omega) (by omega) (by rw [hz2];omega) (by omega);rw [hz1] at h
  simpa using h
 clear hi hz0 hz1 hz2;go_enter func115,ntmps115;go_wp2;clear hmk
 go_loopw [4] (fun i wr=>∃ k:Nat,i=.int .i64 k∧k≤Xl.length∧Zw_ w wr∧ZcE wr w.heap.size Xl k) (fun i _=>Xl.length - (intOf i).toNat)
 case atStart=>exact⟨0,rfl,by omega,Zb_.alloc Zl_ _,ZcE.new w Xl _⟩
 case round=>
  obtain⟨k,rfl,hk,hb,hf⟩:=hrel
  by_cases hlt:k < Xl.length
  · obtain⟨b,off,rfl,hbw,-,hc⟩:=HV.out.full' (by omega)
    obtain⟨cs,hr,hx⟩:=hc k hlt;have hBl:w.heap.size < wr.heap.size:=hf.1
    have HX:=Zab (hx.below hb);have HR:=Zab (Zaq hr hb hbw);have HZ:Hid ((prog.info? 242).map (·.size)=some cs.length):=by unfold Hid;rw [hx.len];exact ZkW
    have HF:=Zab hf;have HB:=Zab hb;clear hc hr hx hf hb;go_wp2_with (refine wpList_load_mid rfl 242 (.tmp 18) rfl b (off+k*18) rfl cs _ HR.out underlying242 rfl HZ.out ?_);refine (ZsY lo _ _ _ HX.out (HSM.out k hlt)).mono ?_;rintro e w1 ⟨cz,rfl,hb1,hz⟩;have hf1:=HF.out.below hb1;have HC:=Zab (hz.mono (show w.heap.size+1≤wr.heap.size by omega));have HST:=Zab (hf1.step hlt HC.out);have HT:=Zab (Zey (o:=k*18) (m:=18) hf1.2.1 (by omega));have hB:Hid (Zw_ w w1):=HB.out.trans (hb1.mono HB.out.size);have hcz:cz.toArray.size=18:=List.size_toArray.trans HC.out.len;have HZ1:Hid ((prog.info? 125).map (·.size)=some cz.toArray.size):=by unfold Hid;rw [hcz];exact Zen
    have HT1:Hid (w1.there w.heap.size (k*18) cz.toArray.size):=by unfold Hid;rw [hcz];exact HT.out
    clear hf1 hb1 hz HX HR HZ HF HB HT hBl hcz;go_wp2_with (refine wpList_store_mid rfl 125 (.tmp 21) (.tmp 20) rfl w.heap.size (k*18) cz.toArray (by simp [Act.eval,go_sem]) rfl HT1.out HZ1.out HC.out.one ?_);go_roundw
    case rel=>
     exact⟨k+1,by go_num,by omega,Below.sets Zl_ _ _ hB.out,HST.out⟩
    case measure=>simp [intOf];omega
  · go_wp2
    go_ret;exact⟨_,rfl,hb,hf.done (by omega) HM.out⟩
structure Dr where
 nm:Zy_
 up:Bool
 vw:Bk
 sl:List Sl
def Zgb (D:Dr):Prop:=Zbx D.vw∧Zh4 D.sl
structure Zpp (lo:Nat) (w:World) (ov gv lv pv sv:Value) (D:Dr):Prop where
 bk:ZaH lo w ov gv lv pv D.vw
 ls:ZcD lo w sv D.sl
 sz:D.nm.size≤maxLen
theorem ZaH.setDr {lo:Nat} {w:World} {ov gv lv pv:Value} {B:Bk} (h:ZaH lo w ov gv lv pv B) {p:Addr} (hp:p.block < lo) (u:Value):ZaH lo (w.setCell p u) ov gv lv pv B:=⟨h.obs.set hp u,h.grs.set hp u,h.les.set hp u,h.pus.set hp u⟩
theorem Zpp.below {lo:Nat} {w w':World} {ov gv lv pv sv:Value} {D:Dr} (h:Zpp lo w ov gv lv pv sv D) (hb:Zw_ w w'):Zpp lo w' ov gv lv pv sv D:=⟨h.bk.below hb,h.ls.below hb,h.sz⟩
theorem Zpp.mono {lo lo':Nat} {w:World} {ov gv lv pv sv:Value} {D:Dr} (h:Zpp lo w ov gv lv pv sv D) (hl:lo'≤lo):Zpp lo' w ov gv lv pv sv D:=⟨h.bk.mono hl,h.ls.mono hl,h.sz⟩
theorem Zpp.set {lo:Nat} {w:World} {ov gv lv pv sv:Value} {D:Dr} (h:Zpp lo w ov gv lv pv sv D) {p:Addr} (hp:p.block < lo) (u:Value):Zpp lo (w.setCell p u) ov gv lv pv sv D:=⟨h.bk.setDr hp u,h.ls.set hp u,h.sz⟩
def drL (D:Dr) (a0:Option Addr) (k0:Nat) (a1:Option Addr) (k1:Nat) (a2:Option Addr) (k2:Nat) (a3:Option Addr) (k3:Nat) (a4:Option Addr) (k4:Nat):List Value:=[.string D.nm,.bool D.up,.int .i64 D.vw.now,.int .i64 D.vw.tick,.int .i64 D.vw.given,.slice a0 D.vw.os.length k0,.slice a1 D.vw.gs.length k1,.slice a2 D.vw.ls.length k2,.slice a3 D.vw.ps.length k3,.slice a4 D.sl.length k4]
def DrC (lo:Nat) (w:World) (cs:List Value) (D:Dr):Prop:=
 ∃ a0 k0 a1 k1 a2 k2 a3 k3 a4 k4,cs=drL D a0 k0 a1 k1 a2 k2 a3 k3 a4 k4∧Zpp lo w (.slice a0 D.vw.os.length k0) (.slice a1 D.vw.gs.length k1) (.slice a2 D.vw.ls.length k2) (.slice a3 D.vw.ps.length k3) (.slice a4 D.sl.length k4) D
theorem DrC.below {lo:Nat} {w w':World} {cs:List Value} {D:Dr} (h:DrC lo w cs D) (hb:Zw_ w w'):DrC lo w' cs D:=by
 obtain⟨a0,k0,a1,k1,a2,k2,a3,k3,a4,k4,h1,h2⟩:=h;exact⟨a0,k0,a1,k1,a2,k2,a3,k3,a4,k4,h1,h2.below hb⟩
theorem DrC.mono {lo lo':Nat} {w:World} {cs:List Value} {D:Dr} (h:DrC lo w cs D) (hl:lo'≤lo):DrC lo' w cs D:=by
 obtain⟨a0,k0,a1,k1,a2,k2,a3,k3,a4,k4,h1,h2⟩:=h;exact⟨a0,k0,a1,k1,a2,k2,a3,k3,a4,k4,h1,h2.mono hl⟩
theorem DrC.set {lo:Nat} {w:World} {cs:List Value} {D:Dr} (h:DrC lo w cs D) {p:Addr} (hp:p.block < lo) (u:Value):DrC lo (w.setCell p u) cs D:=by
 obtain⟨a0,k0,a1,k1,a2,k2,a3,k3,a4,k4,h1,h2⟩:=h;exact⟨a0,k0,a1,k1,a2,k2,a3,k3,a4,k4,h1,h2.set hp u⟩
theorem DrC.len {lo:Nat} {w:World} {cs:List Value} {D:Dr} (h:DrC lo w cs D):cs.length=10:=by
 obtain⟨a0,k0,a1,k1,a2,k2,a3,k3,a4,k4,h1,h2⟩:=h;rw [h1];rfl
theorem DrC.one {lo:Nat} {w:World} {cs:List Value} {D:Dr} (h:DrC lo w cs D):Array.all cs.toArray (·.oneCell')=true:=by
 obtain⟨a0,k0,a1,k1,a2,k2,a3,k3,a4,k4,h1,h2⟩:=h;rw [h1];unfold drL;simp [Value.oneCell']
theorem ZsU (lo:Nat) (cs:List Value) (D:Dr) (left:Int) (w:World) (h0:0≤left) (h1:left≤1048576) (h:DrC lo w cs D) :
 Calls prog 52 #[.agg cs.toArray,.int .i64 left] w
  fun e w'=>∃ r:Int,e=.returned (.int .i64 r)∧Zw_ w w'∧-1≤r∧r≤left∧(0≤r→Zgb D):=by
 obtain⟨a0,k0,a1,k1,a2,k2,a3,k3,a4,k4,rfl,h⟩:=h
 show Calls prog 52 #[.agg #[.string D.nm,.bool D.up,.int .i64 D.vw.now,.int .i64 D.vw.tick,.int .i64 D.vw.given,.slice a0 D.vw.os.length k0,.slice a1 D.vw.gs.length k1,.slice a2 D.vw.ls.length k2,.slice a3 D.vw.ps.length k3,.slice a4 D.sl.length k4],.int .i64 left] w _
 have HL:=Zab h;have y1:=h.sz;unfold maxLen at y1;clear h
 by_cases n1:left - (D.nm.size:Int) < 0
 · go_enter func52,ntmps52
   go_wp2;go_ret;exact⟨-1,rfl,Zac _ _,by omega,by omega,fun h=>by omega⟩
 go_enter func52,ntmps52;go_wp2_with fail;generalize hWa:w.alloc _=Wa;have HB0:Hid (Zw_ w Wa):=by rw [← hWa];exact Zac _ _
 have FX:Hid (Box Wa w.heap.size #[.string D.nm,.bool D.up,.int .i64 D.vw.now,.int .i64 D.vw.tick,.int .i64 D.vw.given,.slice a0 D.vw.os.length k0,.slice a1 D.vw.gs.length k1,.slice a2 D.vw.ls.length k2,.slice a3 D.vw.ps.length k3,.slice a4 D.sl.length k4]):=by rw [← hWa];exact Box.new _ _ _ _ rfl
 clear hWa;refine (Zfz lo _ _ _ _ D.vw _ _ (by omega) (by omega) (HL.out.below HB0.out).bk).mono ?_;rintro e w1 ⟨q1,rfl,hb1,p1,p2,p3⟩;have Q1:=Zab p3;have HB1:Hid (Zw_ w w1):=HB0.out.trans (hb1.mono HB0.out.size);replace FX:=Zab (FX.out.on hb1);clear p3 hb1 HB0
 by_cases m1:q1 < 0
 · go_wp2
   go_ret;exact⟨-1,rfl,HB1.out,by omega,by omega,fun h=>by omega⟩
 have c17:=FX.out.cell 9;simp at c17;go_wp2_with fail;clear c17;refine (Zov lo _ D.sl _ _ (by omega) (by omega) (HL.out.below HB1.out).ls).mono ?_;rintro e w2 ⟨q2,rfl,hb2,p4,p5,p6⟩;have Q2:=Zab p6;have HB2:Hid (Zw_ w w2):=HB1.out.trans (hb2.mono HB1.out.size);clear p6 hb2 HB1
 by_cases m2:q2 < 0
 · go_wp2
   go_ret;exact⟨-1,rfl,HB2.out,by omega,by omega,fun h=>by omega⟩
 go_wp2;go_ret;exact⟨_,rfl,HB2.out,by omega,by omega,fun h=>⟨Q1.out (by omega),Q2.out (by omega)⟩⟩
theorem Zss (lo lo':Nat) (cs cs':List Value) (D:Dr) (w:World) (h:DrC lo w cs D) (h':DrC lo' w cs' D) :
 Calls prog 72 #[.agg cs.toArray,.agg cs'.toArray] w fun e w'=>e=.returned (.bool true)∧Zw_ w w':=by
 obtain⟨a0,k0,a1,k1,a2,k2,a3,k3,a4,k4,rfl,h⟩:=h;obtain⟨d0,e0,d1,e1,d2,e2,d3,e3,d4,e4,rfl,h'⟩:=h'
 show Calls prog 72 #[.agg #[.string D.nm,.bool D.up,.int .i64 D.vw.now,.int .i64 D.vw.tick,.int .i64 D.vw.given,.slice a0 D.vw.os.length k0,.slice a1 D.vw.gs.length k1,.slice a2 D.vw.ls.length k2,.slice a3 D.vw.ps.length k3,.slice a4 D.sl.length k4],.agg #[.string D.nm,.bool D.up,.int .i64 D.vw.now,.int .i64 D.vw.tick,.int .i64 D.vw.given,.slice d0 D.vw.os.length e0,.slice d1 D.vw.gs.length e1,.slice d2 D.vw.ls.length e2,.slice d3 D.vw.ps.length e3,.slice d4 D.sl.length e4]] w _
 have HL:=Zab h;have HR:=Zab h';clear h h';go_enter func72,ntmps72;go_wp2_with fail;generalize hWa:(World.alloc (w.alloc _) _)=Wa;have HB0:Hid (Zw_ w Wa):=by rw [← hWa];exact (Zac w _).alloc (by simp) _
 have HX0:Hid (Box Wa w.heap.size #[.string D.nm,.bool D.up,.int .i64 D.vw.now,.int .i64 D.vw.tick,.int .i64 D.vw.given,.slice a0 D.vw.os.length k0,.slice a1 D.vw.gs.length k1,.slice a2 D.vw.ls.length k2,.slice a3 D.vw.ps.length k3,.slice a4 D.sl.length k4]):=by rw [← hWa];exact (Box.new _ _ _ _ rfl).on (Zac _ _)
 have HY0:Hid (Box Wa (w.heap.size+1) #[.string D.nm,.bool D.up,.int .i64 D.vw.now,.int .i64 D.vw.tick,.int .i64 D.vw.given,.slice d0 D.vw.os.length e0,.slice d1 D.vw.gs.length e1,.slice d2 D.vw.ls.length e2,.slice d3 D.vw.ps.length e3,.slice d4 D.sl.length e4]):=by rw [← hWa];exact Box.new _ _ _ _ (by simp)
 clear hWa;refine (ZeW lo _ _ _ _ D.vw _ lo' _ _ _ _ (HL.out.below HB0.out).bk (HR.out.below HB0.out).bk).mono ?_;rintro e w1 ⟨rfl,hb1⟩;have HX1:=Zab (HX0.out.on hb1);have HY1:=Zab (HY0.out.on hb1);have HB1:Hid (Zw_ w w1):=HB0.out.trans (hb1.mono HB0.out.size);clear hb1 HB0 HX0 HY0;have c1:=HX1.out.cell 9;have e1:=HY1.out.cell 9;simp at c1 e1;go_wp2_with fail;clear c1 e1;refine (ZlU lo lo' _ _ D.sl _ (HL.out.below HB1.out).ls (HR.out.below HB1.out).ls).mono ?_;rintro e w2 ⟨rfl,hb2⟩;have HB2:Hid (Zw_ w w2):=HB1.out.trans (hb2.mono HB1.out.size);clear hb2 HB1 HX1 HY1;go_wp2;go_ret;exact⟨rfl,HB2.out⟩
theorem ZsX (lo:Nat) (cs:List Value) (D:Dr) (w:World) (h:DrC lo w cs D) (hn:Zgb D) :
 Calls prog 63 #[.agg cs.toArray] w
  fun e w'=>∃ cs',e=.returned (.agg cs'.toArray)∧Zw_ w w'∧DrC w.heap.size w' cs' D:=by
 obtain⟨a0,k0,a1,k1,a2,k2,a3,k3,a4,k4,rfl,h⟩:=h
 show Calls prog 63 #[.agg #[.string D.nm,.bool D.up,.int .i64 D.vw.now,.int .i64 D.vw.tick,.int .i64 D.vw.given,.slice a0 D.vw.os.length k0,.slice a1 D.vw.gs.length k1,.slice a2 D.vw.ls.length k2,.slice a3 D.vw.ps.length k3,.slice a4 D.sl.length k4]] w _
 have HL:=Zab h;obtain⟨hn0,hn1⟩:=hn;clear h;go_enter func63,ntmps63;go_wp2_with fail
 obtain⟨wz,hwz,HX0,HR0,HO0,HB0⟩:∃ wz,wz=((w.alloc (.cells #[.string D.nm,.bool D.up,.int .i64 D.vw.now,.int .i64 D.vw.tick,.int .i64 D.vw.given,.slice a0 D.vw.os.length k0,.slice a1 D.vw.gs.length k1,.slice a2 D.vw.ls.length k2,.slice a3 D.vw.ps.length k3,.slice a4 D.sl.length k4] 115)).alloc (.cells #[.string ⟨#[]⟩,.bool false,.int .i64 0,.int .i64 0,.int .i64 0,.slice none 0 0,.slice none 0 0,.slice none 0 0,.slice none 0 0,.slice none 0 0] 71)).alloc (.cells #[.string D.nm,.bool D.up,.int .i64 0,.int .i64 0,.int .i64 0,.slice none 0 0,.slice none 0 0,.slice none 0 0,.slice none 0 0,.slice none 0 0] 71)∧
  Hid (Box wz w.heap.size #[.string D.nm,.bool D.up,.int .i64 D.vw.now,.int .i64 D.vw.tick,.int .i64 D.vw.given,.slice a0 D.vw.os.length k0,.slice a1 D.vw.gs.length k1,.slice a2 D.vw.ls.length k2,.slice a3 D.vw.ps.length k3,.slice a4 D.sl.length k4])∧Hid (Box wz (w.heap.size+1) #[.string ⟨#[]⟩,.bool false,.int .i64 0,.int .i64 0,.int .i64 0,.slice none 0 0,.slice none 0 0,.slice none 0 0,.slice none 0 0,.slice none 0 0])∧Hid (Box wz (w.heap.size+1+1) #[.string D.nm,.bool D.up,.int .i64 0,.int .i64 0,.int .i64 0,.slice none 0 0,.slice none 0 0,.slice none 0 0,.slice none 0 0,.slice none 0 0])∧Hid (Zw_ w wz):=
  ⟨_,rfl,((Box.new w _ _ _ rfl).on (Zac _ _)).on (Zac _ _),(Box.new _ _ _ _ (by simp)).on (Zac _ _),Box.new _ _ _ _ (by simp),((Zac _ _).trans ((Zac _ _).mono (by simp))).trans ((Zac _ _).mono (by simp;omega))⟩
 rw [← hwz];clear hwz;generalize wz=v0 at*;have hz0:w.heap.size+3≤v0.heap.size:=by have:=HO0.out.lt;omega
 refine (ZdG lo _ _ _ _ D.vw _ (HL.out.below HB0.out).bk hn0).mono ?_;rintro e w0 ⟨b0,m0,b1,m1,b2,m2,b3,m3,rfl,hb0,hs0⟩;have GX:=Zab (HX0.out.on hb0);have GR:=Zab (HR0.out.on hb0);have GO:=Zab (HO0.out.on hb0);have GB:=Zab (HB0.out.trans (hb0.mono HB0.out.size));have GN:=Zab (hs0.mono hz0);clear hb0 hs0 HX0 HR0 HO0 HB0 hz0;have o0:=GO.out.cell;have f0:=GO.out.free;have x1:=GX.out.cell 9;simp at x1;go_wp2_with fail;clear o0 f0 x1
 obtain⟨v1,hwq,HX1,HR1,HO1,HB1,HS0⟩:∃ wq,wq=(((((((w0.setCell ⟨w.heap.size+1+1,2,none⟩ (.int .i64 D.vw.now)).setCell ⟨w.heap.size+1+1,3,none⟩ (.int .i64 D.vw.tick)).setCell ⟨w.heap.size+1+1,4,none⟩ (.int .i64 D.vw.given)).setCell ⟨w.heap.size+1+1,5,none⟩ (.slice b0 D.vw.os.length m0)).setCell ⟨w.heap.size+1+1,6,none⟩ (.slice b1 D.vw.gs.length m1)).setCell ⟨w.heap.size+1+1,7,none⟩ (.slice b2 D.vw.ls.length m2)).setCell ⟨w.heap.size+1+1,8,none⟩ (.slice b3 D.vw.ps.length m3))∧
  Hid (Box wq w.heap.size #[.string D.nm,.bool D.up,.int .i64 D.vw.now,.int .i64 D.vw.tick,.int .i64 D.vw.given,.slice a0 D.vw.os.length k0,.slice a1 D.vw.gs.length k1,.slice a2 D.vw.ls.length k2,.slice a3 D.vw.ps.length k3,.slice a4 D.sl.length k4])∧Hid (Box wq (w.heap.size+1) #[.string ⟨#[]⟩,.bool false,.int .i64 0,.int .i64 0,.int .i64 0,.slice none 0 0,.slice none 0 0,.slice none 0 0,.slice none 0 0,.slice none 0 0])∧Hid (Box wq (w.heap.size+1+1) #[.string D.nm,.bool D.up,.int .i64 D.vw.now,.int .i64 D.vw.tick,.int .i64 D.vw.given,.slice b0 D.vw.os.length m0,.slice b1 D.vw.gs.length m1,.slice b2 D.vw.ls.length m2,.slice b3 D.vw.ps.length m3,.slice none 0 0])∧Hid (Zw_ w wq)∧Hid (ZaH (w.heap.size+3) wq (.slice b0 D.vw.os.length m0) (.slice b1 D.vw.gs.length m1) (.slice b2 D.vw.ls.length m2) (.slice b3 D.vw.ps.length m3) D.vw):=
  ⟨_,rfl,(((((((GX.out.setFar (by simp only [];omega) _).setFar (by simp only [];omega) _).setFar (by simp only [];omega) _).setFar (by simp only [];omega) _).setFar (by simp only [];omega) _).setFar (by simp only [];omega) _).setFar (by simp only [];omega) _),(((((((GR.out.setFar (by simp only [];omega) _).setFar (by simp only [];omega) _).setFar (by simp only [];omega) _).setFar (by simp only [];omega) _).setFar (by simp only [];omega) _).setFar (by simp only [];omega) _).setFar (by simp only [];omega) _),(((((((GO.out.set (k:=2) (.int .i64 D.vw.now) (by simp)).set (k:=3) (.int .i64 D.vw.tick) (by simp)).set (k:=4) (.int .i64 D.vw.given) (by simp)).set (k:=5) (.slice b0 D.vw.os.length m0) (by simp)).set (k:=6) (.slice b1 D.vw.gs.length m1) (by simp)).set (k:=7) (.slice b2 D.vw.ls.length m2) (by simp)).set (k:=8) (.slice b3 D.vw.ps.length m3) (by simp)),(((((((GB.out.setCell (by simp only [];omega) _).setCell (by simp only [];omega) _).setCell (by simp only [];omega) _).setCell (by simp only [];omega) _).setCell (by simp only [];omega) _).setCell (by simp only [];omega) _).setCell (by simp only [];omega) _),(((((((GN.out.setDr (by simp only [];omega) _).setDr (by simp only [];omega) _).setDr (by simp only [];omega) _).setDr (by simp only [];omega) _).setDr (by simp only [];omega) _).setDr (by simp only [];omega) _).setDr (by simp only [];omega) _)⟩
 rw [← hwq];clear hwq GX GR GO GB GN;have hz1:w.heap.size+3≤v1.heap.size:=by have:=HO1.out.lt;omega
 refine (ZoN lo _ D.sl _ (HL.out.below HB1.out).ls hn1).mono ?_;rintro e w1 ⟨u4,rfl,hb1,hs1⟩;obtain⟨b4,m4,rfl⟩:=hs1.form;have GX:=Zab (HX1.out.on hb1);have GR:=Zab (HR1.out.on hb1);have GO:=Zab (HO1.out.on hb1);have GB:=Zab (HB1.out.trans (hb1.mono HB1.out.size));have GN:=Zab (hs1.mono hz1);have G0:=Zab (HS0.out.below hb1);clear hb1 hs1 HX1 HR1 HO1 HB1 hz1 HS0;have o0:=GO.out.cell;have f0:=GO.out.free;have r0:=GR.out.cell;have g0:=GR.out.free;go_wp2;refine bodyPost_ret (v:=.agg #[.string D.nm,.bool D.up,.int .i64 D.vw.now,.int .i64 D.vw.tick,.int .i64 D.vw.given,.slice b0 D.vw.os.length m0,.slice b1 D.vw.gs.length m1,.slice b2 D.vw.ls.length m2,.slice b3 D.vw.ps.length m3,.slice b4 D.sl.length m4]) (by simp [results,results63,go_sem,r0]) rfl ⟨drL D b0 m0 b1 m1 b2 m2 b3 m3 b4 m4,rfl,?_,b0,m0,b1,m1,b2,m2,b3,m3,b4,m4,rfl,?_,?_,HL.out.sz⟩
 · repeat (refine Below.setCell ?_ (by simp only [];omega) _)
   exact GB.out
 · refine ZaH.mono (lo:=w.heap.size+3) ?_ (by omega)
   repeat (refine ZaH.setDr ?_ (by simp only [];omega) _)
   exact G0.out
 · refine ZcD.mono (lo:=w.heap.size+3) ?_ (by omega)
   repeat (refine ZcD.set ?_ (by simp only [];omega) _)
   exact GN.out
theorem DrC.sets {lo b:Nat} (hb:b < lo) {cs:List Value} {x:Dr}:∀ (vs:List Value) (o:Nat) {w:World},DrC lo w cs x→DrC lo (w.setCells b o vs) cs x
 | [],_,_,h=>h
 | v :: vs,o,_,h=>DrC.sets hb vs (o+1) (h.set hb v)
theorem Zdj:(prog.info? 71).map (·.size)=some 10:=by kernel_rfl
theorem ZkU:(prog.info? 115).map (·.size)=some 10:=by kernel_rfl
def Zcv (lo:Nat) (w:World) (v:Value) (Xl:List Dr):Prop:=
 (∃ (a:Option Addr) (cap:Nat),v=.slice a 0 cap∧Xl=[])∨
 ∃ (b off cap:Nat),v=.slice (some ⟨b,off,none⟩) Xl.length cap∧Xl≠[]∧Xl.length≤maxLen∧b < w.heap.size∧lo≤b∧Xl.length≤cap∧
  ∀ i (h:i < Xl.length),∃ cs,w.rangeAt b (off+i*10) cs∧DrC lo w cs Xl[i]
theorem Zcv.below {lo:Nat} {w w':World} {v:Value} {Xl:List Dr} (h:Zcv lo w v Xl) (hb:Zw_ w w'):Zcv lo w' v Xl:=by
 rcases h with h | ⟨b,off,cap,h1,h2,h3,h4,h5,h6,h7⟩
 · exact Or.inl h
 · refine Or.inr ⟨b,off,cap,h1,h2,h3,Zk_ h4 hb.size,h5,h6,fun i hi=>?_⟩
   obtain⟨cs,hr,hc⟩:=h7 i hi;exact⟨cs,Zaq hr hb h4,hc.below hb⟩
theorem Zcv.mono {lo lo':Nat} {w:World} {v:Value} {Xl:List Dr} (h:Zcv lo w v Xl) (hl:lo'≤lo):Zcv lo' w v Xl:=by
 rcases h with h | ⟨b,off,cap,h1,h2,h3,h4,h5,h6,h7⟩
 · exact Or.inl h
 · refine Or.inr ⟨b,off,cap,h1,h2,h3,h4,Nat.le_trans hl h5,h6,fun i hi=>?_⟩
   obtain⟨cs,hr,hc⟩:=h7 i hi;exact⟨cs,hr,hc.mono hl⟩
theorem Zcv.set {lo:Nat} {w:World} {v:Value} {Xl:List Dr} (h:Zcv lo w v Xl) {p:Addr} (hp:p.block < lo) (u:Value):Zcv lo (w.setCell p u) v Xl:=by
 rcases h with h | ⟨b,off,cap,h1,h2,h3,h4,h5,h6,h7⟩
 · exact Or.inl h
 · refine Or.inr ⟨b,off,cap,h1,h2,h3,by simpa [World.setCell] using h4,h5,h6,fun i hi=>?_⟩
   obtain⟨cs,hr,hc⟩:=h7 i hi;exact⟨cs,Zn5 hr (by omega) u,hc.set hp u⟩
theorem Zcv.form {lo:Nat} {w:World} {v:Value} {Xl:List Dr} (h:Zcv lo w v Xl):∃ a cap,v=.slice a Xl.length cap:=by
 rcases h with ⟨a,cap,h,rfl⟩ | ⟨b,off,cap,h,_⟩
 · exact⟨a,cap,h⟩
 · exact⟨_,cap,h⟩
theorem Zcv.max {lo:Nat} {w:World} {v:Value} {Xl:List Dr} (h:Zcv lo w v Xl):Xl.length≤maxLen:=by
 rcases h with ⟨a,cap,h,rfl⟩ | ⟨b,off,cap,h,_,h3,_⟩
 · exact Nat.zero_le _
 · exact h3
theorem Zcv.full' {lo:Nat} {w:World} {a:Option Addr} {n cap:Nat} {Xl:List Dr} (h:Zcv lo w (.slice a n cap) Xl) (hL:0 < Xl.length) :
 ∃ b off,a=some ⟨b,off,none⟩∧b < w.heap.size∧lo≤b∧∀ i (h:i < Xl.length),∃ cs,w.rangeAt b (off+i*10) cs∧DrC lo w cs Xl[i]:=by
 rcases h with ⟨a',cap',h,rfl⟩ | ⟨b',off',cap',h1,h2,h3,h4,h5,h6,h7⟩
 · simp at hL
 · injection h1 with e1 e2 e3
   exact⟨b',off',e1,h4,h5,h7⟩
def ZhX (Xl:List Dr):Prop:=Xl.length≤1048576∧∀ i (h:i < Xl.length),Zgb Xl[i]
def Zs6 (Xl:List Dr) (left r:Int):Prop:= -1≤r∧r≤left∧(0≤r→ZhX Xl)
theorem Zom (lo:Nat) (v:Value) (Xl:List Dr) (left:Int) (w:World) (h0:0≤left) (h1:left≤1048576) (hv:Zcv lo w v Xl) :
 Calls prog 21 #[v,.int .i64 left] w fun e w'=>∃ r:Int,e=.returned (.int .i64 r)∧Zw_ w w'∧Zs6 Xl left r:=by
 rcases hv with ⟨a,cap,rfl,rfl⟩ | ⟨b,off,cap,rfl,hne,hm,hbw,_,_,hc⟩
 · go_enter func21,ntmps21
   go_wp2
   go_loop [1,5] (fun l i=>∃ r:Int,l=.int .i64 r∧0≤r∧r≤left∧i=.int .i64 0) (fun _ _=>0)
   case atStart=>exact⟨_,rfl,by omega,by omega,rfl⟩
   case round=>
    obtain⟨r,rfl,hr0,hr1,rfl⟩:=hrel;go_wp2;go_ret;exact⟨r,rfl,Below.refl _ _,by omega,by omega,fun _=>⟨by simp,fun i h=>by simp at h⟩⟩
 · unfold maxLen at hm
   by_cases hle:(Xl.length:Int)≤left
   · go_enter func21,ntmps21
     go_wp2
     go_loopw [1,5] (fun l i wr=>∃ (r:Int) (k:Nat),l=.int .i64 r∧0≤r∧r≤left∧i=.int .i64 k∧k≤Xl.length∧Zw_ w wr∧∀ j (hj:j < Xl.length),j < k→Zgb Xl[j]) (fun _ i _=>Xl.length - (intOf i).toNat)
     case atStart=>exact⟨_,0,rfl,by omega,by omega,rfl,by omega,Below.refl _ _,fun j _ h=>by omega⟩
     case round=>
      obtain⟨r,k,rfl,hr0,hr1,rfl,hk,hb,hall⟩:=hrel;have HA:=Zab hall;clear hall
      by_cases hlt:k < Xl.length
      · obtain⟨cs,hr,hx⟩:=hc k hlt
        have HX:=Zab (hx.below hb);have HR:=Zab (Zaq hr hb hbw);have HZ:Hid ((prog.info? 115).map (·.size)=some cs.length):=by unfold Hid;rw [hx.len];exact ZkU
        clear hr hx;go_wp2_with (refine wpList_load_mid rfl 115 (.tmp 20) rfl b (off+k*10) rfl cs _ HR.out underlying115 rfl HZ.out ?_);refine (ZsU lo _ _ _ _ hr0 (by omega) HX.out).mono ?_;rintro e w1 ⟨r1,rfl,hb1,q0,q1,q2⟩;have HQ2:=Zab q2;have hB:Hid (Zw_ w w1):=hb.trans (hb1.mono hb.size);clear hb1 hb q2 HX HR HZ
        by_cases hneg:r1 < 0
        · go_wp2
          go_ret;exact⟨-1,rfl,hB.out,by omega,by omega,fun h=>by omega⟩
        · have HL:Hid (Zgb Xl[k]):=HQ2.out (by omega)
          clear HQ2;go_wp2;go_roundw
          case rel=>exact⟨_,k+1,rfl,by omega,by omega,by go_num,by omega,hB.out,fun j hj h=>by
                     by_cases e:j=k
                     · subst e;exact HL.out
                     · exact HA.out j hj (by omega)⟩
          case measure=>simp [intOf];omega
      · go_wp2
        go_ret;exact⟨r,rfl,hb,by omega,by omega,fun _=>⟨by omega,fun j hj=>HA.out j hj (by omega)⟩⟩
   · go_enter func21,ntmps21
     go_wp2;go_ret;exact⟨-1,rfl,Below.refl _ _,by omega,by omega,fun h=>by omega⟩
theorem ZlL (lo lo':Nat) (v v':Value) (Xl:List Dr) (w:World) (hv:Zcv lo w v Xl) (hv':Zcv lo' w v' Xl) :
 Calls prog 33 #[v,v'] w fun e w'=>e=.returned (.bool true)∧Zw_ w w':=by
 have hm:=hv.max;unfold maxLen at hm;have HV:=Zab hv;have HW:=Zab hv';obtain⟨a,cap,rfl⟩:=hv.form;obtain⟨a',cap',rfl⟩:=hv'.form;clear hv hv';go_enter func33,ntmps33;go_wp2
 go_loopw [5] (fun i wr=>∃ k:Nat,i=.int .i64 k∧k≤Xl.length∧Zw_ w wr) (fun i _=>Xl.length - (intOf i).toNat)
 case atStart=>exact⟨0,rfl,by omega,Below.refl _ _⟩
 case round=>
  obtain⟨k,rfl,hk,hb⟩:=hrel
  by_cases hlt:k < Xl.length
  · obtain⟨b,off,rfl,hbw,-,hc⟩:=HV.out.full' (by omega)
    obtain⟨b',off',rfl,hbw',-,hc'⟩:=HW.out.full' (by omega);obtain⟨cs,hr,hx⟩:=hc k hlt;obtain⟨cs',hr',hx'⟩:=hc' k hlt;have HX:=Zab (hx.below hb);have HX':=Zab (hx'.below hb);have HB:=Zab hb;have hz:(prog.info? 71).map (·.size)=some cs.length:=by rw [hx.len];exact Zdj
    have hz':(prog.info? 71).map (·.size)=some cs'.length:=by rw [hx'.len];exact Zdj
    have hRr:Hid (wr.rangeAt b (off+k*10) cs∧b < wr.heap.size):=⟨Zaq hr hb hbw,Zk_ hbw hb.size⟩;have hRr':Hid (wr.rangeAt b' (off'+k*10) cs'∧b' < wr.heap.size):=⟨Zaq hr' hb hbw',Zk_ hbw' hb.size⟩;have i0:(0:Int)≤(k:Int):=by omega
    have i1:(k:Int) < (Xl.length:Int):=by omega
    have KP:Hid (∀ W,Below wr.heap.size wr W→W.rangeAt b (off+k*10) cs∧W.rangeAt b' (off'+k*10) cs'):=fun W hW=>⟨Zaq hRr.out.1 hW hRr.out.2,Zaq hRr'.out.1 hW hRr'.out.2⟩
    have HZ1:=Zab hz;have HZ2:=Zab hz';clear hc hc' hr hr' hx hx' hb hz hz' hRr hRr';go_wp2;refine wp_region_held_drew (S:=fun W=>W.rangeAt b (off+k*10) cs∧W.rangeAt b' (off'+k*10) cs') (by kernel_rfl) (KP.out _ (Zb_.drew)) (fun hHeld=>?_);refine wpAnyH_take (i:=0) (v:=.slice (some ⟨b,off,none⟩) Xl.length cap) rfl (by kernel_rfl) (by kernel_rfl) (by kernel_rfl) (fun _ _ _ h=>h) (Or.inl ⟨by rfl,fun W hW=>by go_simp⟩) hHeld ?_;simp only [Act.put,List.setIfInBounds_toArray];refine wpAnyH_take (i:=1) (v:=.int .i64 k) rfl (by kernel_rfl) (by kernel_rfl) (by kernel_rfl) (fun _ _ _ h=>h) (Or.inl ⟨by rfl,fun W hW=>by go_simp⟩) hHeld ?_;simp only [Act.put];refine wpAnyH_take (i:=2) (v:=.pointer (some ⟨b,off+k*10,none⟩)) rfl (by kernel_rfl) (by kernel_rfl) (by kernel_rfl) (fun _ _ _ h=>h) (Or.inl ⟨by rfl,fun W hW=>by go_simp⟩) hHeld ?_;simp only [Act.put]
    refine wpAnyH_take (i:=3) rfl (by kernel_rfl) (by kernel_rfl) (by kernel_rfl) (fun _ _ _ h=>h) (yieldsIf_load_mid (by rfl) 71 (.tmp 19) rfl b (off+k*10) rfl cs _ (fun _ h=>h.1) underlying71 rfl HZ1.out) hHeld ?_;simp only [Act.put];refine wpAnyH_take (i:=4) (v:=(.slice (some ⟨b',off',none⟩) Xl.length cap')) rfl (by kernel_rfl) (by kernel_rfl) (by kernel_rfl) (fun _ _ _ h=>h) (Or.inl ⟨by rfl,fun W hW=>by go_simp⟩) hHeld ?_;simp only [Act.put];refine wpAnyH_take (i:=5) (v:=.int .i64 k) rfl (by kernel_rfl) (by kernel_rfl) (by kernel_rfl) (fun _ _ _ h=>h) (Or.inl ⟨by rfl,fun W hW=>by go_simp⟩) hHeld ?_;simp only [Act.put];refine wpAnyH_take (i:=6) (v:=(.pointer (some ⟨b',off'+k*10,none⟩))) rfl (by kernel_rfl) (by kernel_rfl) (by kernel_rfl) (fun _ _ _ h=>h) (Or.inl ⟨by rfl,fun W hW=>by go_simp⟩) hHeld ?_;simp only [Act.put]
    refine wpAnyH_take (i:=7) rfl (by kernel_rfl) (by kernel_rfl) (by kernel_rfl) (fun _ _ _ h=>h) (yieldsIf_load_mid (by rfl) 71 (.tmp 23) rfl b' (off'+k*10) rfl cs' _ (fun _ h=>h.2) underlying71 rfl HZ2.out) hHeld ?_;simp only [Act.put];refine wpAnyH_ready (rs:=[8]) (by kernel_rfl) (by simp) ?_;refine AllReadyH.cons rfl (fun K hK=>?_) AllReadyH.nil
    go_simp
    refine (Zss lo lo' _ _ _ _ (HX.out.below (Zb_.drew)) (HX'.out.below (Zb_.drew))).mono ?_;rintro e w1 ⟨rfl,hb1⟩;have HC1:Hid (Below wr.heap.size wr w1):=bt (Zb_.drew) hb1;have hB:Hid (Zw_ w w1):=bt HB.out HC1.out;clear hb1
    try go_wp2_with fail
    refine hK.out _ _ (KP.out _ HC1.out) (fun hHeld=>?_);clear hK K
    try simp only [Act.put,List.setIfInBounds_toArray,List.set_cons_zero,List.set_cons_succ]
    refine wpAnyH_take (i:=9) (v:=.bool false) rfl (by kernel_rfl) (by kernel_rfl) (by kernel_rfl) (fun _ _ _ h=>h) (Or.inl ⟨by rfl,fun W hW=>by go_simp⟩) hHeld ?_;simp only [Act.put,List.setIfInBounds_toArray];refine wpAnyH_done (by kernel_rfl) ?_ _;go_wp2;go_roundw
    case rel=>exact⟨k+1,by go_num,by omega,hB.out⟩
    case measure=>simp [intOf];omega
  · go_wp2
    go_ret;exact⟨rfl,hb⟩
def ZcB (wr:World) (B:Nat) (Xl:List Dr) (k:Nat):Prop:=
 B < wr.heap.size∧wr.there B 0 (Xl.length*10)∧∀ i (h:i < Xl.length),i < k→∃ cs,wr.rangeAt B (i*10) cs∧DrC (B+1) wr cs Xl[i]
theorem ZcB.below {wr w1:World} {B:Nat} {Xl:List Dr} {k:Nat} (h:ZcB wr B Xl k) (hb:Below wr.heap.size wr w1):ZcB w1 B Xl k:=by
 obtain⟨h1,h2,h3⟩:=h;refine⟨Zk_ h1 hb.size,Zg0 h2 hb h1,fun i hi hik=>?_⟩;obtain⟨cs,hr,hc⟩:=h3 i hi hik;exact⟨cs,Zaq hr hb h1,hc.below hb⟩
theorem ZcB.step {w1:World} {B:Nat} {Xl:List Dr} {k:Nat} {cs:List Value} (h:ZcB w1 B Xl k) (hk:k < Xl.length) (hc:DrC (B+1) w1 cs Xl[k]) :
 ZcB (w1.setCells B (k*10) cs) B Xl (k+1):=by
 obtain⟨h1,h2,h3⟩:=h;have hl:=hc.len;refine⟨by rw [ZgV];exact h1,World.there_setCells h2 _ _ _,fun i hi hik=>?_⟩
 by_cases e:i=k
 · subst e
   exact⟨cs,World.rangeAt_setCells_same _ _ _ _ (by rw [hl];exact Zey h2 (by omega)),hc.sets (by omega) _ _⟩
 · obtain⟨cs',hr,hc'⟩:=h3 i hi (by omega)
   have hl':=hc'.len;exact⟨cs',World.rangeAt_setCells_apart hr _ _ _ (by omega),hc'.sets (by omega) _ _⟩
theorem ZcB.done {wr:World} {B:Nat} {Xl:List Dr} {k:Nat} (h:ZcB wr B Xl k) (hk:Xl.length≤k) (hm:Xl.length≤maxLen):Zcv B wr (.slice (some ⟨B,0,none⟩) Xl.length Xl.length) Xl:=by
 by_cases hne:Xl=[]
 · subst hne
   exact Or.inl ⟨_,_,rfl,rfl⟩
 obtain⟨h1,h2,h3⟩:=h;refine Or.inr ⟨B,0,Xl.length,rfl,hne,hm,h1,Nat.le_refl _,Nat.le_refl _,fun i hi=>?_⟩;obtain⟨cs,hr,hc⟩:=h3 i hi (by omega);rw [Nat.zero_add];exact⟨cs,hr,hc.mono (by omega)⟩
theorem Zq0:(prog.info? 71).map (fun i=>(i.zero,i.size,i.bytes))=some (some (.agg #[.string ⟨#[]⟩,.bool false,.int .i64 0,.int .i64 0,.int .i64 0,.slice none 0 0,.slice none 0 0,.slice none 0 0,.slice none 0 0,.slice none 0 0]),10,168):=by kernel_rfl
theorem ZcB.new (w:World) (Xl:List Dr) (z:Array Value):ZcB (w.alloc (.cells (madeCells z (Xl.length*10)) 71)) w.heap.size Xl 0:=
 ⟨by simp,Zex w _ _ _ (size_madeCells _ _),fun i _ h=>by omega⟩
theorem ZoF (lo:Nat) (v:Value) (Xl:List Dr) (w:World) (hv:Zcv lo w v Xl) (hn:ZhX Xl) :
 Calls prog 27 #[v] w fun e w'=>∃ v',e=.returned v'∧Zw_ w w'∧Zcv w.heap.size w' v' Xl:=by
 obtain⟨i0,hi,hz0,hz1,hz2⟩:=info_parts Zq0;have HSM:=Zab hn.2;have hn1:=hn.1;have HM:=Zab hv.max;have HV:=Zab hv;obtain⟨a,cap,rfl⟩:=hv.form;clear hn hv
 have hmk:∀ u:World,(Instr.makeSlice 51 (.int .i64 (Xl.length:Int)) (.int .i64 (Xl.length:Int))).run prog u=.ok (.slice (some ⟨u.heap.size,0,none⟩) Xl.length Xl.length) (u.alloc (.cells (madeCells (Value.cells (.agg #[.string ⟨#[]⟩,.bool false,.int .i64 0,.int .i64 0,.int .i64 0,.slice none 0 0,.slice none 0 0,.slice none 0 0,.slice none 0 0,.slice none 0 0])) (Xl.length*10)) 71)):=fun u=>by
  have h:=run_make (P:=prog) u 51 71 i0 _ underlying51 hi hz0 .i64 .i64 Xl.length Xl.length (by omega) (by omega) (by rw [hz2];omega) (by omega);rw [hz1] at h
  simpa using h
 clear hi hz0 hz1 hz2;go_enter func27,ntmps27;go_wp2;clear hmk
 go_loopw [4] (fun i wr=>∃ k:Nat,i=.int .i64 k∧k≤Xl.length∧Zw_ w wr∧ZcB wr w.heap.size Xl k) (fun i _=>Xl.length - (intOf i).toNat)
 case atStart=>exact⟨0,rfl,by omega,Zb_.alloc Zl_ _,ZcB.new w Xl _⟩
 case round=>
  obtain⟨k,rfl,hk,hb,hf⟩:=hrel
  by_cases hlt:k < Xl.length
  · obtain⟨b,off,rfl,hbw,-,hc⟩:=HV.out.full' (by omega)
    obtain⟨cs,hr,hx⟩:=hc k hlt;have hBl:w.heap.size < wr.heap.size:=hf.1
    have HX:=Zab (hx.below hb);have HR:=Zab (Zaq hr hb hbw);have HZ:Hid ((prog.info? 115).map (·.size)=some cs.length):=by unfold Hid;rw [hx.len];exact ZkU
    have HF:=Zab hf;have HB:=Zab hb;clear hc hr hx hf hb;go_wp2_with (refine wpList_load_mid rfl 115 (.tmp 18) rfl b (off+k*10) rfl cs _ HR.out underlying115 rfl HZ.out ?_);refine (ZsX lo _ _ _ HX.out (HSM.out k hlt)).mono ?_;rintro e w1 ⟨cz,rfl,hb1,hz⟩;have hf1:=HF.out.below hb1;have HC:=Zab (hz.mono (show w.heap.size+1≤wr.heap.size by omega));have HST:=Zab (hf1.step hlt HC.out);have HT:=Zab (Zey (o:=k*10) (m:=10) hf1.2.1 (by omega));have hB:Hid (Zw_ w w1):=HB.out.trans (hb1.mono HB.out.size);have hcz:cz.toArray.size=10:=List.size_toArray.trans HC.out.len;have HZ1:Hid ((prog.info? 71).map (·.size)=some cz.toArray.size):=by unfold Hid;rw [hcz];exact Zdj
    have HT1:Hid (w1.there w.heap.size (k*10) cz.toArray.size):=by unfold Hid;rw [hcz];exact HT.out
    clear hf1 hb1 hz HX HR HZ HF HB HT hBl hcz;go_wp2_with (refine wpList_store_mid rfl 71 (.tmp 21) (.tmp 20) rfl w.heap.size (k*10) cz.toArray (by simp [Act.eval,go_sem]) rfl HT1.out HZ1.out HC.out.one ?_);go_roundw
    case rel=>
     exact⟨k+1,by go_num,by omega,Below.sets Zl_ _ _ hB.out,HST.out⟩
    case measure=>simp [intOf];omega
  · go_wp2
    go_ret;exact⟨_,rfl,hb,hf.done (by omega) HM.out⟩
structure Wd where
 bk:Bk
 ds:List Dr
def Zcp (U:Wd):Prop:=Zbx U.bk∧ZhX U.ds
structure Zh6 (lo:Nat) (w:World) (ov gv lv pv sv:Value) (U:Wd):Prop where
 bk:ZaH lo w ov gv lv pv U.bk
 ls:Zcv lo w sv U.ds
theorem ZaH.setWd {lo:Nat} {w:World} {ov gv lv pv:Value} {B:Bk} (h:ZaH lo w ov gv lv pv B) {p:Addr} (hp:p.block < lo) (u:Value):ZaH lo (w.setCell p u) ov gv lv pv B:=⟨h.obs.set hp u,h.grs.set hp u,h.les.set hp u,h.pus.set hp u⟩
theorem Zh6.below {lo:Nat} {w w':World} {ov gv lv pv sv:Value} {U:Wd} (h:Zh6 lo w ov gv lv pv sv U) (hb:Zw_ w w'):Zh6 lo w' ov gv lv pv sv U:=⟨h.bk.below hb,h.ls.below hb⟩
theorem Zh6.mono {lo lo':Nat} {w:World} {ov gv lv pv sv:Value} {U:Wd} (h:Zh6 lo w ov gv lv pv sv U) (hl:lo'≤lo):Zh6 lo' w ov gv lv pv sv U:=⟨h.bk.mono hl,h.ls.mono hl⟩
def wdL (U:Wd) (a0:Option Addr) (k0:Nat) (a1:Option Addr) (k1:Nat) (a2:Option Addr) (k2:Nat) (a3:Option Addr) (k3:Nat) (a4:Option Addr) (k4:Nat):List Value:=[.int .i64 U.bk.now,.int .i64 U.bk.tick,.int .i64 U.bk.given,.slice a0 U.bk.os.length k0,.slice a1 U.bk.gs.length k1,.slice a2 U.bk.ls.length k2,.slice a3 U.bk.ps.length k3,.slice a4 U.ds.length k4]
def WdC (lo:Nat) (w:World) (cs:List Value) (U:Wd):Prop:=
 ∃ a0 k0 a1 k1 a2 k2 a3 k3 a4 k4,cs=wdL U a0 k0 a1 k1 a2 k2 a3 k3 a4 k4∧Zh6 lo w (.slice a0 U.bk.os.length k0) (.slice a1 U.bk.gs.length k1) (.slice a2 U.bk.ls.length k2) (.slice a3 U.bk.ps.length k3) (.slice a4 U.ds.length k4) U
theorem ZsW (lo:Nat) (cs:List Value) (U:Wd) (left:Int) (w:World) (h0:0≤left) (h1:left≤1048576) (h:WdC lo w cs U) :
 Calls prog 6 #[.agg cs.toArray,.int .i64 left] w
  fun e w'=>∃ r:Int,e=.returned (.int .i64 r)∧Zw_ w w'∧-1≤r∧r≤left∧(0≤r→Zcp U):=by
 obtain⟨a0,k0,a1,k1,a2,k2,a3,k3,a4,k4,rfl,h⟩:=h
 show Calls prog 6 #[.agg #[.int .i64 U.bk.now,.int .i64 U.bk.tick,.int .i64 U.bk.given,.slice a0 U.bk.os.length k0,.slice a1 U.bk.gs.length k1,.slice a2 U.bk.ls.length k2,.slice a3 U.bk.ps.length k3,.slice a4 U.ds.length k4],.int .i64 left] w _
 have HL:=Zab h;clear h;go_enter func6,ntmps6;go_wp2_with fail;generalize hWa:w.alloc _=Wa;have HB0:Hid (Zw_ w Wa):=by rw [← hWa];exact Zac _ _
 have FX:Hid (Box Wa w.heap.size #[.int .i64 U.bk.now,.int .i64 U.bk.tick,.int .i64 U.bk.given,.slice a0 U.bk.os.length k0,.slice a1 U.bk.gs.length k1,.slice a2 U.bk.ls.length k2,.slice a3 U.bk.ps.length k3,.slice a4 U.ds.length k4]):=by rw [← hWa];exact Box.new _ _ _ _ rfl
 clear hWa;refine (Zfz lo _ _ _ _ U.bk _ _ (by omega) (by omega) (HL.out.below HB0.out).bk).mono ?_;rintro e w1 ⟨q1,rfl,hb1,p1,p2,p3⟩;have Q1:=Zab p3;have HB1:Hid (Zw_ w w1):=HB0.out.trans (hb1.mono HB0.out.size);replace FX:=Zab (FX.out.on hb1);clear p3 hb1 HB0
 by_cases m1:q1 < 0
 · go_wp2
   go_ret;exact⟨-1,rfl,HB1.out,by omega,by omega,fun h=>by omega⟩
 have c17:=FX.out.cell 7;simp at c17;go_wp2_with fail;clear c17;refine (Zom lo _ U.ds _ _ (by omega) (by omega) (HL.out.below HB1.out).ls).mono ?_;rintro e w2 ⟨q2,rfl,hb2,p4,p5,p6⟩;have Q2:=Zab p6;have HB2:Hid (Zw_ w w2):=HB1.out.trans (hb2.mono HB1.out.size);clear p6 hb2 HB1
 by_cases m2:q2 < 0
 · go_wp2
   go_ret;exact⟨-1,rfl,HB2.out,by omega,by omega,fun h=>by omega⟩
 go_wp2;go_ret;exact⟨_,rfl,HB2.out,by omega,by omega,fun h=>⟨Q1.out (by omega),Q2.out (by omega)⟩⟩
theorem Zsu (lo lo':Nat) (cs cs':List Value) (U:Wd) (w:World) (h:WdC lo w cs U) (h':WdC lo' w cs' U) :
 Calls prog 12 #[.agg cs.toArray,.agg cs'.toArray] w fun e w'=>e=.returned (.bool true)∧Zw_ w w':=by
 obtain⟨a0,k0,a1,k1,a2,k2,a3,k3,a4,k4,rfl,h⟩:=h;obtain⟨d0,e0,d1,e1,d2,e2,d3,e3,d4,e4,rfl,h'⟩:=h'
 show Calls prog 12 #[.agg #[.int .i64 U.bk.now,.int .i64 U.bk.tick,.int .i64 U.bk.given,.slice a0 U.bk.os.length k0,.slice a1 U.bk.gs.length k1,.slice a2 U.bk.ls.length k2,.slice a3 U.bk.ps.length k3,.slice a4 U.ds.length k4],.agg #[.int .i64 U.bk.now,.int .i64 U.bk.tick,.int .i64 U.bk.given,.slice d0 U.bk.os.length e0,.slice d1 U.bk.gs.length e1,.slice d2 U.bk.ls.length e2,.slice d3 U.bk.ps.length e3,.slice d4 U.ds.length e4]] w _
 have HL:=Zab h;have HR:=Zab h';clear h h';go_enter func12,ntmps12;go_wp2_with fail;generalize hWa:(World.alloc (w.alloc _) _)=Wa;have HB0:Hid (Zw_ w Wa):=by rw [← hWa];exact (Zac w _).alloc (by simp) _
 have HX0:Hid (Box Wa w.heap.size #[.int .i64 U.bk.now,.int .i64 U.bk.tick,.int .i64 U.bk.given,.slice a0 U.bk.os.length k0,.slice a1 U.bk.gs.length k1,.slice a2 U.bk.ls.length k2,.slice a3 U.bk.ps.length k3,.slice a4 U.ds.length k4]):=by rw [← hWa];exact (Box.new _ _ _ _ rfl).on (Zac _ _)
 have HY0:Hid (Box Wa (w.heap.size+1) #[.int .i64 U.bk.now,.int .i64 U.bk.tick,.int .i64 U.bk.given,.slice d0 U.bk.os.length e0,.slice d1 U.bk.gs.length e1,.slice d2 U.bk.ls.length e2,.slice d3 U.bk.ps.length e3,.slice d4 U.ds.length e4]):=by rw [← hWa];exact Box.new _ _ _ _ (by simp)
 clear hWa;refine (ZeW lo _ _ _ _ U.bk _ lo' _ _ _ _ (HL.out.below HB0.out).bk (HR.out.below HB0.out).bk).mono ?_;rintro e w1 ⟨rfl,hb1⟩;have HX1:=Zab (HX0.out.on hb1);have HY1:=Zab (HY0.out.on hb1);have HB1:Hid (Zw_ w w1):=HB0.out.trans (hb1.mono HB0.out.size);clear hb1 HB0 HX0 HY0;have c1:=HX1.out.cell 7;have e1:=HY1.out.cell 7;simp at c1 e1;go_wp2_with fail;clear c1 e1;refine (ZlL lo lo' _ _ U.ds _ (HL.out.below HB1.out).ls (HR.out.below HB1.out).ls).mono ?_;rintro e w2 ⟨rfl,hb2⟩;have HB2:Hid (Zw_ w w2):=HB1.out.trans (hb2.mono HB1.out.size);clear hb2 HB1 HX1 HY1;go_wp2;go_ret;exact⟨rfl,HB2.out⟩
theorem ZsZ (lo:Nat) (cs:List Value) (U:Wd) (w:World) (h:WdC lo w cs U) (hn:Zcp U) :
 Calls prog 9 #[.agg cs.toArray] w
  fun e w'=>∃ cs',e=.returned (.agg cs'.toArray)∧Zw_ w w'∧WdC w.heap.size w' cs' U:=by
 obtain⟨a0,k0,a1,k1,a2,k2,a3,k3,a4,k4,rfl,h⟩:=h
 show Calls prog 9 #[.agg #[.int .i64 U.bk.now,.int .i64 U.bk.tick,.int .i64 U.bk.given,.slice a0 U.bk.os.length k0,.slice a1 U.bk.gs.length k1,.slice a2 U.bk.ls.length k2,.slice a3 U.bk.ps.length k3,.slice a4 U.ds.length k4]] w _
 have HL:=Zab h;obtain⟨hn0,hn1⟩:=hn;clear h;go_enter func9,ntmps9;go_wp2_with fail
 obtain⟨wz,hwz,HX0,HR0,HO0,HB0⟩:∃ wz,wz=((w.alloc (.cells #[.int .i64 U.bk.now,.int .i64 U.bk.tick,.int .i64 U.bk.given,.slice a0 U.bk.os.length k0,.slice a1 U.bk.gs.length k1,.slice a2 U.bk.ls.length k2,.slice a3 U.bk.ps.length k3,.slice a4 U.ds.length k4] 35)).alloc (.cells #[.int .i64 0,.int .i64 0,.int .i64 0,.slice none 0 0,.slice none 0 0,.slice none 0 0,.slice none 0 0,.slice none 0 0] 53)).alloc (.cells #[.int .i64 0,.int .i64 0,.int .i64 0,.slice none 0 0,.slice none 0 0,.slice none 0 0,.slice none 0 0,.slice none 0 0] 53)∧
  Hid (Box wz w.heap.size #[.int .i64 U.bk.now,.int .i64 U.bk.tick,.int .i64 U.bk.given,.slice a0 U.bk.os.length k0,.slice a1 U.bk.gs.length k1,.slice a2 U.bk.ls.length k2,.slice a3 U.bk.ps.length k3,.slice a4 U.ds.length k4])∧Hid (Box wz (w.heap.size+1) #[.int .i64 0,.int .i64 0,.int .i64 0,.slice none 0 0,.slice none 0 0,.slice none 0 0,.slice none 0 0,.slice none 0 0])∧Hid (Box wz (w.heap.size+1+1) #[.int .i64 0,.int .i64 0,.int .i64 0,.slice none 0 0,.slice none 0 0,.slice none 0 0,.slice none 0 0,.slice none 0 0])∧Hid (Zw_ w wz):=
  ⟨_,rfl,((Box.new w _ _ _ rfl).on (Zac _ _)).on (Zac _ _),(Box.new _ _ _ _ (by simp)).on (Zac _ _),Box.new _ _ _ _ (by simp),((Zac _ _).trans ((Zac _ _).mono (by simp))).trans ((Zac _ _).mono (by simp;omega))⟩
 rw [← hwz];clear hwz;generalize wz=v0 at*;have hz0:w.heap.size+3≤v0.heap.size:=by have:=HO0.out.lt;omega
 refine (ZdG lo _ _ _ _ U.bk _ (HL.out.below HB0.out).bk hn0).mono ?_;rintro e w0 ⟨b0,m0,b1,m1,b2,m2,b3,m3,rfl,hb0,hs0⟩;have GX:=Zab (HX0.out.on hb0);have GR:=Zab (HR0.out.on hb0);have GO:=Zab (HO0.out.on hb0);have GB:=Zab (HB0.out.trans (hb0.mono HB0.out.size));have GN:=Zab (hs0.mono hz0);clear hb0 hs0 HX0 HR0 HO0 HB0 hz0;have o0:=GO.out.cell;have f0:=GO.out.free;have x1:=GX.out.cell 7;simp at x1;go_wp2_with fail;clear o0 f0 x1
 obtain⟨v1,hwq,HX1,HR1,HO1,HB1,HS0⟩:∃ wq,wq=(((((((w0.setCell ⟨w.heap.size+1+1,0,none⟩ (.int .i64 U.bk.now)).setCell ⟨w.heap.size+1+1,1,none⟩ (.int .i64 U.bk.tick)).setCell ⟨w.heap.size+1+1,2,none⟩ (.int .i64 U.bk.given)).setCell ⟨w.heap.size+1+1,3,none⟩ (.slice b0 U.bk.os.length m0)).setCell ⟨w.heap.size+1+1,4,none⟩ (.slice b1 U.bk.gs.length m1)).setCell ⟨w.heap.size+1+1,5,none⟩ (.slice b2 U.bk.ls.length m2)).setCell ⟨w.heap.size+1+1,6,none⟩ (.slice b3 U.bk.ps.length m3))∧
  Hid (Box wq w.heap.size #[.int .i64 U.bk.now,.int .i64 U.bk.tick,.int .i64 U.bk.given,.slice a0 U.bk.os.length k0,.slice a1 U.bk.gs.length k1,.slice a2 U.bk.ls.length k2,.slice a3 U.bk.ps.length k3,.slice a4 U.ds.length k4])∧Hid (Box wq (w.heap.size+1) #[.int .i64 0,.int .i64 0,.int .i64 0,.slice none 0 0,.slice none 0 0,.slice none 0 0,.slice none 0 0,.slice none 0 0])∧Hid (Box wq (w.heap.size+1+1) #[.int .i64 U.bk.now,.int .i64 U.bk.tick,.int .i64 U.bk.given,.slice b0 U.bk.os.length m0,.slice b1 U.bk.gs.length m1,.slice b2 U.bk.ls.length m2,.slice b3 U.bk.ps.length m3,.slice none 0 0])∧Hid (Zw_ w wq)∧Hid (ZaH (w.heap.size+3) wq (.slice b0 U.bk.os.length m0) (.slice b1 U.bk.gs.length m1) (.slice b2 U.bk.ls.length m2) (.slice b3 U.bk.ps.length m3) U.bk):=
  ⟨_,rfl,(((((((GX.out.setFar (by simp only [];omega) _).setFar (by simp only [];omega) _).setFar (by simp only [];omega) _).setFar (by simp only [];omega) _).setFar (by simp only [];omega) _).setFar (by simp only [];omega) _).setFar (by simp only [];omega) _),(((((((GR.out.setFar (by simp only [];omega) _).setFar (by simp only [];omega) _).setFar (by simp only [];omega) _).setFar (by simp only [];omega) _).setFar (by simp only [];omega) _).setFar (by simp only [];omega) _).setFar (by simp only [];omega) _),(((((((GO.out.set (k:=0) (.int .i64 U.bk.now) (by simp)).set (k:=1) (.int .i64 U.bk.tick) (by simp)).set (k:=2) (.int .i64 U.bk.given) (by simp)).set (k:=3) (.slice b0 U.bk.os.length m0) (by simp)).set (k:=4) (.slice b1 U.bk.gs.length m1) (by simp)).set (k:=5) (.slice b2 U.bk.ls.length m2) (by simp)).set (k:=6) (.slice b3 U.bk.ps.length m3) (by simp)),(((((((GB.out.setCell (by simp only [];omega) _).setCell (by simp only [];omega) _).setCell (by simp only [];omega) _).setCell (by simp only [];omega) _).setCell (by simp only [];omega) _).setCell (by simp only [];omega) _).setCell (by simp only [];omega) _),(((((((GN.out.setWd (by simp only [];omega) _).setWd (by simp only [];omega) _).setWd (by simp only [];omega) _).setWd (by simp only [];omega) _).setWd (by simp only [];omega) _).setWd (by simp only [];omega) _).setWd (by simp only [];omega) _)⟩
 rw [← hwq];clear hwq GX GR GO GB GN;have hz1:w.heap.size+3≤v1.heap.size:=by have:=HO1.out.lt;omega
 refine (ZoF lo _ U.ds _ (HL.out.below HB1.out).ls hn1).mono ?_;rintro e w1 ⟨u4,rfl,hb1,hs1⟩;obtain⟨b4,m4,rfl⟩:=hs1.form;have GX:=Zab (HX1.out.on hb1);have GR:=Zab (HR1.out.on hb1);have GO:=Zab (HO1.out.on hb1);have GB:=Zab (HB1.out.trans (hb1.mono HB1.out.size));have GN:=Zab (hs1.mono hz1);have G0:=Zab (HS0.out.below hb1);clear hb1 hs1 HX1 HR1 HO1 HB1 hz1 HS0;have o0:=GO.out.cell;have f0:=GO.out.free;have r0:=GR.out.cell;have g0:=GR.out.free;go_wp2;refine bodyPost_ret (v:=.agg #[.int .i64 U.bk.now,.int .i64 U.bk.tick,.int .i64 U.bk.given,.slice b0 U.bk.os.length m0,.slice b1 U.bk.gs.length m1,.slice b2 U.bk.ls.length m2,.slice b3 U.bk.ps.length m3,.slice b4 U.ds.length m4]) (by simp [results,results9,go_sem,r0]) rfl ⟨wdL U b0 m0 b1 m1 b2 m2 b3 m3 b4 m4,rfl,?_,b0,m0,b1,m1,b2,m2,b3,m3,b4,m4,rfl,?_,?_⟩
 · repeat (refine Below.setCell ?_ (by simp only [];omega) _)
   exact GB.out
 · refine ZaH.mono (lo:=w.heap.size+3) ?_ (by omega)
   repeat (refine ZaH.setWd ?_ (by simp only [];omega) _)
   exact G0.out
 · refine Zcv.mono (lo:=w.heap.size+3) ?_ (by omega)
   repeat (refine Zcv.set ?_ (by simp only [];omega) _)
   exact GN.out
end Go.Proofs.YtcfjmagkinpaeaaGreat
