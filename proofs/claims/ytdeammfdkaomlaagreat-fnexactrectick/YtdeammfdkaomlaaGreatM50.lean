import Derived.Test.YtdeammfdkaomlaaGreatM41
import Derived.Test.YtdeammfdkaomlaaGreatM49
set_option maxHeartbeats 16000000
set_option maxRecDepth 100000
open Go.Proofs.Tryz
namespace Go.Proofs.YtdeammfdkaomlaaGreat
open Go.RowKit Go.Deep
variable {lo γ τ lx ux ρ l u:Nat} {w wr w3:World} {U:Rr} {L:List MX} {v:Value}
theorem Rz.sent {K:Nat->Prop}{w':World}{lx' ux':Nat}{b:Nat->Option Addr}{m:Nat->Nat}{S:Nat->Nat->Prop} (h:Rz (fun k=>K k\/(lx<=k/\k < ux)) lo w γ b m S U) (hτ:K τ) (hk:Zag (fun k=>k < w.heap.size/\k≠τ/\¬ (lx<=k/\k < ux)) w w') (hq:(lx'=lx/\ux'=ux)\/w.heap.size<=lx') (hu:ux'<=w'.heap.size):Rz (fun k=>K k\/(lx'<=k/\k < ux')) lo w' γ b m S U:=by
 have hsz:=hk.size;have hb:=h.box.lt;have pg:=h.prot;refine⟨h.box.kept hk ⟨hb,fun e=>(pg τ (Or.inl hτ)).2.1 e.symm,fun e=>(pg γ (Or.inr e)).2.1 rfl⟩,h.cp.kept hk (fun i hi k hS=>⟨(h.cp.seg i hi k hS).2,fun e=>(pg τ (Or.inl hτ)).2.2 i hi (e ▸ hS),fun e=>(pg k (Or.inr e)).2.2 i hi hS⟩),Nat.le_trans h.low hsz,h.far,fun k hk'=>?_⟩
 rcases hk' with hk' | ⟨k1,k2⟩
 . have:=pg k (Or.inl hk');exact⟨by omega,this.2⟩
 . rcases hq with ⟨rfl,rfl⟩ | hq
   . have:=pg k (Or.inr ⟨k1,k2⟩);exact⟨by omega,this.2⟩
   . exact⟨by omega,by omega,fun i hi hS=>by have:=(h.cp.seg i hi k hS).2;omega⟩
structure Tel (K:Nat->Prop) (lo:Nat) (w wr:World) (γ ρ τ lx ux:Nat) (b:Nat->Option Addr) (m:Nat->Nat) (S:Nat->Nat->Prop) (U:Rr) (L:List MX) (v:Value) (l u:Nat):Prop where
 tb:Box wr τ (tkC γ ρ v)
 row:Zay mxL 8 wr l u v L
 lu:(l=lx/\u=ux)\/w.heap.size<=l
 uw:u<=wr.heap.size
 rz:Rz (fun k=>K k\/(l<=k/\k < u)) lo wr γ b m S U
 kp:Zag (fun k=>k < w.heap.size/\k≠τ/\¬ (lx<=k/\k < ux)) w wr
theorem Tel.on {K:Nat->Prop}{b:Nat->Option Addr}{m:Nat->Nat}{S:Nat->Nat->Prop} (h:Tel K lo w wr γ ρ τ lx ux b m S U L v l u) (hb:Below wr.heap.size wr w3):Tel K lo w w3 γ ρ τ lx ux b m S U L v l u:=
 ⟨h.tb.on hb,h.row.below hb,h.lu,Nat.le_trans h.uw hb.size,h.rz.on hb,h.kp.trans (Zag.below hb (fun _ hk=>Zk_ hk.1 h.kp.size))⟩
theorem Tel.step {K:Nat->Prop}{b:Nat->Option Addr}{m:Nat->Nat}{S:Nat->Nat->Prop}{L':List MX}{v':Value}{l' u':Nat} (h:Tel K lo w wr γ ρ τ lx ux b m S U L v l u) (hτ:K τ) (tb:Box w3 τ (tkC γ ρ v')) (row:Zay mxL 8 w3 l' u' v' L') (lu:(l'=l/\u'=u)\/wr.heap.size<=l') (uw:u'<=w3.heap.size) (kp:Zag (fun k=>k < wr.heap.size/\k≠τ/\¬ (l<=k/\k < u)) wr w3):Tel K lo w w3 γ ρ τ lx ux b m S U L' v' l' u':=by
 have h1:=h.kp.size;have h2:=h.lu;exact⟨tb,row,by omega,uw,h.rz.sent hτ kp lu uw,h.kp.trans (kp.less (fun k hk=>⟨by omega,hk.2.1,by have:=hk.1;have:=hk.2.2;omega⟩))⟩
theorem Tel.tell {K:Nat->Prop}{b:Nat->Option Addr}{m:Nat->Nat}{S:Nat->Nat->Prop} (h:Tel K lo w wr γ ρ τ lx ux b m S U L v l u) (M:Rm) (hM:M.sl=[]) (hτ:K τ) (h0:0<=U.of) (h5:U.of<=5) (_hux:ux<=w.heap.size) (htw:τ < w.heap.size) (ht:τ < lx\/ux<=τ) (hL:L.length<=90000) (x:List Value) (hx:x=rmL M none 0) :
 Calls prog 199 #[.pointer (some ⟨τ,0,none⟩),.func (.func 209) #[.pointer (some ⟨τ,0,none⟩)] #[],.agg x.toArray] wr fun e w'=>e=.returned (.tuple #[])/\∃ v' l' u',Tel K lo w w' γ ρ τ lx ux b m S U (L ++ (Zax U M).map mx0) v' l' u':=by
 have pg:=h.rz.prot;have h2:=h.lu;rw [hx];refine (Zf8 wr γ ρ τ l u U M v L hM (h.rz.box.cell 0) (h.rz.box.cell 1) h0 h5 h.tb h.row h.uw (by omega) ⟨fun e=>(pg τ (Or.inl hτ)).2.1 e.symm,fun e=>(pg γ (Or.inr e)).2.1 rfl⟩ hL).mono ?_;rintro e w' ⟨he,v',l',u',a1,a2,a3,a4,a5⟩;exact⟨he,v',l',u',h.step hτ a1 a2 a3 a4 a5⟩
theorem ZiU (K:Nat->Prop) (lo:Nat) (w:World) (γ ρ τ lx ux:Nat) (b:Nat->Option Addr) (m:Nat->Nat) (S:Nat->Nat->Prop) (U:Rr) (v:Value) (L:List MX) (k0:Nat) (hR:Rz (fun k=>K k\/(lx<=k/\k < ux)) lo w γ b m S U) (tb:Box w τ (tkC γ ρ v)) (hτ:K τ) (hv:Zay mxL 8 w lx ux v L) (hux:ux<=w.heap.size) (ht:τ < lx\/ux<=τ) (h0:0<=U.of) (h5:U.of<=5) (hk0:U.dk.kn=(k0:Int)) (hk1:k0<=1000) (hl:U.dk.sl.length<=1000) (hL:L.length<=80000) :
 Calls prog 196 #[.pointer (some ⟨τ,0,none⟩)] w fun e w'=>e=.returned (.tuple #[])/\∃ v' l' u',Tel K lo w w' γ ρ τ lx ux b m S U (L ++ (Zcj U).map mx0) v' l' u':=by
 have HT:Hd (Tel K lo w w γ ρ τ lx ux b m S U L v lx ux):=⟨tb,hv,Or.inl ⟨rfl,rfl⟩,hux,hR,Zag.refl _ _⟩;have htw:=tb.lt;have HK0:=Zaa hk0;clear tb hv hR hk0;have xt0:w.cell? ⟨τ,0,none⟩=some (.pointer (some ⟨γ,0,none⟩)):=HT.o.tb.cell 0;have x13:w.cell? ⟨γ,13,none⟩=some (.int .i64 U.ba):=HT.o.rz.box.cell 13;have x7:w.cell? ⟨γ,7,none⟩=some (.int .i64 U.dk.kn):=HT.o.rz.box.cell 7;go_enter func196,ntmps196
 go_upto_region 0 with fail
 refine Code.wp_mono NoPanic.imp ?_;refine Zan (S:=fun W=>W.cell? ⟨τ,0,none⟩=some (.pointer (some ⟨γ,0,none⟩))/\W.cell? ⟨γ,13,none⟩=some (.int .i64 U.ba)/\W.cell? ⟨γ,7,none⟩=some (.int .i64 U.dk.kn)) [21] (by kernel_rfl) ⟨xt0,x13,x7⟩ (fun hHeld=>?_);refine tB 0 (.pointer (some ⟨τ,0,none⟩)) [21] rfl hHeld ?_
 try simp only [Act.put,sLs]
 refine tB 1 (.pointer (some ⟨τ,0,none⟩)) [2,21] rfl hHeld ?_
 try simp only [Act.put,sLs]
 refine tB 2 (.func (.func 209) #[.pointer (some ⟨τ,0,none⟩)] #[]) [21] rfl hHeld ?_
 try simp only [Act.put,sLs]
 refine tB 3 (.pointer (some ⟨τ,0,none⟩)) [4,5,6,7,8,9,10,20,21] rfl hHeld ?_
 try simp only [Act.put,sLs]
 refine tB 4 (.pointer (some ⟨τ,0,none⟩)) [5,6,7,8,9,10,20,21] rfl hHeld ?_
 try simp only [Act.put,sLs]
 refine tB 5 (.pointer (some ⟨τ,0,none⟩)) [6,7,8,9,10,20,21] rfl hHeld ?_
 try simp only [Act.put,sLs]
 refine tB 6 (.pointer (some ⟨τ,0,none⟩)) [7,8,9,10,20,21] rfl hHeld ?_
 try simp only [Act.put,sLs]
 refine tB 7 (.pointer (some ⟨γ,0,none⟩)) [8,9,10,20,21] rfl hHeld ?_
 try simp only [Act.put,sLs]
 refine tB 8 (.pointer (some ⟨γ,0,none⟩)) [9,10,20,21] rfl hHeld ?_
 try simp only [Act.put,sLs]
 refine tB 9 (.pointer (some ⟨γ,13,none⟩)) [10,20,21] rfl hHeld ?_
 try simp only [Act.put,sLs]
 refine tB 10 (.int .i64 U.ba) [20,21] rfl hHeld ?_
 try simp only [Act.put,sLs]
 refine tB 11 (.pointer (some ⟨τ,0,none⟩)) [12,13,14,15,16,17,18,19,20,21] rfl hHeld ?_
 try simp only [Act.put,sLs]
 refine tB 12 (.pointer (some ⟨τ,0,none⟩)) [13,14,15,16,17,18,19,20,21] rfl hHeld ?_
 try simp only [Act.put,sLs]
 refine tB 13 (.pointer (some ⟨τ,0,none⟩)) [14,15,16,17,18,19,20,21] rfl hHeld ?_
 try simp only [Act.put,sLs]
 refine tB 14 (.pointer (some ⟨τ,0,none⟩)) [15,16,17,18,19,20,21] rfl hHeld ?_
 try simp only [Act.put,sLs]
 refine tB 15 (.pointer (some ⟨γ,0,none⟩)) [16,17,18,19,20,21] rfl hHeld ?_
 try simp only [Act.put,sLs]
 refine tB 16 (.pointer (some ⟨γ,0,none⟩)) [17,18,19,20,21] rfl hHeld ?_
 try simp only [Act.put,sLs]
 refine tB 17 (.pointer (some ⟨γ,6,none⟩)) [18,19,20,21] rfl hHeld ?_
 try simp only [Act.put,sLs]
 refine tB 18 (.pointer (some ⟨γ,7,none⟩)) [19,20,21] rfl hHeld ?_
 try simp only [Act.put,sLs]
 refine tB 19 (.int .i64 U.dk.kn) [20,21] rfl hHeld ?_
 try simp only [Act.put,sLs]
 refine tB 20 (.agg #[.int .i64 5,.int .i64 0,.int .i64 0,.int .i64 U.ba,.int .i64 0,.int .i64 U.dk.kn,.string ⟨#[]⟩,.slice none 0 0]) [21] rfl hHeld ?_
 try simp only [Act.put,sLs]
 refine oB 21 rfl (fun KC hK=>?_)
 go_simp
 refine ((HT.o.on Zb_.drew).tell (ZcT U) rfl hτ h0 h5 hux htw ht (by omega) [.int .i64 5,.int .i64 0,.int .i64 0,.int .i64 U.ba,.int .i64 0,.int .i64 U.dk.kn,.string ⟨#[]⟩,.slice none 0 0] rfl).mono ?_;rintro e w8 ⟨rfl,v8,l8,u8,h8⟩;have HT8:=Zaa h8;clear h8 hHeld xt0 x13 x7 HT;refine hK.out _ _ (fun h=>absurd (by decide) h) (fun _=>?_);clear hK
 try simp only [Act.put,sLs]
 refine Zak (by kernel_rfl) ?_ _;refine NoPanic.normal ?_;have xt0:w8.cell? ⟨τ,0,none⟩=some (.pointer (some ⟨γ,0,none⟩)):=HT8.o.tb.cell 0;have x7:w8.cell? ⟨γ,7,none⟩=some (.int .i64 (k0:Int)):=by rw [<- HK0.o];exact HT8.o.rz.box.cell 7
 go_wp2_with fail;clear xt0 x7
 go_loopw [2] (fun q wr=>∃ (p k l u:Nat) (v':Value),q=.int .i64 ((p:Int)+1)/\p=k0+k/\(k=0\/k0+k<=U.dk.sl.length)/\Tel K lo w wr γ ρ τ lx ux b m S U ((L ++ (Zax U (ZcT U)).map mx0) ++ (Zb6 U k).map mx0) v' l u)
  (fun q _=>5000 - (intOf q).toNat)
 case atStart=>
  exact⟨k0,0,l8,u8,v8,rfl,rfl,Or.inl rfl,by rw [show Zb6 U 0=[] from rfl,List.map_nil,List.append_nil];exact HT8.o⟩
 case round=>
  clear HT8;obtain⟨p,k,l,u,v',rfl,hpk,hk,hS⟩:=hrel;have HS:=Zaa hS;clear hS;have xt0:wr.cell? ⟨τ,0,none⟩=some (.pointer (some ⟨γ,0,none⟩)):=HS.o.tb.cell 0;have x13:wr.cell? ⟨γ,13,none⟩=some (.int .i64 U.ba):=HS.o.rz.box.cell 13;have x8:wr.cell? ⟨γ,8,none⟩=some (.slice (b 1) U.dk.sl.length (m 1)):=HS.o.rz.box.cell 8
  by_cases hlt:p < U.dk.sl.length
  . have d1:decide ((p:Int)+1<=(U.dk.sl.length:Int))=true:=decide_eq_true (by omega)
    obtain⟨s,hs⟩:∃ s,s=U.dk.sl[p]:=⟨_,rfl⟩
    obtain⟨g,cap,hv,hf⟩:∃ g cap,(.slice (b 1) U.dk.sl.length (m 1):Value)=.slice (some ⟨g,0,none⟩) U.dk.sl.length cap/\FR rsL 2 wr g (g+1) g cap U.dk.sl:=by
     rcases HS.o.rz.cp.o1 with ⟨_,hnil⟩ | ⟨g,_,g',cap,e1,e2⟩
     . rw [hnil] at hlt;simp at hlt
     . exact⟨g',cap,e1,e2.own'⟩
    have z0:wr.cell? ⟨g,p*2+1,none⟩=some (.string s.tx):=by
     have:=hf.get ZaC hlt (t:=1) (by omega) (v:=.string U.dk.sl[p].tx) rfl;rw [hs]
     simpa using this
    rw [hv] at x8;have HSL:Hd (Zcp U p=⟨3,0,0,U.ba,(p:Int)+1,0,s.tx,[]⟩):=by unfold Hd Zcp;rw [List.getElem?_eq_getElem hlt,hs]
    have HTN:Hd (Zb6 U (k+1)=Zb6 U k ++ Zax U (Zcp U p)):=by unfold Hd;rw [ZcO,HK0.o,show (k0:Int).toNat=k0 from rfl,hpk]
    have hbl:((L ++ (Zax U (ZcT U)).map mx0) ++ (Zb6 U k).map mx0).length<=90000:=by
     have q1:=Zeq h5 k;have q2:=ZcM (M:=ZcT U) h5;simp only [List.length_append,List.length_map]
     omega
    clear hf hv hs;have hp0:p < U.dk.sl.length:=hlt
    have hwp:IntKind.wrap .i64 (p:Int)=(p:Int):=by rw [IntKind.wrap_i64];omega
    have HPK:=Zaa hpk;have HKK:=Zaa hk;have hk1':k<=1000:=by omega
    have hp1:p<=2000:=by omega
    clear hpk hk
    go_upto_region 4 with fail
    refine Code.wp_mono NoPanic.imp ?_;refine Zan (S:=fun W=>W.cell? ⟨τ,0,none⟩=some (.pointer (some ⟨γ,0,none⟩))/\W.cell? ⟨γ,13,none⟩=some (.int .i64 U.ba)/\W.cell? ⟨γ,8,none⟩=some (.slice (some ⟨g,0,none⟩) U.dk.sl.length cap)/\W.cell? ⟨g,p*2+1,none⟩=some (.string s.tx)) [27] (by kernel_rfl) ⟨xt0,x13,x8,z0⟩ (fun hHeld=>?_);refine tB 0 (.pointer (some ⟨τ,0,none⟩)) [27] rfl hHeld ?_
    try simp only [Act.put,sLs]
    refine tB 1 (.pointer (some ⟨τ,0,none⟩)) [2,27] rfl hHeld ?_
    try simp only [Act.put,sLs]
    refine tB 2 (.func (.func 209) #[.pointer (some ⟨τ,0,none⟩)] #[]) [27] rfl hHeld ?_
    try simp only [Act.put,sLs]
    refine tB 3 (.pointer (some ⟨τ,0,none⟩)) [4,5,6,7,8,9,10,26,27] rfl hHeld ?_
    try simp only [Act.put,sLs]
    refine tB 4 (.pointer (some ⟨τ,0,none⟩)) [5,6,7,8,9,10,26,27] rfl hHeld ?_
    try simp only [Act.put,sLs]
    refine tB 5 (.pointer (some ⟨τ,0,none⟩)) [6,7,8,9,10,26,27] rfl hHeld ?_
    try simp only [Act.put,sLs]
    refine tB 6 (.pointer (some ⟨τ,0,none⟩)) [7,8,9,10,26,27] rfl hHeld ?_
    try simp only [Act.put,sLs]
    refine tB 7 (.pointer (some ⟨γ,0,none⟩)) [8,9,10,26,27] rfl hHeld ?_
    try simp only [Act.put,sLs]
    refine tB 8 (.pointer (some ⟨γ,0,none⟩)) [9,10,26,27] rfl hHeld ?_
    try simp only [Act.put,sLs]
    refine tB 9 (.pointer (some ⟨γ,13,none⟩)) [10,26,27] rfl hHeld ?_
    try simp only [Act.put,sLs]
    refine tB 10 (.int .i64 U.ba) [26,27] rfl hHeld ?_
    try simp only [Act.put,sLs]
    refine tB 11 (.int .i64 ((p:Int)+1)) [26,27] rfl hHeld ?_
    try simp only [Act.put,sLs]
    refine tB 12 (.pointer (some ⟨τ,0,none⟩)) [13,14,15,16,17,18,19,20,23,24,25,26,27] rfl hHeld ?_
    try simp only [Act.put,sLs]
    refine tB 13 (.pointer (some ⟨τ,0,none⟩)) [14,15,16,17,18,19,20,23,24,25,26,27] rfl hHeld ?_
    try simp only [Act.put,sLs]
    refine tB 14 (.pointer (some ⟨τ,0,none⟩)) [15,16,17,18,19,20,23,24,25,26,27] rfl hHeld ?_
    try simp only [Act.put,sLs]
    refine tB 15 (.pointer (some ⟨τ,0,none⟩)) [16,17,18,19,20,23,24,25,26,27] rfl hHeld ?_
    try simp only [Act.put,sLs]
    refine tB 16 (.pointer (some ⟨γ,0,none⟩)) [17,18,19,20,23,24,25,26,27] rfl hHeld ?_
    try simp only [Act.put,sLs]
    refine tB 17 (.pointer (some ⟨γ,0,none⟩)) [18,19,20,23,24,25,26,27] rfl hHeld ?_
    try simp only [Act.put,sLs]
    refine tB 18 (.pointer (some ⟨γ,6,none⟩)) [19,20,23,24,25,26,27] rfl hHeld ?_
    try simp only [Act.put,sLs]
    refine tB 19 (.pointer (some ⟨γ,8,none⟩)) [20,23,24,25,26,27] rfl hHeld ?_
    try simp only [Act.put,sLs]
    refine tB 20 (.slice (some ⟨g,0,none⟩) U.dk.sl.length cap) [23,24,25,26,27] rfl hHeld ?_
    try simp only [Act.put,sLs]
    refine tB 21 (.int .i64 ((p:Int)+1)) [22,23,24,25,26,27] rfl hHeld ?_
    try simp only [Act.put,sLs]
    refine tB 22 (.int .i64 (p:Int)) [23,24,25,26,27] rfl hHeld ?_
    try simp only [Act.put,sLs]
    refine tB 23 (.pointer (some ⟨g,p*2,none⟩)) [24,25,26,27] rfl hHeld ?_
    try simp only [Act.put,sLs]
    refine tB 24 (.pointer (some ⟨g,p*2+1,none⟩)) [25,26,27] rfl hHeld ?_
    try simp only [Act.put,sLs]
    refine tB 25 (.string s.tx) [26,27] rfl hHeld ?_
    try simp only [Act.put,sLs]
    refine tB 26 (.agg #[.int .i64 3,.int .i64 0,.int .i64 0,.int .i64 U.ba,.int .i64 ((p:Int)+1),.int .i64 0,.string s.tx,.slice none 0 0]) [27] rfl hHeld ?_
    try simp only [Act.put,sLs]
    refine oB 27 rfl (fun KC hK=>?_)
    go_simp
    refine ((HS.o.on Zb_.drew).tell ⟨3,0,0,U.ba,(p:Int)+1,0,s.tx,[]⟩ rfl hτ h0 h5 hux htw ht hbl [.int .i64 3,.int .i64 0,.int .i64 0,.int .i64 U.ba,.int .i64 ((p:Int)+1),.int .i64 0,.string s.tx,.slice none 0 0] rfl).mono ?_;rintro e w9 ⟨rfl,v9,l9,u9,h9⟩;have HT9:=Zaa h9;clear h9 hHeld xt0 x13 x8 z0 HS;refine hK.out _ _ (fun h=>absurd (by decide) h) (fun _=>?_);clear hK
    try simp only [Act.put,sLs]
    refine Zak (by kernel_rfl) ?_ _;refine NoPanic.normal ?_;have hp2:p+1=k0+(k+1):=by rw [HPK.o];omega
    have HP2:=Zaa hp2;clear hp2;go_wp2;go_roundw
    . 
     refine⟨p+1,k+1,l9,u9,v9,by go_num,HP2.o,Or.inr (by have:=HPK.o;omega),?_⟩;rw [HTN.o,List.map_append,<- List.append_assoc,HSL.o];exact HT9.o
    . simp [intOf];omega
  . have d1:decide ((p:Int)+1<=(U.dk.sl.length:Int))=false:=decide_eq_false (by omega)
    have HE:Hd ((L ++ (Zax U (ZcT U)).map mx0) ++ (Zb6 U k).map mx0=L ++ (Zcj U).map mx0):=by
     unfold Hd Zcj;rw [HK0.o,show (k0:Int).toNat=k0 from rfl,show U.dk.sl.length - k0=k by omega,List.map_append,List.append_assoc]
    go_wp2
    go_end0
    exact⟨rfl,v',l,u,by rw [<- HE.o];exact HS.o⟩
end Go.Proofs.YtdeammfdkaomlaaGreat
