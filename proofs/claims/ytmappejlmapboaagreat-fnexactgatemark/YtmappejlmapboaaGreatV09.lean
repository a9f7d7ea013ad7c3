import Derived.Test.YtmappejlmapboaaGreatV08
set_option maxHeartbeats 16000000
set_option maxRecDepth 100000
open Go.Proofs.Tryz
namespace Go.Proofs.YtmappejlmapboaaGreat
open Go.RowKit Go.Deep
variable {Fs:List Fd}
theorem Zau.take {lo:Nat}{w:World}{b off cap k:Nat} (hk:k<=Fs.length) (hm:Fs.length<=maxLen) (hb:b < w.heap.size) (hlo:lo<=b) (hcap:Fs.length<=cap)
 (hc:∀ i (h:i < Fs.length),ZeD Fs[i]/\∃ wv,Zcw w b (off+i*11) Fs[i] wv/\Zaq lo w wv Fs[i].words):Zau lo w (.slice (some ⟨b,off,none⟩) k cap) (Fs.take k):=by
 have hl:(Fs.take k).length=k:=by rw [List.length_take];omega
 by_cases h0:k=0
 . subst h0;exact Or.inl ⟨_,_,rfl,by simp⟩
 . refine Or.inr ⟨b,off,cap,by rw [hl],?_,by omega,hb,hlo,by omega,fun i hi=>?_⟩
   . intro e;rw [e] at hl;simp at hl;omega
   . rw [List.getElem_take]
     exact hc i (by omega)
section
variable (nm to df we:Zy_) (kd le mo ro:Int) (mu fx:Bool) (wv:Value) (w:World)
theorem Zo4 (s:Zy_) (B:Nat) (hB:B < w.heap.size) (hs:w.cell? ⟨B,0,none⟩=some (.string s)) :
 Calls prog 281 #[.agg #[.string nm,.int .i64 kd,.int .i64 le,.int .i64 mo,wv,.string to,.int .i64 ro,.bool mu,.bool fx,.string df,.string we],.pointer (some ⟨B,0,none⟩)] w
  fun e w'=>e=.returned (.bool (nm.toList == s.toList))/\Zw_ w w':=by
 go_enter func281,ntmps281;go_wp2;go_ret;exact⟨rfl,Zb_.alloc Zl_ _⟩
end
theorem Zqo {s:Zy_} (h:∀ j (hj:j < Fs.length),(Fs[j].nm.toList == s.toList)=false):ZlE Fs s=false:=by
 have:=Zig (Fs:=Fs) (s:=s) (k:=Fs.length) (fun j hj _=>h j hj)
 rwa [List.take_of_length_le Zl_] at this
theorem Zqp {s:Zy_}{j:Nat} (hj:j < Fs.length) (h:(Fs[j].nm.toList == s.toList)=true):ZlE Fs s=true:=by
 have:=Zgl (Fs:=Fs) (s:=s) (k:=Fs.length) hj hj h
 rwa [List.take_of_length_le Zl_] at this
theorem Ziq (lo:Nat) (v:Value) (Fs:List Fd) (s:Zy_) (B:Nat) (w:World) (hv:Zau lo w v Fs) (hB:B < w.heap.size) (hs:w.cell? ⟨B,0,none⟩=some (.string s)) :
 Calls prog 294 #[v,.func (.func 281) #[] #[.pointer (some ⟨B,0,none⟩)]] w fun e w'=>∃ r:Int,e=.returned (.int .i64 r)/\Zw_ w w'/\decide (0<=r)=ZlE Fs s:=by
 by_cases hL:Fs=[]
 . subst hL
   obtain⟨a,cap,rfl⟩:=Zc6 hv;clear hv;go_enter func294,ntmps294;go_wp2
   go_loop [8] (fun i=>i=.int .i64 0) (fun _=>0)
   case atStart=>rfl
   case round=>
    subst hrel;go_wp2;go_ret;exact⟨-1,rfl,Below.refl _ _,rfl⟩
 . obtain⟨b,off,cap,rfl,hm,hbw,_,hc⟩:=hv.full hL
   clear hv;unfold maxLen at hm;go_enter func294,ntmps294;go_wp2
   go_loopw [8] (fun i wr=>∃ k:Nat,i=.int .i64 k/\k<=Fs.length/\Zw_ w wr/\∀ j (hj:j < Fs.length),j < k->(Fs[j].nm.toList == s.toList)=false) (fun i _=>Fs.length - (intOf i).toNat)
   case atStart=>exact⟨0,rfl,by omega,Below.refl _ _,fun j _ h=>by omega⟩
   case round=>
    obtain⟨k,rfl,hk,hb,hall⟩:=hrel;have HA:=Zab hall;have HB:=Zab hb;clear hall hb
    by_cases hlt:k < Fs.length
    . obtain⟨_,wv,hcell,_⟩:=hc k hlt
      obtain⟨c0,c1,c2,c3,c4,c5,c6,c7,c8,c9,c10⟩:=hcell.below HB.o hbw;clear hcell;go_wp2_with fail;refine (Zo4 _ _ _ _ _ _ _ _ _ _ _ _ s B (Zk_ hB HB.o.size) (by rw [HB.o.cell (p:=⟨B,0,none⟩) hB];exact hs)).mono ?_;rintro e w1 ⟨rfl,hb1⟩;have HB1:Hd (Zw_ w w1):=HB.o.trans (hb1.mono HB.o.size);clear hb1 c0 c1 c2 c3 c4 c5 c6 c7 c8 c9 c10
      cases he:(Fs[k].nm.toList == s.toList) with
      | true=>
       go_wp2;go_ret;exact⟨k,rfl,HB1.o,by rw [Zqp hlt he];simp⟩
      | false=>
       go_wp2;go_roundw
       case rel=>exact⟨k+1,by go_num,by omega,HB1.o,fun j hj h=>by
                  by_cases e:j=k
                  . subst e;exact he
                  . exact HA.o j hj (by omega)⟩
       . simp [intOf];omega
    . go_wp2
      go_ret;exact⟨-1,rfl,HB.o,by rw [Zqo fun j hj=>HA.o j hj (by omega)];rfl⟩
theorem Zgg (lo:Nat) (v:Value) (Fs:List Fd) (s:Zy_) (B:Nat) (w:World) (hv:Zau lo w v Fs) (hB:B < w.heap.size) (hs:w.cell? ⟨B,0,none⟩=some (.string s)) :
 Calls prog 280 #[v,.func (.func 281) #[] #[.pointer (some ⟨B,0,none⟩)]] w fun e w'=>e=.returned (.bool (ZlE Fs s))/\Zw_ w w':=by
 go_enter func280,ntmps280;go_wp2_with fail;refine (Ziq lo v Fs s B _ hv hB hs).mono ?_;rintro e w1 ⟨r,rfl,hb,hr⟩;have HR:=Zab hr;have HB:=Zab hb;clear hr hb;go_wp2;go_ret;exact⟨Zaa HR.o,HB.o⟩
theorem Zjd (lo:Nat) (v:Value) (Fs:List Fd) (s:Zy_) (w:World) (hv:Zau lo w v Fs) :
 Calls prog 262 #[v,.string s] w fun e w'=>e=.returned (.bool (ZlE Fs s))/\Zw_ w w':=by
 have HV:=Zab hv;obtain⟨a,cap,rfl⟩:=hv.form;clear hv;have HW:∀ o,Hd (Zw_ w (w.alloc o)):=fun o=>Zb_.alloc Zl_ _
 go_enter func262,ntmps262;go_wp2_with fail;refine (Zgg lo _ Fs s _ _ (HV.o.below (HW _).o) (by simp) (by simp)).mono ?_;rintro e w1 ⟨rfl,hb⟩;have HB:Hd (Zw_ w w1):=(HW _).o.trans (hb.mono (by simp));clear hb;go_wp2;go_ret;exact⟨rfl,HB.o⟩
end Go.Proofs.YtmappejlmapboaaGreat
