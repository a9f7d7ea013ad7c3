import Derived.Test.YtmappejlmapboaaGreatD00
import Derived.Laws.IdiomStrings
import Derived.Laws.Concat
import Derived.Deep.RegionWith
import Derived.Deep.OwnRows
import Derived.Maps.Own
import Derived.Maps.Views
import Derived.WideKeyEntry
set_option maxHeartbeats 16000000
set_option maxRecDepth 100000
open Go.Proofs.Tryz
namespace Go.Proofs.YtmappejlmapboaaGreat
section
open Go.RowKit Go.Deep
def Zhn:Nat->Nat->List UInt8->List UInt8
 | 0,_,acc=>acc
 | f+1,k,acc=>if k=0 then acc else Zhn f (k / 10) (UInt8.ofNat (48+k % 10) :: acc)
theorem ZhK (f:Nat) (acc:List UInt8):Zhn f 0 acc=acc:=by cases f <;> simp [Zhn]
theorem ZpS (k:Nat):∀ f acc,k<=f->Zhn f k acc=Zhn k k acc:=by
 induction k using Nat.strongRecOn with
 | _ k ih=>
  intro f acc hf
  by_cases h0:k=0
  . subst h0;rw [ZhK,ZhK]
  . obtain⟨f',rfl⟩:∃ f',f=f'+1:=⟨f - 1,by omega⟩
    obtain⟨k',rfl⟩:∃ k',k=k'+1:=⟨k - 1,by omega⟩
    have h1:(k'+1) / 10 < k'+1:=by omega
    rw [show Zhn (f'+1) (k'+1) acc=Zhn f' ((k'+1) / 10) (UInt8.ofNat (48+(k'+1) % 10) :: acc) from by simp [Zhn],
     show Zhn (k'+1) (k'+1) acc=Zhn k' ((k'+1) / 10) (UInt8.ofNat (48+(k'+1) % 10) :: acc) from by simp [Zhn]]
    rw [ih _ h1 f' _ (by omega),ih _ h1 k' _ (by omega)]
theorem ZpT (k:Nat) (acc:List UInt8) (h:0 < k):Zhn k k acc=Zhn (k / 10) (k / 10) (UInt8.ofNat (48+k % 10) :: acc):=by
 obtain⟨k',rfl⟩:∃ k',k=k'+1:=⟨k - 1,by omega⟩
 rw [show Zhn (k'+1) (k'+1) acc=Zhn k' ((k'+1) / 10) (UInt8.ofNat (48+(k'+1) % 10) :: acc) from by simp [Zhn]];exact ZpS _ _ _ (by omega)
def mtB (k:Int):Zy_:=if k<=0 then ⟨#[109,48]⟩ else ⟨(109 :: Zhn k.toNat k.toNat []).toArray⟩
theorem Zal (k:Int) (w:World) (hk:k<=4000000000000000000) :
 Calls prog 104 #[.int .i64 k] w fun e w'=>e=.returned (.string (mtB k))/\Zw_ w w':=by
 by_cases h0:k<=0
 . go_enter func104,ntmps104
   go_wp2;go_ret;exact⟨by unfold mtB;rw [if_pos h0];rfl,Below.refl _ _⟩
 . obtain⟨n,rfl⟩:=Int.eq_ofNat_of_zero_le (show 0<=k by omega)
   go_enter func104,ntmps104;go_wp2
   go_loopw [0,3] (fun q o wr=>∃ (j:Nat) (l:List UInt8),q=.int .i64 j/\o=.string ⟨l.toArray⟩/\l.length+j<=n/\Zw_ w wr/\Hd (Zhn j j l=Zhn n n [])) (fun q _ _=>(intOf q).toNat)
   case atStart=>exact⟨n,[],rfl,rfl,by simp,Below.refl _ _,rfl⟩
   case round=>
    obtain⟨j,l,rfl,rfl,hl,hb,hd⟩:=hrel
    by_cases hj:0 < j
    . have hn8:(UInt8.ofNat (48+j % 10)).toNat=48+j % 10:=by rw [UInt8.toNat_ofNat'];omega
      have hcv:(convert 209 9 (.slice (some ⟨wr.heap.size,0,none⟩) 1 1)).run prog (wr.alloc (.cells #[.int .u8 (48+(j:Int) % 10)] 5))=.ok (.string ⟨#[UInt8.ofNat (48+j % 10)]⟩) (wr.alloc (.cells #[.int .u8 (48+(j:Int) % 10)] 5)):=by
       have:=run_convert_bytes_back (P:=prog) (wr.alloc (.cells #[.int .u8 (48+(j:Int) % 10)] 5)) 209 9 5 ⟨wr.heap.size,0,none⟩ 1 [UInt8.ofNat (48+j % 10)] underlying209 underlying5 underlying9 (fun i hi=>by
        have e:i=0:=by simp at hi;omega
        subst e;simp only [List.getElem_cons_zero,hn8];simp [Addr.add])
       exact this
      have had:∀ W,(Op.stringOp .add ⟨#[UInt8.ofNat (48+j % 10)]⟩ ⟨l.toArray⟩).run prog W=.ok (.string ⟨(UInt8.ofNat (48+j % 10) :: l).toArray⟩) W:=fun W=>by
       have:=run_string_add_sum (P:=prog) (w:=W) ⟨#[UInt8.ofNat (48+j % 10)]⟩ ⟨l.toArray⟩ (by simp [ByteArray.size];omega);rw [this]
       rfl
      have HD:Hd (Zhn (j / 10) (j / 10) (UInt8.ofNat (48+j % 10) :: l)=Zhn n n []):=by unfold Hd;rw [<- ZpT j l hj];exact hd
      have HB:=Zab hb;clear hn8 hd hb;generalize UInt8.ofNat (48+j % 10)=dg at*;go_wp2;go_roundw
      . exact⟨j / 10,dg :: l,by go_num,rfl,by simp;omega,HB.o.alloc HB.o.size _,HD⟩
      . simp [intOf];omega
    . have had:∀ W,(Op.stringOp .add ⟨#[109]⟩ ⟨l.toArray⟩).run prog W=.ok (.string ⟨(109 :: l).toArray⟩) W:=fun W=>by
       have:=run_string_add_sum (P:=prog) (w:=W) ⟨#[109]⟩ ⟨l.toArray⟩ (by simp [ByteArray.size];omega);rw [this]
       rfl
      have HM:Hd (mtB n=⟨(109 :: l).toArray⟩):=by
       have e:j=0:=by omega
       subst e;unfold Hd mtB;rw [if_neg (by omega),Int.toNat_natCast,<- hd,ZhK]
      clear hd;go_wp2;go_ret;exact⟨by rw [HM.o];rfl,hb⟩
theorem Zb4 (k:Int) (hk:k<=4000000000000000000):(mtB k).size<=maxLen:=by
 unfold mtB
 by_cases h:k<=0
 . rw [if_pos h];simp [ByteArray.size,maxLen]
 . rw [if_neg h]
   have:∀ (f j:Nat) (l:List UInt8),(Zhn f j l).length<=l.length+f:=by
    intro f
    induction f with
    | zero=>intro j l;simp [Zhn]
    | succ f ih=>
     intro j l;rw [Zhn]
     by_cases h0:j=0
     . rw [if_pos h0];omega
     . rw [if_neg h0]
       have:=ih (j / 10) (UInt8.ofNat (48+j % 10) :: l);simp only [List.length_cons] at this;omega
   have:=this k.toNat k.toNat [];simp [ByteArray.size,maxLen] at*
   omega
end
section
open Go.RowKit Go.Deep
variable {lo hi lo' hi':Nat} {a b w w':World} {v:Value}
structure Zag (lo hi:Nat) (w w':World):Prop where
 os:w'.os=w.os
 tape:w'.tape=w.tape
 output:w'.output=w.output
 size:w.heap.size<=w'.heap.size
 block:∀ k,k < w.heap.size->(k < lo\/hi<=k)->w'.heap[k]?=w.heap[k]?
theorem Zag.refl (lo hi:Nat) (w:World):Zag lo hi w w:=⟨rfl,rfl,rfl,Nat.le_refl _,fun _ _ _=>rfl⟩
theorem Zag.trans {c:World} (h:Zag lo hi a b) (k:Zag lo hi b c):Zag lo hi a c:=
 ⟨k.os.trans h.os,k.tape.trans h.tape,k.output.trans h.output,Nat.le_trans h.size k.size,fun i hi' ho=>(k.block i (Zk_ hi' h.size) ho).trans (h.block i hi' ho)⟩
theorem Zag.below (h:Below a.heap.size a b):Zag lo hi a b:=⟨h.os,h.tape,h.output,h.size,fun k hk _=>h.block k hk⟩
theorem Zag.setCell (lo hi:Nat) (w:World) (p:Addr) (u:Value) (h:lo<=p.block/\p.block < hi):Zag lo hi w (w.setCell p u):=
 ⟨rfl,rfl,rfl,by simp [World.setCell],fun k _ ho=>Below.heap_setCell _ _ _ _ (by omega)⟩
theorem Zag.cell (h:Zag lo hi w w') {p:Addr} (hp:p.block < w.heap.size) (ho:p.block < lo\/hi<=p.block):w'.cell? p=w.cell? p:=World.cell?_of_block (w:=w) (h.block p.block hp ho)
theorem Zag.frozen (h:Zag lo hi w w') {p:Addr} (hp:p.block < w.heap.size) (ho:p.block < lo\/hi<=p.block):w'.frozen? p=w.frozen? p:=World.frozen?_of_block (w:=w) (h.block p.block hp ho)
theorem Zag.wide (h:Zag lo hi a b) (h1:lo'<=lo) (h2:hi<=hi'):Zag lo' hi' a b:=⟨h.os,h.tape,h.output,h.size,fun k hk ho=>h.block k hk (by omega)⟩
theorem Zag.under (h:Zag lo hi a b) (hl:lo<=a.heap.size):Below lo a b:=⟨h.os,h.tape,h.output,h.size,fun k hk=>h.block k (by omega) (Or.inl hk)⟩
def Zad (lo hi:Nat) (w:World) (v:Value) (L:List Zy_):Prop:=
 (∃ (a:Option Addr) (cap:Nat),v=.slice a 0 cap/\L=[])\/
 ∃ (b off cap:Nat),v=.slice (some ⟨b,off,none⟩) L.length cap/\L≠[]/\L.length<=maxLen/\b < w.heap.size/\
  (∀ i (h:i < L.length),w.cell? ⟨b,off+i,none⟩=some (.string L[i]))/\(∀ s ∈ L,s.size<=maxLen)/\lo<=b/\b < hi/\∀ i,w.frozen? ⟨b,off+i,none⟩=false
theorem Zad.at {L:List Zy_} (h:Zad lo hi w v L):Zaf w v L:=by
 rcases h with h | ⟨b,off,cap,h1,h2,h3,h4,h5,h6,_⟩
 . exact Or.inl h
 . exact Or.inr ⟨b,off,cap,h1,h2,h3,h4,h5,h6⟩
theorem Zad.touch {L:List Zy_} (h:Zad lo hi w v L) (ht:Zag lo' hi' w w') (ho:hi<=lo'\/hi'<=lo):Zad lo hi w' v L:=by
 rcases h with h | ⟨b,off,cap,h1,h2,h3,h4,h5,h6,h7,h8,h9⟩
 . exact Or.inl h
 . exact Or.inr ⟨b,off,cap,h1,h2,h3,Zk_ h4 ht.size,fun i hi'=>by rw [ht.cell (p:=⟨b,_,none⟩) h4 (by simp only [];omega)];exact h5 i hi',h6,h7,h8,fun i=>by rw [ht.frozen (p:=⟨b,_,none⟩) h4 (by simp only [];omega)];exact h9 i⟩
def Zf8 (k:Int) (n:Nat):List Zy_:=(List.range n).map fun (i:Nat)=>mtB (k+(i:Int))
theorem Zf9 (k:Int) (n:Nat):(Zf8 k n).length=n:=by simp [Zf8]
theorem Zqu (k:Int) (n i:Nat) (h:i < (Zf8 k n).length):(Zf8 k n)[i]=mtB (k+i):=by simp [Zf8]
theorem Zg7 (lo hi:Nat) (v:Value) (L:List Zy_) (k:Int) (w:World) (hv:Zad lo hi w v L) (h0:0<=k) (hk:k+L.length<=4000000000000000000) :
 Calls prog 106 #[v,.int .i64 k] w fun e w'=>e=.returned (.int .i64 (k+L.length))/\Zag lo hi w w'/\Zad lo hi w' v (Zf8 k L.length):=by
 rcases hv with ⟨a,cap,rfl,rfl⟩ | ⟨b,off,cap,rfl,hne,hm,hbw,hc,hsz,hlo,hhi,hfr⟩
 . go_enter func106,ntmps106
   go_wp2
   go_loop [5,1] (fun i q=>i=.int .i64 0/\q=.int .i64 k) (fun _ _=>0)
   case atStart=>exact⟨rfl,rfl⟩
   case round=>
    obtain⟨rfl,rfl⟩:=hrel;go_wp2;go_ret;exact⟨by simp,Zag.refl _ _ _,Or.inl ⟨_,_,rfl,rfl⟩⟩
 . unfold maxLen at hm
   go_enter func106,ntmps106;go_wp2
   go_loopw [5,1] (fun i q wr=>∃ j:Nat,i=.int .i64 j/\q=.int .i64 (k+j)/\j<=L.length/\Zag lo hi w wr/\(∀ i,i < j->wr.cell? ⟨b,off+i,none⟩=some (.string (mtB (k+i))))/\(∀ i (h:i < L.length),j<=i->wr.cell? ⟨b,off+i,none⟩=some (.string L[i]))/\∀ i,wr.frozen? ⟨b,off+i,none⟩=false) (fun i _ _=>L.length - (intOf i).toNat)
   case atStart=>exact⟨0,rfl,by simp,by omega,Zag.refl _ _ _,fun i h=>by omega,fun i h _=>hc i h,hfr⟩
   case round=>
    obtain⟨j,rfl,rfl,hj,ht,hA,hB,hF⟩:=hrel;have HT:=Zab ht;have HA:=Zab hA;have HBB:=Zab hB;have HF:=Zab hF;clear ht hA hB hF
    by_cases hlt:j < L.length
    . have hbr:b < wr.heap.size:=Zk_ hbw HT.o.size
      go_wp2_with fail;refine (Zal _ _ (by omega)).mono ?_;rintro e w1 ⟨rfl,hb1⟩;have hcj:w1.cell? ⟨b,off+j,none⟩=some (.string L[j]):=by rw [hb1.cell (p:=⟨b,_,none⟩) hbr];exact HBB.o j hlt Zl_
      have hfj:w1.frozen? ⟨b,off+j,none⟩=false:=by rw [hb1.frozen (p:=⟨b,_,none⟩) hbr];exact HF.o j
      have HB1:=Zab hb1;clear hb1;go_wp2;go_roundw
      . 
       refine⟨j+1,by go_num,by go_num,by omega,(HT.o.trans (Zag.below HB1.o)).trans (Zag.setCell _ _ _ _ _ ⟨hlo,hhi⟩),fun i hi'=>?_,fun i h hi'=>?_,fun i=>?_⟩
       . by_cases e:i=j
         . subst e;exact World.cell?_setCell_same' _ _ _ (by rw [hcj];rfl)
         . rw [show (w1.setCell ⟨b,off+j,none⟩ (.string (mtB (k+j)))).cell? ⟨b,off+i,none⟩=w1.cell? ⟨b,off+i,none⟩ from by apply World.cell?_setCell_other;simp only [ne_eq,Addr.mk.injEq,not_and];omega,HB1.o.cell (p:=⟨b,_,none⟩) hbr]
           exact HA.o i (by omega)
       . rw [show (w1.setCell ⟨b,off+j,none⟩ (.string (mtB (k+j)))).cell? ⟨b,off+i,none⟩=w1.cell? ⟨b,off+i,none⟩ from by apply World.cell?_setCell_other;simp only [ne_eq,Addr.mk.injEq,not_and];omega,HB1.o.cell (p:=⟨b,_,none⟩) hbr]
         exact HBB.o i h (by omega)
       . rw [World.frozen?_setCell,HB1.o.frozen (p:=⟨b,_,none⟩) hbr]
         exact HF.o i
      . simp [intOf];omega
    . have e:j=L.length:=by omega
      subst e;go_wp2;go_ret;refine⟨rfl,HT.o,Or.inr ⟨b,off,cap,by rw [Zf9],?_,by rw [Zf9];unfold maxLen;omega,Zk_ hbw HT.o.size,fun i h=>?_,fun s hs=>?_,hlo,hhi,HF.o⟩⟩
      . intro e;have:=congrArg List.length e;rw [Zf9] at this;simp at this;exact hne this
      . rw [Zqu];exact HA.o i (by rw [Zf9] at h;exact h)
      . obtain⟨i,hi',rfl⟩:=List.mem_map.1 hs
        exact Zb4 _ (by have:=List.mem_range.1 hi';omega)
end
section
open Go.RowKit Go.Deep
section
variable (kind nm team:Zy_) (vv hv:Value) (en:Bool) (ver:Int) (V Ho:List Zy_) (w:World)
def Zuj (V Ho:List Zy_) (left r:Int):Prop:= -1<=r/\r<=left/\(0<=r->(V.length:Int)<=left/\(Ho.length:Int)<=left)
theorem Zq9 (left:Int) (hV:Zaf w vv V) (hH:Zaf w hv Ho) (h0:0<=left) (h1:left<=1048576) (s1:kind.size<=maxLen) (s2:nm.size<=maxLen) (s3:team.size<=maxLen) :
 Calls prog 77 #[.agg #[.string kind,.string nm,.string team,vv,.bool en,hv,.int .i64 ver],.int .i64 left] w
  fun e w'=>∃ r:Int,e=.returned (.int .i64 r)/\Zw_ w w'/\Zuj V Ho left r:=by
 have HV:=Zab hV;have HH:=Zab hH;obtain⟨a,n,cap,rfl⟩:=hV.form;obtain⟨a',n',cap',rfl⟩:=hH.form;clear hV hH;unfold maxLen at s1 s2 s3;have HW:∀ o,Hd (Zw_ w (w.alloc o)):=fun o=>Zb_.alloc Zl_ _
 by_cases c1:(kind.size:Int)<=left
 . by_cases c2:(kind.size:Int)+nm.size<=left
   . by_cases c3:(kind.size:Int)+nm.size+team.size<=left
     . go_enter func77,ntmps77
       go_wp2_with fail;refine (ZgM _ V _ _ (by omega) (by omega) (HV.o.below (HW _).o)).mono ?_;rintro e w1 ⟨r,rfl,rfl,q0,q1,q2⟩
       by_cases hr:r < 0
       . go_wp2
         go_ret;exact⟨-1,rfl,(HW _).o,by omega,by omega,fun h=>by omega⟩
       . go_wp2_with fail
         refine (ZgM _ Ho _ _ (by omega) (by omega) (HH.o.below (HW _).o)).mono ?_;rintro e w1 ⟨r2,rfl,rfl,p0,p1,p2⟩;go_wp2
         all_goals go_ret
         all_goals first
          | exact⟨_,rfl,(HW _).o,by omega,by omega,fun h=>⟨by have:=q2 (by omega);omega,by have:=p2 (by omega);omega⟩⟩
          | exact⟨-1,rfl,(HW _).o,by omega,by omega,fun h=>by omega⟩
     . go_enter func77,ntmps77
       go_wp2;go_ret;exact⟨-1,rfl,(HW _).o,by omega,by omega,fun h=>by omega⟩
   . go_enter func77,ntmps77
     go_wp2;go_ret;exact⟨-1,rfl,(HW _).o,by omega,by omega,fun h=>by omega⟩
 . go_enter func77,ntmps77
   go_wp2;go_ret;exact⟨-1,rfl,(HW _).o,by omega,by omega,fun h=>by omega⟩
theorem Zrn (hV:Zaf w vv V) (hH:Zaf w hv Ho) (n1:V.length<=1048576) (n2:Ho.length<=1048576) :
 Calls prog 89 #[.agg #[.string kind,.string nm,.string team,vv,.bool en,hv,.int .i64 ver]] w
  fun e w'=>∃ v' h',e=.returned (.agg #[.string kind,.string nm,.string team,v',.bool en,h',.int .i64 ver])/\Zw_ w w'/\Zaq w.heap.size w' v' V/\Zaq w.heap.size w' h' Ho:=by
 have HV:=Zab hV;have HH:=Zab hH;obtain⟨a,n,cap,rfl⟩:=hV.form;obtain⟨a',n',cap',rfl⟩:=hH.form;clear hV hH;have HW:∀ o o' o'',Hd (Zw_ w (((w.alloc o).alloc o').alloc o'')):=fun o o' o''=>((Zb_.alloc Zl_ _).alloc (by simp) _).alloc (by simp;omega) _
 go_enter func89,ntmps89;go_wp2_with fail;refine (ZgQ _ V _ (HV.o.below (HW _ _ _).o) n1).mono ?_;rintro e w1 ⟨v1,rfl,hb,hs⟩;obtain⟨a1,m1,cap1,rfl⟩:=hs.form;have HS:Hd (Zaq (w.heap.size+3) w1 (.slice a1 m1 cap1) V):=hs.mono (by simp);have hz:w.heap.size+2 < w1.heap.size:=by have:=hb.size;simp at this;omega
 obtain⟨hc,hf⟩:=Zgu hb;have HB:Hd (Zw_ w w1):=(HW _ _ _).o.trans (hb.mono (by simp;omega));clear hb hs;go_wp2_with fail;have hX:Hd (Zw_ w ((w1.setCell ⟨w.heap.size+1+1,3,none⟩ (.slice a1 m1 cap1)).setCell ⟨w.heap.size+1+1,4,none⟩ (.bool en))):=(HB.o.setCell (by simp only [];omega) _).setCell (by simp only [];omega) _;have hXs:((w1.setCell ⟨w.heap.size+1+1,3,none⟩ (.slice a1 m1 cap1)).setCell ⟨w.heap.size+1+1,4,none⟩ (.bool en)).heap.size=w1.heap.size:=by simp [World.setCell]
 have HS':=Zab ((HS.o.setCell (p:=⟨w.heap.size+1+1,3,none⟩) (by simp only [];omega) (.slice a1 m1 cap1)).setCell (p:=⟨w.heap.size+1+1,4,none⟩) (by simp only [];omega) (.bool en));refine (ZgQ _ Ho _ (HH.o.below hX.o) n2).mono ?_;rintro e w2 ⟨v2,rfl,hb2,hs2⟩;obtain⟨a2,m2,cap2,rfl⟩:=hs2.form;have HS2:Hd (Zaq (w.heap.size+3) w2 (.slice a1 m1 cap1) V):=HS'.o.below hb2;have HH2:Hd (Zaq (w.heap.size+3) w2 (.slice a2 m2 cap2) Ho):=hs2.mono (by rw [hXs];omega);have hz2:w.heap.size+2 < w2.heap.size:=by have:=hb2.size;rw [hXs] at this;omega
 have HB2:Hd (Zw_ w w2):=hX.o.trans (hb2.mono hX.o.size);have hc2:∀ b o,b < w1.heap.size->w2.cell? ⟨b,o,none⟩=((w1.setCell ⟨w.heap.size+1+1,3,none⟩ (.slice a1 m1 cap1)).setCell ⟨w.heap.size+1+1,4,none⟩ (.bool en)).cell? ⟨b,o,none⟩:=fun b o h=>hb2.cell (p:=⟨b,o,none⟩) (by rw [hXs];exact h)
 have hf2:∀ b o,b < w1.heap.size->w2.frozen? ⟨b,o,none⟩=((w1.setCell ⟨w.heap.size+1+1,3,none⟩ (.slice a1 m1 cap1)).setCell ⟨w.heap.size+1+1,4,none⟩ (.bool en)).frozen? ⟨b,o,none⟩:=fun b o h=>hb2.frozen (p:=⟨b,o,none⟩) (by rw [hXs];exact h)
 clear hb2 hs2 hXs;have hz0:w.heap.size < w1.heap.size:=by omega
 have hz1:w.heap.size+1 < w1.heap.size:=by omega
 have hz1':w.heap.size+1+1 < w1.heap.size:=by omega
 go_wp2;refine bodyPost_ret (v:=.agg #[.string kind,.string nm,.string team,.slice a1 m1 cap1,.bool en,.slice a2 m2 cap2,.int .i64 ver]) (by simp [results,results89,go_sem,hc,hc2,hz1]) rfl ⟨_,_,rfl,?_,?_,?_⟩
 . repeat (refine Below.setCell ?_ (by simp only [];omega) _)
   exact HB2.o
 . refine Zaq.mono (lo:=w.heap.size+3) ?_ (by omega)
   repeat (refine Zaq.setCell ?_ (by simp only [];omega) _)
   exact HS2.o
 . refine Zaq.mono (lo:=w.heap.size+3) ?_ (by omega)
   repeat (refine Zaq.setCell ?_ (by simp only [];omega) _)
   exact HH2.o
theorem Zn6 (vv' hv':Value) (hV:Zaf w vv V) (hH:Zaf w hv Ho) (hV':Zaf w vv' V) (hH':Zaf w hv' Ho) :
 Calls prog 100 #[.agg #[.string kind,.string nm,.string team,vv,.bool en,hv,.int .i64 ver],.agg #[.string kind,.string nm,.string team,vv',.bool en,hv',.int .i64 ver]] w
  fun e w'=>e=.returned (.bool true)/\Zw_ w w':=by
 have HV:=Zab hV;have HH:=Zab hH;have HV':=Zab hV';have HH':=Zab hH';obtain⟨a,n,cap,rfl⟩:=hV.form;obtain⟨a1,n1,cap1,rfl⟩:=hH.form;obtain⟨a2,n2,cap2,rfl⟩:=hV'.form;obtain⟨a3,n3,cap3,rfl⟩:=hH'.form;clear hV hH hV' hH';have HW:∀ o o',Hd (Zw_ w ((w.alloc o).alloc o')):=fun o o'=>(Zb_.alloc Zl_ _).alloc (by simp) _
 go_enter func100,ntmps100;go_wp2_with fail;refine (ZfF _ _ V _ (HV.o.below (HW _ _).o) (HV'.o.below (HW _ _).o)).mono ?_;rintro e w1 ⟨rfl,hb⟩;have hz:w.heap.size+1 < w1.heap.size:=by have:=hb.size;simp at this;omega
 have HB:Hd (Zw_ w w1):=(HW _ _).o.trans (hb.mono (by simp;omega));obtain⟨hc,hf⟩:=Zgu hb;clear hb;go_wp2_with fail;refine (ZfF _ _ Ho _ (HH.o.below HB.o) (HH'.o.below HB.o)).mono ?_;rintro e w2 ⟨rfl,hb2⟩;have HB2:Hd (Zw_ w w2):=HB.o.trans (hb2.mono HB.o.size);have hz2:w.heap.size < w1.heap.size:=by omega
 obtain⟨hc2,hf2⟩:=Zgu hb2;clear hb2;go_wp2;go_ret;exact⟨rfl,HB2.o⟩
end
end
open Go.RowKit Go.Deep Go.Maps Go.ChangeMaps Go.MapKept
open Go.WideElems (Fit)
variable {P:Program} {w:World} {k:TypeId}
theorem ZcA {H:Type}{w':World}{R:Value->Option (DataW H×List MemPlace)}{b n:Nat}{D:DataW H} (h:w.ownsMap P k R b n D) (hb:w'.heap[b]?=w.heap[b]?):w'.ownsMap P k R b n D:=by
 obtain⟨es,clock,h1,h2,h3,h4⟩:=h;exact⟨es,clock,hb.trans h1,h2,h3,h4⟩
theorem ZkB {H:Type}{t e:TypeId}{q:IntKind} (L:WideMaps.KeyLaw P k) (ht:P.underlying t=some (.map k e)) (he:P.underlying e=some (.int q))
 (hz:∀ u:World,(zeroValue e).run P u=.ok (.int q 0) u) {b n:Nat} {D:DataW H} (h:w.ownsMap P k (plainElem P e) b n D) (hn:n < maxLen) {key:Value} {kl:Lit} (hkey:keyOf P k key=some kl) :
 ∃ (c:Int) (v0:Value) (st:Nat) (w1:World),(Instr.mapEntry t (.map (some b)) key).run P w=.ok (.tuple #[v0,goInt st]) w1/\D.atKey kl (.lit (.int q 0))=.lit (.int q c)/\(Lit.int q c).wf=true/\
  (Instr.lookup t (.map (some b)) key false).run P w=.ok (.int q c) w/\(Instr.lookup t (.map (some b)) key false).run P w1=.ok (.int q c) w1/\w.grownBy w1 (some b)/\w1.heap.size=w.heap.size/\
  ∀ (val:Int),(Lit.int q val).wf=true->∃ w2,(Instr.entryStore t (.map (some b)) (goInt st) (.int q val)).run P w1=.ok () w2/\w2.ownsMap P k (plainElem P e) b (n+1) (D.put kl (.lit (.int q val)))/\w.grownBy w2 (some b)/\w2.heap.size=w.heap.size:=by
 have K:Keyed P k:=Keyed.of_law L;have hw0:(Lit.int q 0).wf=true:=by cases q <;> decide
 obtain⟨c,hl,hat,hwc⟩:=h.lookup_int K ht he (hz w) hkey;have hup:=h.update K ht hn hkey (plainElem_int (H:=H) he hw0);have hups:∀ val:Int,(Lit.int q val).wf=true->_:=fun val hv=>h.update K ht hn hkey (plainElem_int (H:=H) he hv)
 have h':=h;obtain⟨es,clock,hb,F,hs,hD⟩:=h;obtain⟨v0,st,es1,clock1,hrun,-,hst⟩:=WideElems.entry_then_store L ht hz hb F hkey;have hone:(setBlock w b (.map es1 clock1)).heap[b]?=some (.map es1 clock1):=heap_setBlock_same hb _;have hgr:∀ o,w.grownBy (setBlock w b o) (some b):=fun o=>⟨rfl,rfl,rfl,by simp [setBlock],fun i _ hi=>heap_setBlock_other hb _ (fun e=>hi (by rw [e]))⟩
 have hlook:(Instr.lookup t (.map (some b)) key false).run P (setBlock w b (.map es1 clock1))=.ok (.int q c) (setBlock w b (.map es1 clock1)):=by
  rcases L.find w hkey es.toList F.keys with ⟨h1,h2⟩ | ⟨j,e0,h1,h2,h3⟩
  . have hm:(Instr.mapEntry t (.map (some b)) key).run P w=.ok (.tuple #[.int q 0,goInt clock]) (setBlock w b (.map (es.push ⟨key,.int q 0,clock⟩) (clock+1))):=by
     simp [Instr.mapEntry,run_underlying ht,MapKept.run_getObj_map hb,L.check w false hkey,h1,hz,MapKept.run_setObj_map _ hb,Result.andThen,setBlock]
    have hu:(Instr.mapUpdate t (.map (some b)) key (.int q 0)).run P w=.ok () (setBlock w b (.map (es.push ⟨key,.int q 0,clock⟩) (clock+1))):=by
     simp [Instr.mapUpdate,run_underlying ht,MapKept.run_getObj_map hb,L.check w false hkey,h1,MapKept.run_setObj_map _ hb,Result.andThen,setBlock]
    obtain⟨w',hr',ho',-⟩:=hup;rw [hu] at hr';rw [hm] at hrun;have e1:setBlock w b (.map (es.push ⟨key,.int q 0,clock⟩) (clock+1))=setBlock w b (.map es1 clock1):=by injection hrun
    have e2:setBlock w b (.map (es.push ⟨key,.int q 0,clock⟩) (clock+1))=w':=by injection hr'
    rw [<- e2,e1] at ho';obtain⟨c',hl',hat',-⟩:=ho'.lookup_int K ht he (hz _) hkey
    have hc0:c=0:=by
     have hlk:(Instr.lookup t (.map (some b)) key false).run P w=.ok (.int q 0) w:=by
      simp [Instr.lookup,run_underlying ht,MapKept.run_getObj_map hb,L.check w _ hkey,h1,hz,Result.andThen]
     rw [hl] at hlk;injection hlk with e
     injection e
    rw [atKey_put_same (by rw [hD];exact⟨_,rfl⟩) (K.key hkey)] at hat'
    have:c'=0:=by
     injection hat' with e
     injection e with _ e
     exact e.symm
    rw [hc0,<- this];exact hl'
  . have hj:es[j]?=some e0:=by simpa using h2
    have hsame:es.modify j (fun e=>{ e with key:=key })=es:=by
     apply Array.ext';rw [Array.toList_modify];apply List.ext_getElem?;intro i;rw [List.getElem?_modify]
     by_cases ij:j=i
     . subst ij
       rw [h2];simp [<- h3]
     . simp [ij]
    have hm:(Instr.mapEntry t (.map (some b)) key).run P w=.ok (.tuple #[e0.val,goInt e0.born]) (setBlock w b (.map es clock)):=by
     simp [Instr.mapEntry,run_underlying ht,MapKept.run_getObj_map hb,L.check w false hkey,h1,hj,h3,L.stays w hkey,hsame,MapKept.run_setObj_map _ hb,Result.andThen,setBlock]
    rw [hm] at hrun;have e1:setBlock w b (.map es clock)=setBlock w b (.map es1 clock1):=by injection hrun
    have ho:(setBlock w b (.map es1 clock1)).ownsMap P k (plainElem P e) b n D:=by
     rw [<- e1];exact ZcA h' ((heap_setBlock_same hb _).trans hb.symm)
    obtain⟨c',hl',hat',-⟩:=ho.lookup_int K ht he (hz _) hkey;rw [hat] at hat'
    have:c=c':=by
     injection hat' with e
     injection e with _ e
    rw [this];exact hl'
 refine⟨c,v0,st,_,hrun,hat,hwc,hl,hlook,hgr _,by simp [setBlock],fun val hv=>?_⟩;obtain⟨es',clock',hrs,hmu⟩:=hst _ (.int q val) hone;obtain⟨w',hr',ho',hg'⟩:=hups val hv;rw [hmu] at hr';have e2:setBlock w b (.map es' clock')=w':=by injection hr'
 refine⟨_,hrs,ZcA ho' ?_,?_,by simp [setBlock]⟩
 . rw [heap_setBlock_same hone,<- e2,heap_setBlock_same hb]
 . exact (hgr _).trans ⟨rfl,rfl,rfl,by simp [setBlock],fun i _ hi=>heap_setBlock_other hone _ (fun e=>hi (by rw [e]))⟩
end Go.Proofs.YtmappejlmapboaaGreat
