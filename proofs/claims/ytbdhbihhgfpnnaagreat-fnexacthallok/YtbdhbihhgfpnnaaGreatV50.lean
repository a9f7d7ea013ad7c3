import Derived.Test.YtbdhbihhgfpnnaaGreatV46
set_option maxHeartbeats 16000000
set_option maxRecDepth 100000
open Go.Proofs.Tryz
namespace Go.Proofs.YtbdhbihhgfpnnaaGreat
open Go.RowKit Go.Deep
variable {P:Program} {base:Nat}
def ZkW (base:Nat) (w':World) (e:TypeId) (size m:Nat) (v':Value) (news:List Value):Prop:=(m=0/\∃ a c,v'=.slice a 0 c)\/w'.ownsRow base e size v' m news
theorem Zf0 (w:World) (t ty e:TypeId) (i:TypeInfo) (z:Value) (size bytes:Nat) (ht:P.underlying t=some (.slice e)) (hi:P.info? e=some i) (hz:i.zero=some z)
 (hsize:i.size=size) (hby:i.bytes=bytes) (hzs:z.cells.size=size) (hsz:0 < size) (g:Addr) (ao:Option Addr) (m c:Nat) (news:List Value) (hl:news.length=m*size) (hm:ao=none->m=0)
 (hnews:∀ ad,ao=some ad->∀ j u,news[j]?=some u->w.cell? (ad.add j)=some u) (h63:m<=maxLen) (hbytes:m*bytes<=140737488355328) :
 ∃ v' w',(Builtin.append_ #[t,t] ty #[.slice (some g) 0 0,.slice ao m c]).run P w=.ok v' w'/\ZkW w.heap.size w' e size m v' news/\Zw_ w w':=by
 by_cases h0:m=0
 . subst h0
   refine⟨.slice (some g) 0 0,w,?_,Or.inl ⟨rfl,_,_,rfl⟩,Below.refl _ _⟩
   cases ao with
   | none=>simp [Builtin.append_,run_underlying ht,sizeOf,typeInfo,hi,Builtin.lenOf,Builtin.firstCells,storeCells]
   | some ad=>simp [Builtin.append_,run_underlying ht,sizeOf,typeInfo,hi,Builtin.lenOf,Builtin.firstCells,loadCells,loadCellsFrom,storeCells]
 . cases ao with
   | none=>exact absurd (hm rfl) h0
   | some ad=>
    subst hsize;subst hby
    have hsmall:m<=9223372036854775807:=by simp only [maxLen] at h63;omega
    have hr:=run_append_grow (P:=P) w t ty e i z ht hi hz g 0 0 [] (by simp) (fun j u h=>by simp at h) ad m c news hl (hnews ad rfl) (by omega) (by omega) (growslice_fits (by omega) (by simpa using hbytes));have hge:=grownCap_ge w (0+m) 0 e;have hcm:grownCap w (0+m) 0 e<=maxLen:=grownCap_le_maxLen w (0+m) 0 e (by simpa using h63);refine⟨_,_,hr,Or.inr ⟨hl,.inr ⟨w.heap.size,_,_,by rw [Nat.zero_add],Nat.le_refl _,heap_alloc_new w.drew _,by simpa using hge,hcm,?_,?_⟩⟩,Zb_.drew.alloc Zl_ _⟩
    . simp only [Nat.zero_add] at hge |-
      simp only [Array.size_append,List.size_toArray,size_zeroCells,hzs,hl,List.length_nil,Nat.zero_add,<- Nat.add_mul]
      congr 1
      omega
    . simp only [Array.toList_append,List.nil_append]
      rw [<- hl];exact List.take_left
theorem ZeR {w:World}{ops:Array Oper}{rest:List Oper}{o:Oper}{a:Act}{Q:Exit->Act->World->Prop} (hgd:o.guard=none) (s x:Operand) (t:TypeId)
 (ho:o.op=.call { callee:=.builtin .append,args:=#[s,x],argTypes:=#[t,t] })
 (e:TypeId) (i:TypeInfo) (z:Value) (size bytes:Nat) (ht:P.underlying t=some (.slice e)) (hi:P.info? e=some i) (hz:i.zero=some z)
 (hsize:i.size=size) (hby:i.bytes=bytes) (hzs:z.cells.size=size) (hsz:0 < size)
 (g:Addr) (hs:a.eval s=.slice (some g) 0 0)
 (ao:Option Addr) (m c:Nat) (news:List Value) (hx:a.eval x=.slice ao m c) (hl:news.length=m*size) (hm:ao=none->m=0) (hnews:∀ ad,ao=some ad->∀ j u,news[j]?=some u->w.cell? (ad.add j)=some u)
 (h63:m<=maxLen) (hbytes:m*bytes<=140737488355328)
 (h:∀ v' w',ZkW w.heap.size w' e size m v' news->Zw_ w w'->wpList P ops Q rest (a.put o.dst v') w') :
 wpList P ops Q (o :: rest) a w:=by
 refine wpList_plain hgd fun K hK=>?_
 obtain⟨v',w',hr,h2,h3⟩:=Zf0 (P:=P) w t o.type e i z size bytes ht hi hz hsize hby hzs hsz g ao m c news hl hm hnews h63 hbytes;unfold Oper.wp execOp;simp only [ho,resolve,invoke,builtin,Sem.run_bind,Sem.run_pure,Result.andThen_ok,List.map_toArray,List.map_cons,List.map_nil,hs,hx,hr];exact hK _ _ (h v' w' h2 h3)
theorem ZkW.tms {W:World}{v:Value}{L:List Tm} (h:ZkW base W 130 2 L.length v (Zgg L)) (hz:∀ i (hi:i < L.length),ZdX L[i]):Zcl base W.heap.size W v L:=by
 rcases h with ⟨h0,a,c,hv⟩ | h
 . have hL:=List.length_eq_zero_iff.1 h0
   subst hL;exact Or.inl ⟨a,c,hv,rfl⟩
 . exact ZkY h hz
theorem ZhL {X:World}{n sz:Nat}{e:TypeId}{L:List Value} (hl:L.length=n*sz) (hn:n<=1000) (hb:base<=X.heap.size):(X.alloc (.cells L.toArray e)).ownsRow base e sz (.slice (some ⟨X.heap.size,0,none⟩) n n) n L:=
 ⟨hl,Or.inr ⟨X.heap.size,n,L.toArray,rfl,hb,heap_alloc_new X _,Nat.le_refl _,by unfold maxLen;omega,by simpa using hl,by simp [<- hl]⟩⟩
theorem ZgG (nm df we:Zy_) (le mo:Int) (mu:Bool) (w:World) :
 Calls prog 50 #[.string nm,.int .i64 le,.int .i64 mo,.bool mu,.string df,.string we] w
  fun e w'=>e=.returned (.agg #[.string nm,.int .i64 1,.int .i64 le,.int .i64 mo,.slice none 0 0,.string ⟨#[]⟩,.int .i64 0,.bool mu,.bool false,.string df,.string we])/\Zw_ w w':=by
 go_enter func50,ntmps50;go_wp2;refine bodyPost_ret (v:=.agg #[.string nm,.int .i64 1,.int .i64 le,.int .i64 mo,.slice none 0 0,.string ⟨#[]⟩,.int .i64 0,.bool mu,.bool false,.string df,.string we]) (by simp [results,results50,go_sem]) rfl ⟨rfl,?_⟩
 repeat (refine Below.setCell ?_ Zl_ _)
 exact Zac _ _
theorem ZjO (cs:List Value) (U:Ho) (w:World) (h:HoC 0 w cs U) (hn:Zdy U) :
 Calls prog 18 #[.agg cs.toArray] w fun e w'=>∃ cs',e=.returned (.agg cs'.toArray)/\Zw_ w w'/\LwC 0 w' cs' ⟨[ZcB],[Za6],U.tm⟩:=by
 obtain⟨i0,hi,hz0,hz1,hz2⟩:=info_parts Tryz.info130;have HI:=Zab (And.intro hi (And.intro hz0 (And.intro hz1 hz2)));clear hi hz0 hz1 hz2;have HN:=Zab hn.1;have hn1:U.tm.length<=1048576:=hn.1;obtain⟨a0,k0,a1,k1,rfl,h⟩:=h;have HT:=Zab h.l0
 have HM:Hd (a0=none->U.tm.length=0):=fun e=>by
  rcases HT.o with ⟨_,_,h,hx⟩ | ⟨_,_,_,h,_⟩
  . rw [hx];rfl
  . injection h with h;rw [e] at h;cases h
 have HNW:Hd (∀ ad,a0=some ad->∀ W,Zw_ w W->∀ j u,(Zgg U.tm)[j]?=some u->W.cell? (ad.add j)=some u):=fun ad e W hb=>by
  have h:=HT.o;rw [e] at h;exact ZiS h hb
 show Calls prog 18 #[.agg #[.slice a0 U.tm.length k0,.slice a1 U.gr.length k1]] w _
 clear h hn;go_enter func18,ntmps18;go_wp2_with fail;generalize hWa:(World.alloc (w.alloc _) _)=Wa;have HB:Hd (Zw_ w Wa):=by unfold Hd;rw [<- hWa];exact (Zac w _).alloc (by simp) _
 have FX:Hd (Box Wa w.heap.size #[.slice a0 U.tm.length k0,.slice a1 U.gr.length k1]):=by unfold Hd;rw [<- hWa];exact (Box.new _ _ _ _ rfl).on (Zac _ _)
 have FR:Hd (Box Wa (w.heap.size+1) #[.slice none 0 0,.slice none 0 0,.slice none 0 0]):=by unfold Hd;rw [<- hWa];exact Box.new _ _ _ _ (by simp)
 clear hWa;refine (ZgG _ _ _ _ _ _ _).mono ?_;rintro e w0 ⟨rfl,hb⟩;replace HB:Hd (Zw_ w w0):=bt HB.o hb;replace FX:=Zab (FX.o.on hb);replace FR:=Zab (FR.o.on hb);clear hb;go_wp2_with fail;refine (ZgG _ _ _ _ _ _ _).mono ?_;rintro e w1 ⟨rfl,hb⟩;replace HB:Hd (Zw_ w w1):=bt HB.o hb;replace FX:=Zab (FX.o.on hb);replace FR:=Zab (FR.o.on hb);clear hb;go_wp2_with fail;refine (ZgG _ _ _ _ _ _ _).mono ?_;rintro e w2 ⟨rfl,hb⟩;replace HB:Hd (Zw_ w w2):=bt HB.o hb;replace FX:=Zab (FX.o.on hb);replace FR:=Zab (FR.o.on hb);clear hb;go_wp2_with fail;refine (ZgG _ _ _ _ _ _ _).mono ?_;rintro e w3 ⟨rfl,hb⟩;replace HB:Hd (Zw_ w w3):=bt HB.o hb;replace FX:=Zab (FX.o.on hb);replace FR:=Zab (FR.o.on hb);clear hb;go_wp2_with fail;refine (ZgG _ _ _ _ _ _ _).mono ?_;rintro e w4 ⟨rfl,hb⟩
 replace HB:Hd (Zw_ w w4):=bt HB.o hb;replace FX:=Zab (FX.o.on hb);replace FR:=Zab (FR.o.on hb);clear hb
 go_upto_region 3 with fail
 generalize hX:World.alloc w4 _=X0;have hb:Below w4.heap.size w4 X0:=by rw [<- hX];exact Zac _ _
 have HF:Hd (X0.ownsRow w4.heap.size 109 11 (.slice (some ⟨w4.heap.size,0,none⟩) 6 6) 6 (Zd4 fdV Zd5)):=by unfold Hd;rw [<- hX];exact ZhL (L:=Zd4 fdV Zd5) rfl (by omega) Zl_
 have hs0:X0.heap.size=w4.heap.size+1:=by rw [<- hX];simp
 have hr4:w.heap.size+1 < w4.heap.size:=FR.o.lt
 replace HB:Hd (Zw_ w X0):=bt HB.o hb;replace FX:=Zab (FX.o.on hb);replace FR:=Zab (FR.o.on hb);clear hX hb;generalize hX:World.alloc X0 _=X1;have hb:Below X0.heap.size X0 X1:=by rw [<- hX];exact Zac _ _
 have HMd:Hd (X1.ownsRow (w4.heap.size+1) 113 6 (.slice (some ⟨w4.heap.size+1,0,none⟩) 1 1) 1 [.string Za6.kind,.string Za6.field,.string Za6.wh,.string Za6.is,.string Za6.put,.string Za6.fr]):=by
  unfold Hd;rw [<- hX,<- hs0];exact ZhL (L:=[.string Za6.kind,.string Za6.field,.string Za6.wh,.string Za6.is,.string Za6.put,.string Za6.fr]) rfl (by omega) Zl_
 have hs1:X1.heap.size=w4.heap.size+2:=by rw [<- hX];simp;omega
 replace HB:Hd (Zw_ w X1):=bt HB.o hb;replace FX:=Zab (FX.o.on hb);replace FR:=Zab (FR.o.on hb);replace HF:=Zab (Below.ownsB HF.o hb);clear hX hb;have HS0:=Zab hs0;have HS1:=Zab hs1;have HR4:=Zab hr4;have x0:∀ o o',((X1.alloc o).alloc o').cell? ⟨w.heap.size,0,none⟩=some (.slice a0 U.tm.length k0):=fun o o'=>((FX.o.on (Zac _ o)).on (Zac _ o')).cell 0
 clear hs0 hs1 hr4;go_wp2_with (at_builtin;refine Hd.o ?_);refine Zab ?_;refine ZeR rfl (.tmp 18) (.tmp 20) 41 rfl 130 i0 (.agg #[.string ⟨#[]⟩,.string ⟨#[]⟩]) 2 32 underlying41 HI.o.1 HI.o.2.1 HI.o.2.2.1 HI.o.2.2.2 rfl (by decide) ⟨X1.heap.size+1,0,none⟩ ?_ a0 U.tm.length k0 (Zgg U.tm) ?_ ?_ ?_ ?_ ?_ ?_ ?_
 . rfl
 . rfl
 . exact Zf2 _
 . exact HM.o
 . intro ad e
   exact HNW.o ad e _ (bt (bt HB.o (Zac _ _)) (Zac _ _))
 . unfold maxLen;omega
 . omega
 intro v3 w5 hrow hb5;have HT5:=Zab (hrow.tms HT.o.size);obtain⟨a2,k2,rfl⟩:=HT5.o.at.form;have hb6:Below X1.heap.size X1 w5:=bt (bt (Zac _ _) (Zac _ _)) hb5;have BS:Hd (Box w5 X1.heap.size #[.string Zp5,.slice (some ⟨w4.heap.size,0,none⟩) 6 6]):=((Box.new X1 _ _ _ rfl).on (Zac _ _)).on hb5;have hq5:X1.heap.size+2<=((X1.alloc (.cells #[.string Zp5,.slice (some ⟨w4.heap.size,0,none⟩) 6 6] 115)).alloc (.cells #[] 130)).heap.size:=by simp
 replace HB:Hd (Zw_ w w5):=bt HB.o hb6;replace FR:=Zab (FR.o.on hb6);replace HF:=Zab (ZkU (L:=Zd5) (Below.ownsB HF.o hb6) (by intro h;cases h) Zk5);replace HMd:=Zab (Zm1 (m:=Za6) (Below.ownsB HMd.o hb6) Zk6);have g1:=FR.o.cell;have g2:=FR.o.free;clear hrow hb5 hb6 x0 hq5;go_wp2;have hs0:=HS0.o;have hs1:=HS1.o;have hr4:=HR4.o
 have hkey:∀ W,Zaw (w.heap.size+1) (w.heap.size+1+1) w5 W->LwC 0 W (lwL ⟨[ZcB],[Za6],U.tm⟩ (some ⟨X1.heap.size,0,none⟩) 1 (some ⟨w4.heap.size+1,0,none⟩) 1 a2 k2) ⟨[ZcB],[Za6],U.tm⟩:=fun W ht=>by
  have hq:=BS.o.lt;have hz:=ht.size;have bb:=BS.o.touch ht (by omega);refine⟨_,_,_,_,_,_,rfl,⟨Or.inr ⟨X1.heap.size,0,1,rfl,by simp,by simp [maxLen],by omega,Nat.zero_le _,fun i hi=>?_⟩,(HMd.o.touch ht (by omega)).at.mono Zz_,(HT5.o.touch ht (by simp;omega)).at.mono Zz_⟩⟩;have hi0:i=0:=by simpa using hi
  subst hi0;exact⟨Zp6,_,bb.cell 0,bb.cell 1,(HF.o.touch ht (by omega)).at.mono Zz_⟩
 refine bodyPost_ret (v:=.agg #[.slice (some ⟨X1.heap.size,0,none⟩) 1 1,.slice (some ⟨w4.heap.size+1,0,none⟩) 1 1,.slice a2 U.tm.length k2]) (by simp [results,results18,go_sem,g1]) rfl ?_;refine⟨lwL ⟨[ZcB],[Za6],U.tm⟩ (some ⟨X1.heap.size,0,none⟩) 1 (some ⟨w4.heap.size+1,0,none⟩) 1 a2 k2,rfl,?_,hkey _ ?_⟩
 . repeat (refine Below.setCell ?_ (by simp only [];omega) _)
   exact HB.o
 . refine Zaw.trans (Zaw.trans ?_ (Zaw.setCell (w.heap.size+1) (w.heap.size+1+1) _ _ _ ⟨Nat.le_refl _,Nat.lt_succ_self _⟩)) (Zaw.setCell (w.heap.size+1) (w.heap.size+1+1) _ _ _ ⟨Nat.le_refl _,Nat.lt_succ_self _⟩)
   exact Zaw.setCell (w.heap.size+1) (w.heap.size+1+1) _ _ _ ⟨Nat.le_refl _,Nat.lt_succ_self _⟩
end Go.Proofs.YtbdhbihhgfpnnaaGreat
