import Derived.Test.YtbdhbihhgfpnnaaGreatV00
set_option maxHeartbeats 16000000
set_option maxRecDepth 100000
open Go.Proofs.Tryz
namespace Go.Proofs.YtbdhbihhgfpnnaaGreat
open Go.RowKit Go.Deep
section
variable {n i:Nat}
theorem ZaH {p:Nat->Bool} (h:∀ i,i < n->p i=true):(List.range n).all p=true:=by
 rw [List.all_eq_true];intro i hi;exact h i (List.mem_range.1 hi)
theorem ZaC {k:Nat}{p:Nat->Bool} (hk:k < n) (h:p k=false):(List.range n).all p=false:=by
 rw [List.all_eq_false];exact⟨k,List.mem_range.2 hk,by simp [h]⟩
def Zgj (L:List Zy_) (i:Nat):Bool:=
 Zan (L.getD i ⟨#[]⟩)&&(i == 0 || Op.bytesLess (L.getD (i - 1) ⟨#[]⟩).toList (L.getD i ⟨#[]⟩).toList)
def ZmU (L:List Zy_):Bool:=(List.range L.length).all (Zgj L)
theorem Zih {L:List Zy_} (h:i < L.length):L.getD i ⟨#[]⟩=L[i]:=by
 rw [List.getD_eq_getElem?_getD,List.getElem?_eq_getElem h];rfl
theorem Zhq {L:List Zy_} (h:i < L.length) (hn:Zan L[i]=false):Zgj L i=false:=by
 unfold Zgj;rw [Zih h,hn];rfl
theorem Zhs {L:List Zy_} (h:0 < L.length) (hn:Zan L[0]=true):Zgj L 0=true:=by
 unfold Zgj;rw [Zih h,hn];rfl
theorem Zhr {L:List Zy_}{j:Nat} (h:j+1 < L.length) (hn:Zan L[j+1]=true):Zgj L (j+1)=Op.bytesLess L[j].toList L[j+1].toList:=by
 unfold Zgj;rw [Zih h,hn,Nat.add_sub_cancel,Zih (by omega)];simp
theorem Znc {L:List Zy_} (h:Zgj L 0=true):∀ i,i < 1->Zgj L i=true:=fun i hi=>by
 have e:i=0:=by omega
 subst e;exact h
theorem Zcv (v:Value) (L:List Zy_) (w:World) (hv:Zae w v L) :
 Calls prog 151 #[v] w fun e w'=>e=.returned (.bool (ZmU L))/\Zw_ w w':=by
 rcases hv with ⟨a,cap,rfl,rfl⟩ | ⟨b,off,cap,rfl,hne,hm,hbw,hc,hsz⟩
 . go_enter func151,ntmps151
   go_wp2
   go_loop [3] (fun i=>i=.int .i64 0) (fun _=>0)
   case atStart=>rfl
   case round=>
    subst hrel;go_wp2;go_ret;exact⟨rfl,Below.refl _ _⟩
 . unfold maxLen at hm
   go_enter func151,ntmps151;go_wp2
   go_loopw [3] (fun i wr=>∃ k:Nat,i=.int .i64 k/\k<=L.length/\Zw_ w wr/\∀ i,i < k->Zgj L i=true) (fun i _=>L.length - (intOf i).toNat)
   case atStart=>exact⟨0,rfl,by omega,Below.refl _ _,fun i h=>by omega⟩
   case round=>
    obtain⟨k,rfl,hk,hb,hall⟩:=hrel;have HA:=Zab hall;clear hall
    by_cases hlt:k < L.length
    . have hck:wr.cell? ⟨b,off+k,none⟩=some (.string L[k]):=by rw [hb.cell (p:=⟨b,_,none⟩) hbw];exact hc k hlt
      have hskk:=hsz L[k] (List.getElem_mem hlt)
      by_cases hn:Zan L[k]=true
      . cases k with
        | zero=>
         have HX:=Zab (Zhs hlt hn);have hck0:wr.cell? ⟨b,off,none⟩=some (.string L[0]):=by simpa using hck
         clear hck;go_wp2
         go_quiet ((go_at_call 43;exact Calls.quiet_of_same (Zad _ _ hskk)))
         go_wp2;go_roundw
         . exact⟨1,by go_num,by omega,below_drewN hb _,Znc HX.o⟩
         . simp [intOf];omega
        | succ j=>
         have HX:=Zab (Zhr hlt hn);have hcj:wr.cell? ⟨b,off+j,none⟩=some (.string L[j]):=by rw [hb.cell (p:=⟨b,_,none⟩) hbw];exact hc j (by omega)
         by_cases hls:Op.bytesLess L[j].toList L[j+1].toList=true
         . go_wp2
           go_quiet ((go_at_call 43;exact Calls.quiet_of_same (Zad _ _ hskk)))
           go_wp2;go_roundw
           case rel=>exact⟨j+2,by go_num,by omega,below_drewN hb _,fun i hi=>by
                      by_cases e:i=j+1
                      . subst e;rw [HX.o];exact hls
                      . exact HA.o i (by omega)⟩
           . simp [intOf];omega
         . have hls':Op.bytesLess L[j].toList L[j+1].toList=false:=by simpa using hls
           clear hls;go_wp2
           go_quiet ((go_at_call 43;exact Calls.quiet_of_same (Zad _ _ hskk)))
           go_wp2;go_ret;exact⟨Zaa (ZaC hlt (by rw [HX.o];exact hls')).symm,below_drewN hb _⟩
      . have hn':Zan L[k]=false:=by simpa using hn
        have HX:=Zab (Zhq hlt hn');go_wp2
        go_quiet ((go_at_call 43;exact Calls.quiet_of_same (Zad _ _ hskk)))
        go_wp2;go_ret;exact⟨Zaa (ZaC hlt HX.o).symm,below_drewN hb _⟩
    . go_wp2
      go_ret;exact⟨Zaa (ZaH (fun i hi=>HA.o i (by omega))).symm,hb⟩
theorem Zfx (v:Value) (L:List Zy_) (w:World) (hv:Zae w v L) :
 Calls prog 274 #[v] w fun e w'=>e=.returned (.bool (ZmU L))/\w'=w:=by
 rcases hv with ⟨a,cap,rfl,rfl⟩ | ⟨b,off,cap,rfl,hne,hm,hbw,hc,hsz⟩
 . go_enter func274,ntmps274
   go_wp2
   go_loop [7] (fun i=>i=.int .i64 0) (fun _=>0)
   case atStart=>rfl
   case round=>
    subst hrel;go_wp2;go_ret;exact⟨rfl,rfl⟩
 . unfold maxLen at hm
   go_enter func274,ntmps274;go_wp2
   go_loop [7] (fun i=>∃ k:Nat,i=.int .i64 k/\k<=L.length/\∀ i,i < k->Zgj L i=true) (fun i=>L.length - (intOf i).toNat)
   case atStart=>exact⟨0,rfl,by omega,fun i h=>by omega⟩
   case round=>
    obtain⟨k,rfl,hk,hall⟩:=hrel;have HA:=Zab hall;clear hall
    by_cases hlt:k < L.length
    . have hck:=hc k hlt
      have HSK:=Zab (hsz L[k] (List.getElem_mem hlt))
      by_cases hn:Zan L[k]=true
      . cases k with
        | zero=>
         have HX:=Zab (Zhs hlt hn);have hck0:w.cell? ⟨b,off,none⟩=some (.string L[0]):=by simpa using hck
         clear hck;go_wp2_with fail;refine (Zak _ _ HSK.o).mono ?_;rintro e w1 ⟨rfl,rfl⟩;go_wp2
         go_round
         . exact⟨1,by go_num,by omega,Znc HX.o⟩
         . simp [intOf];omega
        | succ j=>
         have HX:=Zab (Zhr hlt hn);have hcj:=hc j (by omega)
         by_cases hls:Op.bytesLess L[j].toList L[j+1].toList=true
         . go_wp2_with fail
           refine (Zak _ _ HSK.o).mono ?_;rintro e w1 ⟨rfl,rfl⟩;go_wp2
           go_round
           case rel=>exact⟨j+2,by go_num,by omega,fun i hi=>by
                      by_cases e:i=j+1
                      . subst e;rw [HX.o];exact hls
                      . exact HA.o i (by omega)⟩
           . simp [intOf];omega
         . have hls':Op.bytesLess L[j].toList L[j+1].toList=false:=by simpa using hls
           clear hls;go_wp2_with fail;refine (Zak _ _ HSK.o).mono ?_;rintro e w1 ⟨rfl,rfl⟩;go_wp2;go_ret;exact⟨Zaa (ZaC hlt (by rw [HX.o];exact hls')).symm,rfl⟩
      . have hn':Zan L[k]=false:=by simpa using hn
        have HX:=Zab (Zhq hlt hn');go_wp2_with fail;refine (Zak _ _ HSK.o).mono ?_;rintro e w1 ⟨rfl,rfl⟩;go_wp2;go_ret;exact⟨Zaa (ZaC hlt HX.o).symm,rfl⟩
    . go_wp2
      go_ret;exact⟨Zaa (ZaH (fun i hi=>HA.o i (by omega))).symm,rfl⟩
end
section
variable {Ss:List Sh}
theorem ZcR (w:World) (p q:Addr) (u:Value) (h:p≠q):(w.setCell p u).cell? q=w.cell? q:=by
 apply World.cell?_setCell_other;exact h
theorem ZcQ (w:World) (p:Addr) (u v:Value) (h:w.cell? p=some v):(w.setCell p u).cell? p=some u:=by
 apply World.cell?_setCell_same;exact h
def Zci (Ss:List Sh) (s:Zy_):Option Sh:=Ss.find? fun x=>x.kind.toList == s.toList
def Zk8 (Ss:List Sh) (s:Zy_):Bool:=(Zci Ss s).isSome
theorem Zfd {s:Zy_}{k:Nat} (hk:k < Ss.length) (h:(Ss[k].kind.toList == s.toList)=true) (hall:∀ i (h:i < Ss.length),i < k->(Ss[i].kind.toList == s.toList)=false):Zci Ss s=some Ss[k]:=by
 unfold Zci;rw [List.find?_eq_some_iff_getElem];exact⟨h,k,hk,rfl,fun j hj=>by simp [hall j (by omega) hj]⟩
theorem Zfc {s:Zy_} (hall:∀ i (h:i < Ss.length),(Ss[i].kind.toList == s.toList)=false):Zci Ss s=none:=by
 unfold Zci;rw [List.find?_eq_none];intro x hx;obtain⟨i,hi,rfl⟩:=List.getElem_of_mem hx;simp [hall i hi]
theorem Zjl {s:Zy_}{x:Sh} (h:Zci Ss s=some x):Zk8 Ss s=true:=by unfold Zk8;rw [h];rfl
theorem Zjk {s:Zy_} (h:Zci Ss s=none):Zk8 Ss s=false:=by unfold Zk8;rw [h];rfl
theorem ZgF (lo:Nat) (v:Value) (Ss:List Sh) (s:Zy_) (w:World) (hv:Zba lo w v Ss) :
 Calls prog 156 #[v,.string s] w fun e w'=>∃ r:Int,e=.returned (.int .i64 r)/\w'=w/\decide (0<=r)=Zk8 Ss s:=by
 by_cases hL:Ss=[]
 . subst hL
   obtain⟨a,cap,rfl⟩:=hv.form;clear hv;go_enter func156,ntmps156;go_wp2
   go_loop [5] (fun i=>i=.int .i64 0) (fun _=>0)
   case atStart=>rfl
   case round=>
    subst hrel;go_wp2;go_ret;exact⟨-1,rfl,rfl,rfl⟩
 . obtain⟨b,off,cap,rfl,hm,hbw,hc⟩:=hv.full hL
   clear hv;unfold maxLen at hm;go_enter func156,ntmps156;go_wp2
   go_loop [5] (fun i=>∃ k:Nat,i=.int .i64 k/\k<=Ss.length/\∀ i (h:i < Ss.length),i < k->(Ss[i].kind.toList == s.toList)=false) (fun i=>Ss.length - (intOf i).toNat)
   case atStart=>exact⟨0,rfl,by omega,fun i _ h=>by omega⟩
   case round=>
    obtain⟨k,rfl,hk,hall⟩:=hrel;have HA:=Zab hall;clear hall
    by_cases hlt:k < Ss.length
    . obtain⟨_,fv,hck,_,_⟩:=hc k hlt
      by_cases he:(Ss[k].kind.toList == s.toList)=true
      . go_wp2
        go_ret;exact⟨k,rfl,rfl,by rw [Zjl (Zfd hlt he HA.o)];simp⟩
      . have he':(Ss[k].kind.toList == s.toList)=false:=by simpa using he
        clear he;go_wp2
        go_round
        case rel=>exact⟨k+1,by go_num,by omega,fun i h h'=>by
                   by_cases e:i=k
                   . subst e;exact he'
                   . exact HA.o i h (by omega)⟩
        . simp [intOf];omega
    . go_wp2
      go_ret;exact⟨-1,rfl,rfl,by rw [Zjk (Zfc fun i h=>HA.o i h (by omega))];rfl⟩
def Zm3 (lo:Nat) (Ss:List Sh) (s:Zy_) (e:Ending) (w':World):Prop:=
 (∃ x fv,Zci Ss s=some x/\e=.returned (.tuple #[.agg #[.string x.kind,fv],.bool true])/\ZaU lo w' fv x.fields)\/
 (Zci Ss s=none/\e=.returned (.tuple #[.agg #[.string ⟨#[]⟩,.slice none 0 0],.bool false]))
theorem ZkL (lo:Nat) (v:Value) (Ss:List Sh) (s:Zy_) (w:World) (hv:Zba lo w v Ss) :
 Calls prog 171 #[v,.string s] w fun e w'=>Zw_ w w'/\Zm3 lo Ss s e w':=by
 by_cases hL:Ss=[]
 . subst hL
   obtain⟨a,cap,rfl⟩:=hv.form;clear hv;go_enter func171,ntmps171;go_wp2
   go_loop [10] (fun i=>i=.int .i64 0) (fun _=>0)
   case atStart=>rfl
   case round=>
    subst hrel;go_wp2;refine bodyPost_ret (v:=.tuple #[.agg #[.string ⟨#[]⟩,.slice none 0 0],.bool false]) (by simp [results,results171,go_sem]) rfl ⟨?_,Or.inr ⟨rfl,rfl⟩⟩;exact Zb_.alloc Zl_ _
 . obtain⟨b,off,cap,rfl,hm,hbw,hc⟩:=hv.full hL
   clear hv;unfold maxLen at hm;have hA:∀ (o:Obj) (wr:World),Below (w.heap.size+1) (w.alloc o) wr->Zw_ w wr:=fun o wr h=>(Zb_.alloc Zl_ o).trans (h.mono (by omega))
   go_enter func171,ntmps171;go_wp2
   go_loopw [10] (fun i wr=>∃ k:Nat,i=.int .i64 k/\k<=Ss.length/\Below (w.heap.size+1) (w.alloc (.cells #[.string ⟨#[]⟩,.slice none 0 0] 115)) wr/\∀ i (h:i < Ss.length),i < k->(Ss[i].kind.toList == s.toList)=false) (fun i _=>Ss.length - (intOf i).toNat)
   case atStart=>exact⟨0,rfl,by omega,Below.refl _ _,fun i _ h=>by omega⟩
   case round=>
    obtain⟨k,rfl,hk,hb,hall⟩:=hrel;have HA:=Zab hall;clear hall;have hz:w.heap.size < wr.heap.size:=by have:=hb.size;simp at this;omega
    have hB:Hd (Zw_ w wr):=hA _ _ hb;have q0:wr.cell? ⟨w.heap.size,0,none⟩=some (.string ⟨#[]⟩):=by rw [hb.cell (p:=⟨w.heap.size,_,none⟩) (by simp)];simp
    have q1:wr.cell? ⟨w.heap.size,1,none⟩=some (.slice none 0 0):=by rw [hb.cell (p:=⟨w.heap.size,_,none⟩) (by simp)];simp
    have qf:∀ o,wr.frozen? ⟨w.heap.size,o,none⟩=false:=fun o=>by rw [hb.frozen (p:=⟨w.heap.size,_,none⟩) (by simp)];simp
    have HBB:=Zab hb;clear hb
    by_cases hlt:k < Ss.length
    . obtain⟨_,fv,c0,c1,hst⟩:=hc k hlt
      have e0:wr.cell? ⟨b,off+k*2,none⟩=some (.string Ss[k].kind):=by rw [hB.o.cell (p:=⟨b,_,none⟩) hbw];exact c0
      have e1:wr.cell? ⟨b,off+k*2+1,none⟩=some fv:=by rw [hB.o.cell (p:=⟨b,_,none⟩) hbw];exact c1
      obtain⟨a1,cap1,rfl⟩:=hst.form;have HST:=Zab hst;clear c0 c1 hst
      by_cases he:(Ss[k].kind.toList == s.toList)=true
      . go_wp2
        have HF:Zw_ w (((wr.setCell ⟨w.heap.size,0,none⟩ (.string Ss[k].kind)).setCell ⟨w.heap.size,1,none⟩ (.slice a1 Ss[k].fields.length cap1)).alloc (.cells #[.string Ss[k].kind,.slice a1 Ss[k].fields.length cap1] 115)):=
         ((hB.o.setCell Zl_ _).setCell Zl_ _).alloc (by simp [World.setCell];omega) _
        have hold:∀ (X:World) (o:Obj) (j:Nat),w.heap.size < X.heap.size->(X.alloc o).cell? ⟨w.heap.size,j,none⟩=X.cell? ⟨w.heap.size,j,none⟩:=fun X o j h=>((Below.refl X.heap.size X).alloc Zl_ o).cell (p:=⟨w.heap.size,j,none⟩) h
        have f0:(((wr.setCell ⟨w.heap.size,0,none⟩ (.string Ss[k].kind)).setCell ⟨w.heap.size,1,none⟩ (.slice a1 Ss[k].fields.length cap1)).alloc (.cells #[.string Ss[k].kind,.slice a1 Ss[k].fields.length cap1] 115)).cell? ⟨w.heap.size,0,none⟩=some (.string Ss[k].kind):=by
         rw [hold _ _ _ (by simpa [World.setCell] using hz),ZcR _ _ _ _ (by simp),ZcQ _ _ _ _ q0]
        have f1:(((wr.setCell ⟨w.heap.size,0,none⟩ (.string Ss[k].kind)).setCell ⟨w.heap.size,1,none⟩ (.slice a1 Ss[k].fields.length cap1)).alloc (.cells #[.string Ss[k].kind,.slice a1 Ss[k].fields.length cap1] 115)).cell? ⟨w.heap.size,1,none⟩=some (.slice a1 Ss[k].fields.length cap1):=by
         rw [hold _ _ _ (by simpa [World.setCell] using hz),ZcQ _ _ _ _ (by rw [ZcR _ _ _ _ (by simp)];exact q1)]
        exact bodyPost_ret (v:=.tuple #[.agg #[.string Ss[k].kind,.slice a1 Ss[k].fields.length cap1],.bool true]) (by simp [results,results171,go_sem,f0,f1]) rfl ⟨HF,Or.inl ⟨Ss[k],_,Zfd hlt he HA.o,rfl,HST.o.below HF⟩⟩
      . have he':(Ss[k].kind.toList == s.toList)=false:=by simpa using he
        clear he;go_wp2;go_roundw
        case rel=>exact⟨k+1,by go_num,by omega,HBB.o.alloc (by omega) _,fun i h h'=>by
                   by_cases e:i=k
                   . subst e;exact he'
                   . exact HA.o i h (by omega)⟩
        . simp [intOf];omega
    . go_wp2
      refine bodyPost_ret (v:=.tuple #[.agg #[.string ⟨#[]⟩,.slice none 0 0],.bool false]) (by simp [results,results171,go_sem,q0,q1]) rfl ⟨?_,Or.inr ⟨Zfc fun i h=>HA.o i h (by omega),rfl⟩⟩;exact (hB.o.setCell Zl_ _).setCell Zl_ _
end
section
def ZbX (le mo:Int) (n:Nat) (to:Zy_) (ro:Int) (we:Zy_):Bool:=(le == 0)&&(mo == 0)&&((n:Int) == 0)&&to.toList.isEmpty&&(ro == 0)&&we.toList.isEmpty
def Zag (s:Zy_):Bool:=s.toList.isEmpty || Zan s
theorem ZbA (s:Zy_) (w:World) (hs:s.size<=maxLen) :
 Calls prog 122 #[.string s] w fun e w'=>e=.returned (.bool (Zag s))/\w'=w:=by
 have hk:=Zak s w hs
 cases he:s.toList.isEmpty with
 | true=>
  go_enter func122,ntmps122;go_wp2;go_ret;exact⟨Zaa (by simp [Zag,he]),rfl⟩
 | false=>
  go_enter func122,ntmps122;go_wp2_with fail;refine hk.mono ?_;rintro e w1 ⟨rfl,rfl⟩;go_wp2;go_ret;exact⟨Zaa (by simp [Zag,he]),rfl⟩
section
variable (nm to df we:Zy_) (le mo ro:Int) (mu fx:Bool) (a:Option Addr) (n cap:Nat) (w:World)
theorem Zep (kd:Int) :
 Calls prog 257 #[.agg #[.string nm,.int .i64 kd,.int .i64 le,.int .i64 mo,.slice a n cap,.string to,.int .i64 ro,.bool mu,.bool fx,.string df,.string we]] w fun e w'=>e=.returned (.bool (ZbX le mo n to ro we))/\Zw_ w w':=by
 cases hle:(le == 0) with
 | false=>
  have gle:(le != 0)=true:=by simp [bne,hle]
  go_enter func257,ntmps257;go_wp2;go_ret;exact⟨Zaa (by simp [ZbX,hle]),Zb_.alloc Zl_ _⟩
 | true=>
  have gle:(le != 0)=false:=by simp [bne,hle]
  cases hmo:(mo == 0) with
  | false=>
   have gmo:(mo != 0)=true:=by simp [bne,hmo]
   go_enter func257,ntmps257;go_wp2;go_ret;exact⟨Zaa (by simp [ZbX,hle,hmo]),Zb_.alloc Zl_ _⟩
  | true=>
   have gmo:(mo != 0)=false:=by simp [bne,hmo]
   cases hn:((n:Int) == 0) with
   | false=>
    have gn:(0:Int) < n:=by simp at hn;omega
    go_enter func257,ntmps257;go_wp2;go_ret;exact⟨Zaa (by simp [ZbX,hle,hmo,hn]),Zb_.alloc Zl_ _⟩
   | true=>
    have gn:¬ (0:Int) < n:=by simp at hn;omega
    cases hto:to.toList.isEmpty with
    | false=>
     go_enter func257,ntmps257;go_wp2;go_ret;exact⟨Zaa (by simp [ZbX,hle,hmo,hn,hto]),Zb_.alloc Zl_ _⟩
    | true=>
     cases hro:(ro == 0) with
     | false=>
      have gro:(ro != 0)=true:=by simp [bne,hro]
      go_enter func257,ntmps257;go_wp2;go_ret;exact⟨Zaa (by simp [ZbX,hle,hmo,hn,hto,hro]),Zb_.alloc Zl_ _⟩
     | true=>
      have gro:(ro != 0)=false:=by simp [bne,hro]
      cases hwe:we.toList.isEmpty with
      | false=>
       go_enter func257,ntmps257;go_wp2;go_ret;exact⟨Zaa (by simp [ZbX,hle,hmo,hn,hto,hro,hwe]),Zb_.alloc Zl_ _⟩
      | true=>
       go_enter func257,ntmps257;go_wp2;go_ret;exact⟨Zaa (by simp [ZbX,hle,hmo,hn,hto,hro,hwe]),Zb_.alloc Zl_ _⟩
theorem ZoH (kd:Int) :
 Calls prog 296 #[.agg #[.int .i64 le,.int .i64 mo,.string we],.agg #[.string nm,.int .i64 kd,.int .i64 le,.int .i64 mo,.slice a n cap,.string to,.int .i64 ro,.bool mu,.bool fx,.string df,.string we]] w fun e w'=>e=.returned (.agg #[.string nm,.int .i64 kd,.int .i64 0,.int .i64 0,.slice a n cap,.string to,.int .i64 ro,.bool mu,.bool fx,.string df,.string ⟨#[]⟩])/\Zw_ w w':=by
 go_enter func296,ntmps296;go_wp2;refine bodyPost_ret (v:=.agg #[.string nm,.int .i64 kd,.int .i64 0,.int .i64 0,.slice a n cap,.string to,.int .i64 ro,.bool mu,.bool fx,.string df,.string ⟨#[]⟩]) (by simp [results,results296,go_sem]) rfl ⟨rfl,?_⟩
 repeat (first | exact Below.refl _ _ | refine Below.alloc ?_ (by simp;try omega) _ | refine Below.setCell ?_ (by simp only [];omega) _)
theorem ZoI (kd:Int) :
 Calls prog 299 #[.agg #[.slice a n cap],.agg #[.string nm,.int .i64 kd,.int .i64 le,.int .i64 mo,.slice a n cap,.string to,.int .i64 ro,.bool mu,.bool fx,.string df,.string we]] w fun e w'=>e=.returned (.agg #[.string nm,.int .i64 kd,.int .i64 le,.int .i64 mo,.slice none 0 0,.string to,.int .i64 ro,.bool mu,.bool fx,.string df,.string we])/\Zw_ w w':=by
 go_enter func299,ntmps299;go_wp2;refine bodyPost_ret (v:=.agg #[.string nm,.int .i64 kd,.int .i64 le,.int .i64 mo,.slice none 0 0,.string to,.int .i64 ro,.bool mu,.bool fx,.string df,.string we]) (by simp [results,results299,go_sem]) rfl ⟨rfl,?_⟩
 repeat (first | exact Below.refl _ _ | refine Below.alloc ?_ (by simp;try omega) _ | refine Below.setCell ?_ (by simp only [];omega) _)
theorem ZoJ (kd:Int) :
 Calls prog 302 #[.agg #[.int .i64 le,.int .i64 mo],.agg #[.string nm,.int .i64 kd,.int .i64 le,.int .i64 mo,.slice a n cap,.string to,.int .i64 ro,.bool mu,.bool fx,.string df,.string we]] w fun e w'=>e=.returned (.agg #[.string nm,.int .i64 kd,.int .i64 0,.int .i64 0,.slice a n cap,.string to,.int .i64 ro,.bool mu,.bool fx,.string df,.string we])/\Zw_ w w':=by
 go_enter func302,ntmps302;go_wp2;refine bodyPost_ret (v:=.agg #[.string nm,.int .i64 kd,.int .i64 0,.int .i64 0,.slice a n cap,.string to,.int .i64 ro,.bool mu,.bool fx,.string df,.string we]) (by simp [results,results302,go_sem]) rfl ⟨rfl,?_⟩
 repeat (first | exact Below.refl _ _ | refine Below.alloc ?_ (by simp;try omega) _ | refine Below.setCell ?_ (by simp only [];omega) _)
theorem ZmR (kd:Int) :
 Calls prog 305 #[.agg #[.string to,.int .i64 ro,.bool mu,.string df],.agg #[.string nm,.int .i64 kd,.int .i64 le,.int .i64 mo,.slice a n cap,.string to,.int .i64 ro,.bool mu,.bool fx,.string df,.string we]] w fun e w'=>e=.returned (.agg #[.string nm,.int .i64 kd,.int .i64 le,.int .i64 mo,.slice a n cap,.string ⟨#[]⟩,.int .i64 0,.bool mu,.bool fx,.string df,.string we])/\Zw_ w w':=by
 go_enter func305,ntmps305;go_wp2;refine bodyPost_ret (v:=.agg #[.string nm,.int .i64 kd,.int .i64 le,.int .i64 mo,.slice a n cap,.string ⟨#[]⟩,.int .i64 0,.bool mu,.bool fx,.string df,.string we]) (by simp [results,results305,go_sem]) rfl ⟨rfl,?_⟩
 repeat (first | exact Below.refl _ _ | refine Below.alloc ?_ (by simp;try omega) _ | refine Below.setCell ?_ (by simp only [];omega) _)
def ZeZ (n:Nat) (to:Zy_) (ro:Int):Bool:=((n:Int) == 0)&&to.toList.isEmpty&&(ro == 0)
def Zer (le mo:Int) (to:Zy_) (ro:Int) (we:Zy_):Bool:=(le == 0)&&(mo == 0)&&we.toList.isEmpty&&to.toList.isEmpty&&(ro == 0)
def ZeI (n:Nat) (to:Zy_) (ro:Int) (we:Zy_):Bool:=we.toList.isEmpty&&((n:Int) == 0)&&to.toList.isEmpty&&(ro == 0)
def ZeJ (le mo:Int) (n:Nat) (we:Zy_):Bool:=(le == 0)&&(mo == 0)&&we.toList.isEmpty&&((n:Int) == 0)
theorem Zq1 :
 Calls prog 226 #[.agg #[.string nm,.int .i64 1,.int .i64 le,.int .i64 mo,.slice a n cap,.string to,.int .i64 ro,.bool mu,.bool fx,.string df,.string we]] w fun e w'=>e=.returned (.bool (ZeZ n to ro))/\Zw_ w w':=by
 cases hn:((n:Int) == 0) with
 | false=>
  have gn:(0:Int) < n:=by simp at hn;omega
  go_enter func226,ntmps226;go_wp2;go_ret;exact⟨Zaa (by simp [ZeZ,hn]),Zb_.alloc Zl_ _⟩
 | true=>
  have gn:¬ (0:Int) < n:=by simp at hn;omega
  cases hto:to.toList.isEmpty with
  | false=>
   go_enter func226,ntmps226;go_wp2;go_ret;exact⟨Zaa (by simp [ZeZ,hn,hto]),Zb_.alloc Zl_ _⟩
  | true=>
   cases hro:(ro == 0) with
   | false=>
    have gro:(ro != 0)=true:=by simp [bne,hro]
    go_enter func226,ntmps226;go_wp2;go_ret;exact⟨Zaa (by simp [ZeZ,hn,hto,hro]),Zb_.alloc Zl_ _⟩
   | true=>
    have gro:(ro != 0)=false:=by simp [bne,hro]
    go_enter func226,ntmps226;go_wp2;go_ret;exact⟨Zaa (by simp [ZeZ,hn,hto,hro]),Zb_.alloc Zl_ _⟩
theorem Zq2 :
 Calls prog 226 #[.agg #[.string nm,.int .i64 2,.int .i64 le,.int .i64 mo,.slice a n cap,.string to,.int .i64 ro,.bool mu,.bool fx,.string df,.string we]] w fun e w'=>e=.returned (.bool (Zer le mo to ro we))/\Zw_ w w':=by
 cases hle:(le == 0) with
 | false=>
  have gle:(le != 0)=true:=by simp [bne,hle]
  go_enter func226,ntmps226;go_wp2;go_ret;exact⟨Zaa (by simp [Zer,hle]),Zb_.alloc Zl_ _⟩
 | true=>
  have gle:(le != 0)=false:=by simp [bne,hle]
  cases hmo:(mo == 0) with
  | false=>
   have gmo:(mo != 0)=true:=by simp [bne,hmo]
   go_enter func226,ntmps226;go_wp2;go_ret;exact⟨Zaa (by simp [Zer,hle,hmo]),Zb_.alloc Zl_ _⟩
  | true=>
   have gmo:(mo != 0)=false:=by simp [bne,hmo]
   cases hwe:we.toList.isEmpty with
   | false=>
    go_enter func226,ntmps226;go_wp2;go_ret;exact⟨Zaa (by simp [Zer,hle,hmo,hwe]),Zb_.alloc Zl_ _⟩
   | true=>
    cases hto:to.toList.isEmpty with
    | false=>
     go_enter func226,ntmps226;go_wp2;go_ret;exact⟨Zaa (by simp [Zer,hle,hmo,hwe,hto]),Zb_.alloc Zl_ _⟩
    | true=>
     cases hro:(ro == 0) with
     | false=>
      have gro:(ro != 0)=true:=by simp [bne,hro]
      go_enter func226,ntmps226;go_wp2;go_ret;exact⟨Zaa (by simp [Zer,hle,hmo,hwe,hto,hro]),Zb_.alloc Zl_ _⟩
     | true=>
      have gro:(ro != 0)=false:=by simp [bne,hro]
      go_enter func226,ntmps226;go_wp2;go_ret;exact⟨Zaa (by simp [Zer,hle,hmo,hwe,hto,hro]),Zb_.alloc Zl_ _⟩
theorem Zq3 :
 Calls prog 226 #[.agg #[.string nm,.int .i64 3,.int .i64 le,.int .i64 mo,.slice a n cap,.string to,.int .i64 ro,.bool mu,.bool fx,.string df,.string we]] w fun e w'=>e=.returned (.bool (ZeI n to ro we))/\Zw_ w w':=by
 cases hwe:we.toList.isEmpty with
 | false=>
  go_enter func226,ntmps226;go_wp2;go_ret;exact⟨Zaa (by simp [ZeI,hwe]),Zb_.alloc Zl_ _⟩
 | true=>
  cases hn:((n:Int) == 0) with
  | false=>
   have gn:(0:Int) < n:=by simp at hn;omega
   go_enter func226,ntmps226;go_wp2;go_ret;exact⟨Zaa (by simp [ZeI,hwe,hn]),Zb_.alloc Zl_ _⟩
  | true=>
   have gn:¬ (0:Int) < n:=by simp at hn;omega
   cases hto:to.toList.isEmpty with
   | false=>
    go_enter func226,ntmps226;go_wp2;go_ret;exact⟨Zaa (by simp [ZeI,hwe,hn,hto]),Zb_.alloc Zl_ _⟩
   | true=>
    cases hro:(ro == 0) with
    | false=>
     have gro:(ro != 0)=true:=by simp [bne,hro]
     go_enter func226,ntmps226;go_wp2;go_ret;exact⟨Zaa (by simp [ZeI,hwe,hn,hto,hro]),Zb_.alloc Zl_ _⟩
    | true=>
     have gro:(ro != 0)=false:=by simp [bne,hro]
     go_enter func226,ntmps226;go_wp2;go_ret;exact⟨Zaa (by simp [ZeI,hwe,hn,hto,hro]),Zb_.alloc Zl_ _⟩
theorem Zq4 :
 Calls prog 226 #[.agg #[.string nm,.int .i64 4,.int .i64 le,.int .i64 mo,.slice a n cap,.string to,.int .i64 ro,.bool mu,.bool fx,.string df,.string we]] w fun e w'=>e=.returned (.bool (ZeJ le mo n we))/\Zw_ w w':=by
 cases hle:(le == 0) with
 | false=>
  have gle:(le != 0)=true:=by simp [bne,hle]
  go_enter func226,ntmps226;go_wp2;go_ret;exact⟨Zaa (by simp [ZeJ,hle]),Zb_.alloc Zl_ _⟩
 | true=>
  have gle:(le != 0)=false:=by simp [bne,hle]
  cases hmo:(mo == 0) with
  | false=>
   have gmo:(mo != 0)=true:=by simp [bne,hmo]
   go_enter func226,ntmps226;go_wp2;go_ret;exact⟨Zaa (by simp [ZeJ,hle,hmo]),Zb_.alloc Zl_ _⟩
  | true=>
   have gmo:(mo != 0)=false:=by simp [bne,hmo]
   cases hwe:we.toList.isEmpty with
   | false=>
    go_enter func226,ntmps226;go_wp2;go_ret;exact⟨Zaa (by simp [ZeJ,hle,hmo,hwe]),Zb_.alloc Zl_ _⟩
   | true=>
    cases hn:((n:Int) == 0) with
    | false=>
     have gn:(0:Int) < n:=by simp at hn;omega
     go_enter func226,ntmps226;go_wp2;go_ret;exact⟨Zaa (by simp [ZeJ,hle,hmo,hwe,hn]),Zb_.alloc Zl_ _⟩
    | true=>
     have gn:¬ (0:Int) < n:=by simp at hn;omega
     go_enter func226,ntmps226;go_wp2;go_ret;exact⟨Zaa (by simp [ZeJ,hle,hmo,hwe,hn]),Zb_.alloc Zl_ _⟩
end
end
section
theorem ZaM (w u:World) (O:Array Value) (T:TypeId) (h:Below (w.heap.size+1) (w.alloc (.cells O T)) u) (i:Nat):u.cell? ⟨w.heap.size,i,none⟩=O[i]?:=by
 rw [h.cell (p:=⟨w.heap.size,i,none⟩) (by simp)];simp
def Zb0 (le mo:Int) (we:Zy_):Bool:=decide (0<=le)&&decide (le<=mo)&&decide (mo<=1000000)&&Zag we
def ZdP (n:Nat) (L:List Zy_):Bool:=decide (1<=(n:Int))&&decide ((n:Int)<=6)&&ZmU L
def ZcE (le mo:Int):Bool:=decide (1<=le)&&decide (le<=mo)&&decide (mo<=40)
def ZkI (ro:Int) (mu:Bool):Bool:=ro == 1 || ro == 3 || ro == 2&&!mu
def Zc2 (Ss:List Sh) (to:Zy_) (ro:Int) (mu:Bool) (df:Zy_):Bool:=Zk8 Ss to&&df.toList.isEmpty&&ZkI ro mu
theorem un1 (n:Nat) (to:Zy_) (ro:Int):ZbX 0 0 n to ro ⟨#[]⟩=ZeZ n to ro:=by simp [ZbX,ZeZ,ByteArray.toList_eq]
theorem un2 (le mo:Int) (to:Zy_) (ro:Int) (we:Zy_):ZbX le mo 0 to ro we=Zer le mo to ro we:=by
 simp only [ZbX,Zer];cases (le == 0) <;> cases (mo == 0) <;> cases to.toList.isEmpty <;> cases (ro == 0) <;> cases we.toList.isEmpty <;> rfl
theorem un3 (n:Nat) (to:Zy_) (ro:Int) (we:Zy_):ZbX 0 0 n to ro we=ZeI n to ro we:=by
 simp only [ZbX,ZeI];cases ((n:Int) == 0) <;> cases to.toList.isEmpty <;> cases (ro == 0) <;> cases we.toList.isEmpty <;> rfl
theorem un4 (le mo:Int) (n:Nat) (we:Zy_):ZbX le mo n ⟨#[]⟩ 0 we=ZeJ le mo n we:=by
 simp only [ZbX,ZeJ,ByteArray.toList_eq];cases (le == 0) <;> cases (mo == 0) <;> cases ((n:Int) == 0) <;> cases we.data.toList.isEmpty <;> rfl
section
variable (nm to df we:Zy_) (le mo ro:Int) (mu fx:Bool) (a:Option Addr) (n cap:Nat) (w:World)
theorem Zq0 (kd:Int) (h1:kd≠1) (h2:kd≠2) (h3:kd≠3) (h4:kd≠4) :
 Calls prog 226 #[.agg #[.string nm,.int .i64 kd,.int .i64 le,.int .i64 mo,.slice a n cap,.string to,.int .i64 ro,.bool mu,.bool fx,.string df,.string we]] w fun e w'=>∃ b,e=.returned (.bool b)/\Zw_ w w':=by
 have b1:(kd == 1)=false:=beq_eq_false_iff_ne.2 h1;have b2:(kd == 2)=false:=beq_eq_false_iff_ne.2 h2;have b3:(kd == 3)=false:=beq_eq_false_iff_ne.2 h3;have b4:(kd == 4)=false:=beq_eq_false_iff_ne.2 h4;have c1:(kd != 1)=true:=by simp [bne,b1]
 have c2:(kd != 2)=true:=by simp [bne,b2]
 clear h1 h2 h3 h4;go_enter func226,ntmps226;go_wp2
 all_goals go_ret
 all_goals exact⟨_,rfl,Zb_.alloc Zl_ _⟩
theorem Zru (lv:Value) (hs:we.size<=maxLen) :
 Calls prog 295 #[.agg #[.int .i64 le,.int .i64 mo,.string we],lv] w fun e w'=>e=.returned (.bool (Zb0 le mo we))/\Zw_ w w':=by
 have HW:∀ o,Hd (Zw_ w (w.alloc o)):=fun o=>Zb_.alloc Zl_ _
 have hk:=fun u=>ZbA we u hs
 by_cases h1:0<=le
 . by_cases h2:le<=mo
   . by_cases h3:mo<=1000000
     . go_enter func295,ntmps295
       go_wp2_with fail;refine (hk _).mono ?_;rintro e w1 ⟨rfl,rfl⟩;go_wp2;go_ret;exact⟨Zaa (by simp [Zb0,h1,h2,h3]),(HW _).o⟩
     . go_enter func295,ntmps295
       go_wp2;go_ret;exact⟨Zaa (by rw [Bool.eq_iff_iff];simp [Zb0];omega),(HW _).o⟩
   . go_enter func295,ntmps295
     go_wp2;go_ret;exact⟨Zaa (by rw [Bool.eq_iff_iff];simp [Zb0];omega),(HW _).o⟩
 . go_enter func295,ntmps295
   go_wp2;go_ret;exact⟨Zaa (by rw [Bool.eq_iff_iff];simp [Zb0];omega),(HW _).o⟩
theorem Zrv (lv:Value) (L:List Zy_) (hv:Zae w (.slice a L.length cap) L) :
 Calls prog 298 #[.agg #[.slice a L.length cap],lv] w fun e w'=>e=.returned (.bool (ZdP L.length L))/\Zw_ w w':=by
 have HV:=Zab hv;clear hv;have HW:∀ o,Hd (Zw_ w (w.alloc o)):=fun o=>Zb_.alloc Zl_ _
 by_cases h1:(1:Int)<=L.length
 . by_cases h2:(L.length:Int)<=6
   . go_enter func298,ntmps298
     go_wp2_with fail;refine (Zfx _ L _ (HV.o.below (HW _).o)).mono ?_;rintro e w1 ⟨rfl,rfl⟩;go_wp2;go_ret;exact⟨Zaa (by simp [ZdP,h1,h2]),(HW _).o⟩
   . go_enter func298,ntmps298
     go_wp2;go_ret;exact⟨Zaa (by rw [Bool.eq_iff_iff];simp [ZdP];omega),(HW _).o⟩
 . go_enter func298,ntmps298
   go_wp2;go_ret;exact⟨Zaa (by rw [Bool.eq_iff_iff];simp [ZdP];omega),(HW _).o⟩
theorem Zrw (lv:Value) :
 Calls prog 301 #[.agg #[.int .i64 le,.int .i64 mo],lv] w fun e w'=>e=.returned (.bool (ZcE le mo))/\Zw_ w w':=by
 have HW:∀ o,Hd (Zw_ w (w.alloc o)):=fun o=>Zb_.alloc Zl_ _
 by_cases h1:1<=le
 . by_cases h2:le<=mo
   . go_enter func301,ntmps301
     go_wp2;go_ret;exact⟨Zaa (by simp [ZcE,h1,h2]),(HW _).o⟩
   . go_enter func301,ntmps301
     go_wp2;go_ret;exact⟨Zaa (by rw [Bool.eq_iff_iff];simp [ZcE];omega),(HW _).o⟩
 . go_enter func301,ntmps301
   go_wp2;go_ret;exact⟨Zaa (by rw [Bool.eq_iff_iff];simp [ZcE];omega),(HW _).o⟩
theorem Zrx (lo:Nat) (lv:Value) (Ss:List Sh) (hv:Zba lo w lv Ss) :
 Calls prog 304 #[.agg #[.string to,.int .i64 ro,.bool mu,.string df],lv] w fun e w'=>e=.returned (.bool (Zc2 Ss to ro mu df))/\Zw_ w w':=by
 have HV:=Zab hv;obtain⟨la,lcap,rfl⟩:=hv.form;clear hv;have HW:∀ o,Hd (Zw_ w (w.alloc o)):=fun o=>Zb_.alloc Zl_ _
 go_enter func304,ntmps304;go_wp2_with fail;refine (ZkL lo _ Ss _ _ (HV.o.below (HW _).o)).mono ?_;rintro e w1 ⟨hb1,hsh⟩;have hz:w.heap.size < w1.heap.size:=by have:=hb1.size;simp at this;omega
 have hbx:=fun i=>ZaM w w1 #[.string to,.int .i64 ro,.bool mu,.string df] 335 (by have:=hb1;simp at this;exact this) i
 have HB:Hd (Zw_ w w1):=(HW _).o.trans (hb1.mono (by simp));clear hb1
 rcases hsh with ⟨x,fv,hx,rfl,hfd⟩ | ⟨hx,rfl⟩
 . have HK:Hd (Zk8 Ss to=true):=Zjl hx
   obtain⟨fa,fcap,rfl⟩:=hfd.form;clear hfd hx
   cases hd:df.toList.isEmpty with
   | false=>
    go_wp2;go_ret;exact⟨Zaa (by simp [Zc2,hd]),HB.o.alloc (by omega) _⟩
   | true=>
    cases a1:(ro == 1) with
    | true=>
     go_wp2;go_ret;exact⟨Zaa (by simp [Zc2,ZkI,hd,HK.o,a1]),HB.o.alloc (by omega) _⟩
    | false=>
     cases a3:(ro == 3) with
     | true=>
      go_wp2;go_ret;exact⟨Zaa (by simp [Zc2,ZkI,hd,HK.o,a1,a3]),HB.o.alloc (by omega) _⟩
     | false=>
      cases a2:(ro == 2) with
      | true=>
       go_wp2;go_ret;exact⟨Zaa (by simp [Zc2,ZkI,hd,HK.o,a1,a3,a2]),HB.o.alloc (by omega) _⟩
      | false=>
       go_wp2;go_ret;exact⟨Zaa (by simp [Zc2,ZkI,hd,HK.o,a1,a3,a2]),HB.o.alloc (by omega) _⟩
 . have HK:Hd (Zk8 Ss to=false):=Zjk hx
   clear hx;go_wp2;go_ret;exact⟨Zaa (by simp [Zc2,HK.o]),HB.o.alloc (by omega) _⟩
end
end
section
section
variable (nm to df we:Zy_) (le mo ro:Int) (mu fx:Bool) (a:Option Addr) (L:List Zy_) (cap:Nat) (w:World)
theorem Zl4 (kd:Int) (lo:Nat) (lv:Value) (Ss:List Sh) (hl:Zba lo w lv Ss) (hv:Zae w (.slice a L.length cap) L) (s9:df.size<=maxLen) (s10:we.size<=maxLen) :
 Calls prog 232 #[.iface 329 (.agg #[.int .i64 le,.int .i64 mo,.string we]),lv,.agg #[.string nm,.int .i64 kd,.int .i64 le,.int .i64 mo,.slice a L.length cap,.string to,.int .i64 ro,.bool mu,.bool fx,.string df,.string we]] w fun e w'=>e=.returned (.bool (ZeZ L.length to ro&&Zb0 le mo we&&(df.toList.isEmpty || ZaN 1 le mo L df)))/\Zw_ w w':=by
 have HL:=Zab hl;have HV:=Zab hv;have HW9:=Zab s9;have HW4:=Zab s10;obtain⟨la,lcap,rfl⟩:=hl.form;clear hl hv s9 s10;have HW:∀ o,Hd (Zw_ w (w.alloc o)):=fun o=>Zb_.alloc Zl_ _
 have m1:∀ W:World,(method 467 329 (.agg #[.int .i64 le,.int .i64 mo,.string we]) "loop.example/wharfhall/impl.without").run prog W=.ok (296,.agg #[.int .i64 le,.int .i64 mo,.string we]) W:=fun _=>by kernel_rfl
 have m2:∀ W:World,(method 467 329 (.agg #[.int .i64 le,.int .i64 mo,.string we]) "loop.example/wharfhall/impl.sound").run prog W=.ok (295,.agg #[.int .i64 le,.int .i64 mo,.string we]) W:=fun _=>by kernel_rfl
 have m3:∀ W:World,(method 467 329 (.agg #[.int .i64 le,.int .i64 mo,.string we]) "loop.example/wharfhall/impl.fits").run prog W=.ok (294,.agg #[.int .i64 le,.int .i64 mo,.string we]) W:=fun _=>by kernel_rfl
 rw [Zqs];go_enter func232,ntmps232;go_wp2_with fail;refine (ZoH nm to df we le mo ro mu fx a L.length cap _ _).mono ?_;rintro e w1 ⟨rfl,hb1⟩;have HC1:Hd (Below (w.heap.size+1) (w.alloc (.cells #[.string nm,.int .i64 kd,.int .i64 le,.int .i64 mo,.slice a L.length cap,.string to,.int .i64 ro,.bool mu,.bool fx,.string df,.string we] 109)) w1):=by have:=hb1;simp at this;exact this
 have HB1:Hd (Zw_ w w1):=(HW _).o.trans (hb1.mono (by simp));clear hb1;go_wp2_with fail;refine (Zep nm to df ⟨#[]⟩ 0 0 ro mu fx a L.length cap _ _).mono ?_;rintro e w2 ⟨rfl,hb2⟩;have HC2:Hd (Below (w.heap.size+1) (w.alloc (.cells #[.string nm,.int .i64 kd,.int .i64 le,.int .i64 mo,.slice a L.length cap,.string to,.int .i64 ro,.bool mu,.bool fx,.string df,.string we] 109)) w2):=HC1.o.trans (hb2.mono (by have:=HC1.o.size;simp at this;omega));have HB2:Hd (Zw_ w w2):=HB1.o.trans (hb2.mono HB1.o.size);clear hb2 HB1 HC1;rw [un1]
 cases hbr:ZeZ L.length to ro with
 | false=>
  go_wp2;go_ret;exact⟨Zaa (by simp [hbr]),HB2.o⟩
 | true=>
  go_wp2_with fail;refine (Zru we le mo _ _ HW4.o).mono ?_;rintro e w3 ⟨rfl,hb3⟩;have HC3:Hd (Below (w.heap.size+1) (w.alloc (.cells #[.string nm,.int .i64 kd,.int .i64 le,.int .i64 mo,.slice a L.length cap,.string to,.int .i64 ro,.bool mu,.bool fx,.string df,.string we] 109)) w3):=HC2.o.trans (hb3.mono (by have:=HC2.o.size;simp at this;omega));have HB3:Hd (Zw_ w w3):=HB2.o.trans (hb3.mono HB2.o.size);clear hb3 HB2 HC2;have hbx:=fun i=>ZaM w w3 #[.string nm,.int .i64 kd,.int .i64 le,.int .i64 mo,.slice a L.length cap,.string to,.int .i64 ro,.bool mu,.bool fx,.string df,.string we] 109 HC3.o i
  cases hso:Zb0 le mo we with
  | false=>
   go_wp2;go_ret;exact⟨Zaa (by simp [hbr,hso]),HB3.o⟩
  | true=>
   cases hd:df.toList.isEmpty with
   | true=>
    go_wp2;go_ret;exact⟨Zaa (by simp [hbr,hso,hd]),HB3.o⟩
   | false=>
    go_wp2_with fail;refine (ZnU _ _ _ _ _ HW9.o).mono ?_;rintro e w4 ⟨rfl,hb4⟩;have HB4:Hd (Zw_ w w4):=HB3.o.trans (hb4.mono HB3.o.size);clear hb4;go_wp2;go_ret;exact⟨Zaa (by simp [hbr,hso,hd]),HB4.o⟩
theorem Zl5 (kd:Int) (lo:Nat) (lv:Value) (Ss:List Sh) (hl:Zba lo w lv Ss) (hv:Zae w (.slice a L.length cap) L) (s9:df.size<=maxLen) (s10:we.size<=maxLen) :
 Calls prog 232 #[.iface 331 (.agg #[.slice a L.length cap]),lv,.agg #[.string nm,.int .i64 kd,.int .i64 le,.int .i64 mo,.slice a L.length cap,.string to,.int .i64 ro,.bool mu,.bool fx,.string df,.string we]] w fun e w'=>e=.returned (.bool (Zer le mo to ro we&&ZdP L.length L&&(df.toList.isEmpty || ZaN 2 le mo L df)))/\Zw_ w w':=by
 have HL:=Zab hl;have HV:=Zab hv;have HW9:=Zab s9;have HW4:=Zab s10;obtain⟨la,lcap,rfl⟩:=hl.form;clear hl hv s9 s10;have HW:∀ o,Hd (Zw_ w (w.alloc o)):=fun o=>Zb_.alloc Zl_ _
 have m1:∀ W:World,(method 467 331 (.agg #[.slice a L.length cap]) "loop.example/wharfhall/impl.without").run prog W=.ok (299,.agg #[.slice a L.length cap]) W:=fun _=>by kernel_rfl
 have m2:∀ W:World,(method 467 331 (.agg #[.slice a L.length cap]) "loop.example/wharfhall/impl.sound").run prog W=.ok (298,.agg #[.slice a L.length cap]) W:=fun _=>by kernel_rfl
 have m3:∀ W:World,(method 467 331 (.agg #[.slice a L.length cap]) "loop.example/wharfhall/impl.fits").run prog W=.ok (297,.agg #[.slice a L.length cap]) W:=fun _=>by kernel_rfl
 rw [Zqt];go_enter func232,ntmps232;go_wp2_with fail;refine (ZoI nm to df we le mo ro mu fx a L.length cap _ _).mono ?_;rintro e w1 ⟨rfl,hb1⟩;have HC1:Hd (Below (w.heap.size+1) (w.alloc (.cells #[.string nm,.int .i64 kd,.int .i64 le,.int .i64 mo,.slice a L.length cap,.string to,.int .i64 ro,.bool mu,.bool fx,.string df,.string we] 109)) w1):=by have:=hb1;simp at this;exact this
 have HB1:Hd (Zw_ w w1):=(HW _).o.trans (hb1.mono (by simp));clear hb1;go_wp2_with fail;refine (Zep nm to df we le mo ro mu fx none 0 0 _ _).mono ?_;rintro e w2 ⟨rfl,hb2⟩;have HC2:Hd (Below (w.heap.size+1) (w.alloc (.cells #[.string nm,.int .i64 kd,.int .i64 le,.int .i64 mo,.slice a L.length cap,.string to,.int .i64 ro,.bool mu,.bool fx,.string df,.string we] 109)) w2):=HC1.o.trans (hb2.mono (by have:=HC1.o.size;simp at this;omega));have HB2:Hd (Zw_ w w2):=HB1.o.trans (hb2.mono HB1.o.size);clear hb2 HB1 HC1;rw [un2]
 cases hbr:Zer le mo to ro we with
 | false=>
  go_wp2;go_ret;exact⟨Zaa (by simp [hbr]),HB2.o⟩
 | true=>
  go_wp2_with fail;refine (Zrv a cap _ _ L (HV.o.below HB2.o)).mono ?_;rintro e w3 ⟨rfl,hb3⟩;have HC3:Hd (Below (w.heap.size+1) (w.alloc (.cells #[.string nm,.int .i64 kd,.int .i64 le,.int .i64 mo,.slice a L.length cap,.string to,.int .i64 ro,.bool mu,.bool fx,.string df,.string we] 109)) w3):=HC2.o.trans (hb3.mono (by have:=HC2.o.size;simp at this;omega));have HB3:Hd (Zw_ w w3):=HB2.o.trans (hb3.mono HB2.o.size);clear hb3 HB2 HC2;have hbx:=fun i=>ZaM w w3 #[.string nm,.int .i64 kd,.int .i64 le,.int .i64 mo,.slice a L.length cap,.string to,.int .i64 ro,.bool mu,.bool fx,.string df,.string we] 109 HC3.o i
  cases hso:ZdP L.length L with
  | false=>
   go_wp2;go_ret;exact⟨Zaa (by simp [hbr,hso]),HB3.o⟩
  | true=>
   cases hd:df.toList.isEmpty with
   | true=>
    go_wp2;go_ret;exact⟨Zaa (by simp [hbr,hso,hd]),HB3.o⟩
   | false=>
    go_wp2_with fail;refine (Zlu _ _ _ _ _ L (HV.o.below HB3.o)).mono ?_;rintro e w4 ⟨rfl,hb4⟩;have HB4:Hd (Zw_ w w4):=HB3.o.trans (hb4.mono HB3.o.size);clear hb4;go_wp2;go_ret;exact⟨Zaa (by simp [hbr,hso,hd]),HB4.o⟩
theorem Zl6 (kd:Int) (lo:Nat) (lv:Value) (Ss:List Sh) (hl:Zba lo w lv Ss) (hv:Zae w (.slice a L.length cap) L) (s9:df.size<=maxLen) (s10:we.size<=maxLen) :
 Calls prog 232 #[.iface 333 (.agg #[.int .i64 le,.int .i64 mo]),lv,.agg #[.string nm,.int .i64 kd,.int .i64 le,.int .i64 mo,.slice a L.length cap,.string to,.int .i64 ro,.bool mu,.bool fx,.string df,.string we]] w fun e w'=>e=.returned (.bool (ZeI L.length to ro we&&ZcE le mo&&(df.toList.isEmpty || ZaN 3 le mo L df)))/\Zw_ w w':=by
 have HL:=Zab hl;have HV:=Zab hv;have HW9:=Zab s9;have HW4:=Zab s10;obtain⟨la,lcap,rfl⟩:=hl.form;clear hl hv s9 s10;have HW:∀ o,Hd (Zw_ w (w.alloc o)):=fun o=>Zb_.alloc Zl_ _
 have m1:∀ W:World,(method 467 333 (.agg #[.int .i64 le,.int .i64 mo]) "loop.example/wharfhall/impl.without").run prog W=.ok (302,.agg #[.int .i64 le,.int .i64 mo]) W:=fun _=>by kernel_rfl
 have m2:∀ W:World,(method 467 333 (.agg #[.int .i64 le,.int .i64 mo]) "loop.example/wharfhall/impl.sound").run prog W=.ok (301,.agg #[.int .i64 le,.int .i64 mo]) W:=fun _=>by kernel_rfl
 have m3:∀ W:World,(method 467 333 (.agg #[.int .i64 le,.int .i64 mo]) "loop.example/wharfhall/impl.fits").run prog W=.ok (300,.agg #[.int .i64 le,.int .i64 mo]) W:=fun _=>by kernel_rfl
 rw [Zqu];go_enter func232,ntmps232;go_wp2_with fail;refine (ZoJ nm to df we le mo ro mu fx a L.length cap _ _).mono ?_;rintro e w1 ⟨rfl,hb1⟩;have HC1:Hd (Below (w.heap.size+1) (w.alloc (.cells #[.string nm,.int .i64 kd,.int .i64 le,.int .i64 mo,.slice a L.length cap,.string to,.int .i64 ro,.bool mu,.bool fx,.string df,.string we] 109)) w1):=by have:=hb1;simp at this;exact this
 have HB1:Hd (Zw_ w w1):=(HW _).o.trans (hb1.mono (by simp));clear hb1;go_wp2_with fail;refine (Zep nm to df we 0 0 ro mu fx a L.length cap _ _).mono ?_;rintro e w2 ⟨rfl,hb2⟩;have HC2:Hd (Below (w.heap.size+1) (w.alloc (.cells #[.string nm,.int .i64 kd,.int .i64 le,.int .i64 mo,.slice a L.length cap,.string to,.int .i64 ro,.bool mu,.bool fx,.string df,.string we] 109)) w2):=HC1.o.trans (hb2.mono (by have:=HC1.o.size;simp at this;omega));have HB2:Hd (Zw_ w w2):=HB1.o.trans (hb2.mono HB1.o.size);clear hb2 HB1 HC1;rw [un3]
 cases hbr:ZeI L.length to ro we with
 | false=>
  go_wp2;go_ret;exact⟨Zaa (by simp [hbr]),HB2.o⟩
 | true=>
  go_wp2_with fail;refine (Zrw le mo _ _).mono ?_;rintro e w3 ⟨rfl,hb3⟩;have HC3:Hd (Below (w.heap.size+1) (w.alloc (.cells #[.string nm,.int .i64 kd,.int .i64 le,.int .i64 mo,.slice a L.length cap,.string to,.int .i64 ro,.bool mu,.bool fx,.string df,.string we] 109)) w3):=HC2.o.trans (hb3.mono (by have:=HC2.o.size;simp at this;omega));have HB3:Hd (Zw_ w w3):=HB2.o.trans (hb3.mono HB2.o.size);clear hb3 HB2 HC2;have hbx:=fun i=>ZaM w w3 #[.string nm,.int .i64 kd,.int .i64 le,.int .i64 mo,.slice a L.length cap,.string to,.int .i64 ro,.bool mu,.bool fx,.string df,.string we] 109 HC3.o i
  cases hso:ZcE le mo with
  | false=>
   go_wp2;go_ret;exact⟨Zaa (by simp [hbr,hso]),HB3.o⟩
  | true=>
   cases hd:df.toList.isEmpty with
   | true=>
    go_wp2;go_ret;exact⟨Zaa (by simp [hbr,hso,hd]),HB3.o⟩
   | false=>
    go_wp2_with fail;refine (ZfP _ _ _ _ HW9.o).mono ?_;rintro e w4 ⟨rfl,hb4⟩;have HB4:Hd (Zw_ w w4):=HB3.o.trans (hb4.mono HB3.o.size);clear hb4;go_wp2;go_ret;exact⟨Zaa (by simp [hbr,hso,hd]),HB4.o⟩
theorem Zl7 (kd:Int) (lo:Nat) (lv:Value) (Ss:List Sh) (hl:Zba lo w lv Ss) (hv:Zae w (.slice a L.length cap) L) (s9:df.size<=maxLen) (s10:we.size<=maxLen) :
 Calls prog 232 #[.iface 335 (.agg #[.string to,.int .i64 ro,.bool mu,.string df]),lv,.agg #[.string nm,.int .i64 kd,.int .i64 le,.int .i64 mo,.slice a L.length cap,.string to,.int .i64 ro,.bool mu,.bool fx,.string df,.string we]] w fun e w'=>e=.returned (.bool (ZeJ le mo L.length we&&Zc2 Ss to ro mu df&&(df.toList.isEmpty || ZaN 4 le mo L df)))/\Zw_ w w':=by
 have HL:=Zab hl;have HV:=Zab hv;have HW9:=Zab s9;have HW4:=Zab s10;obtain⟨la,lcap,rfl⟩:=hl.form;clear hl hv s9 s10;have HW:∀ o,Hd (Zw_ w (w.alloc o)):=fun o=>Zb_.alloc Zl_ _
 have m1:∀ W:World,(method 467 335 (.agg #[.string to,.int .i64 ro,.bool mu,.string df]) "loop.example/wharfhall/impl.without").run prog W=.ok (305,.agg #[.string to,.int .i64 ro,.bool mu,.string df]) W:=fun _=>by kernel_rfl
 have m2:∀ W:World,(method 467 335 (.agg #[.string to,.int .i64 ro,.bool mu,.string df]) "loop.example/wharfhall/impl.sound").run prog W=.ok (304,.agg #[.string to,.int .i64 ro,.bool mu,.string df]) W:=fun _=>by kernel_rfl
 have m3:∀ W:World,(method 467 335 (.agg #[.string to,.int .i64 ro,.bool mu,.string df]) "loop.example/wharfhall/impl.fits").run prog W=.ok (303,.agg #[.string to,.int .i64 ro,.bool mu,.string df]) W:=fun _=>by kernel_rfl
 rw [Zqv];go_enter func232,ntmps232;go_wp2_with fail;refine (ZmR nm to df we le mo ro mu fx a L.length cap _ _).mono ?_;rintro e w1 ⟨rfl,hb1⟩;have HC1:Hd (Below (w.heap.size+1) (w.alloc (.cells #[.string nm,.int .i64 kd,.int .i64 le,.int .i64 mo,.slice a L.length cap,.string to,.int .i64 ro,.bool mu,.bool fx,.string df,.string we] 109)) w1):=by have:=hb1;simp at this;exact this
 have HB1:Hd (Zw_ w w1):=(HW _).o.trans (hb1.mono (by simp));clear hb1;go_wp2_with fail;refine (Zep nm ⟨#[]⟩ df we le mo 0 mu fx a L.length cap _ _).mono ?_;rintro e w2 ⟨rfl,hb2⟩;have HC2:Hd (Below (w.heap.size+1) (w.alloc (.cells #[.string nm,.int .i64 kd,.int .i64 le,.int .i64 mo,.slice a L.length cap,.string to,.int .i64 ro,.bool mu,.bool fx,.string df,.string we] 109)) w2):=HC1.o.trans (hb2.mono (by have:=HC1.o.size;simp at this;omega));have HB2:Hd (Zw_ w w2):=HB1.o.trans (hb2.mono HB1.o.size);clear hb2 HB1 HC1;rw [un4]
 cases hbr:ZeJ le mo L.length we with
 | false=>
  go_wp2;go_ret;exact⟨Zaa (by simp [hbr]),HB2.o⟩
 | true=>
  go_wp2_with fail;refine (Zrx to df ro mu _ lo _ Ss (HL.o.below HB2.o)).mono ?_;rintro e w3 ⟨rfl,hb3⟩;have HC3:Hd (Below (w.heap.size+1) (w.alloc (.cells #[.string nm,.int .i64 kd,.int .i64 le,.int .i64 mo,.slice a L.length cap,.string to,.int .i64 ro,.bool mu,.bool fx,.string df,.string we] 109)) w3):=HC2.o.trans (hb3.mono (by have:=HC2.o.size;simp at this;omega));have HB3:Hd (Zw_ w w3):=HB2.o.trans (hb3.mono HB2.o.size);clear hb3 HB2 HC2;have hbx:=fun i=>ZaM w w3 #[.string nm,.int .i64 kd,.int .i64 le,.int .i64 mo,.slice a L.length cap,.string to,.int .i64 ro,.bool mu,.bool fx,.string df,.string we] 109 HC3.o i
  cases hso:Zc2 Ss to ro mu df with
  | false=>
   go_wp2;go_ret;exact⟨Zaa (by simp [hbr,hso]),HB3.o⟩
  | true=>
   cases hd:df.toList.isEmpty with
   | true=>
    go_wp2;go_ret;exact⟨Zaa (by simp [hbr,hso,hd]),HB3.o⟩
   | false=>
    go_wp2_with fail;refine (Zle _ _ _ _ _ _ HW9.o).mono ?_;rintro e w4 ⟨rfl,hb4⟩;have HB4:Hd (Zw_ w w4):=HB3.o.trans (hb4.mono HB3.o.size);clear hb4;go_wp2;go_ret;exact⟨Zaa (by simp [hbr,hso,hd]),HB4.o⟩
end
end
section
theorem Zsv (n:Nat) (L:List Zy_):ZdP n L=(inB 1 6 (n:Int)&&ZmU L):=by unfold ZdP;rw [Ze9]
theorem Zrs (ro:Int) (mu:Bool):ZkI ro mu=(inB 1 3 ro&&((ro != 2) || !mu)):=by
 unfold ZkI inB
 by_cases h1:ro=1
 . subst h1;simp
 by_cases h2:ro=2
 . subst h2;simp
 by_cases h3:ro=3
 . subst h3;simp
 have hx:¬ (1<=ro/\ro<=3):=by omega
 simp [h1,h2,h3,hx]
theorem Zrt (Ss:List Sh) (to:Zy_) (ro:Int) (mu:Bool) (df:Zy_):Zc2 Ss to ro mu df=(Zk8 Ss to&&inB 1 3 ro&&df.toList.isEmpty&&((ro != 2) || !mu)):=by
 unfold Zc2;rw [Zrs];cases Zk8 Ss to <;> cases df.toList.isEmpty <;> cases inB 1 3 ro <;> simp
section
variable (nm to df we:Zy_) (le mo ro:Int) (mu fx:Bool) (a:Option Addr) (L:List Zy_) (cap:Nat) (w:World)
theorem Zmw (lo:Nat) (lv:Value) (Ss:List Sh) (hl:Zba lo w lv Ss) (hv:Zae w (.slice a L.length cap) L) (s0:nm.size<=maxLen) (s9:df.size<=maxLen) (s10:we.size<=maxLen) :
 Calls prog 192 #[lv,.agg #[.string nm,.int .i64 1,.int .i64 le,.int .i64 mo,.slice a L.length cap,.string to,.int .i64 ro,.bool mu,.bool fx,.string df,.string we]] w fun e w'=>e=.returned (.bool (Zan nm&&(ZeZ L.length to ro&&Zb0 le mo we&&(df.toList.isEmpty || ZaN 1 le mo L df))))/\Zw_ w w':=by
 have HL:=Zab hl;have HV:=Zab hv;have HW0:=Zab s0;have HW9:=Zab s9;have HW4:=Zab s10;obtain⟨la,lcap,rfl⟩:=hl.form;clear hl hv s0 s9 s10;generalize hQ:(Zan nm&&(ZeZ L.length to ro&&Zb0 le mo we&&(df.toList.isEmpty || ZaN 1 le mo L df)))=Q;have HQ:=Zab hQ;clear hQ;have HW:∀ o,Hd (Zw_ w (w.alloc o)):=fun o=>Zb_.alloc Zl_ _
 go_enter func192,ntmps192;go_wp2_with fail;refine (Zad _ _ HW0.o).mono ?_;rintro e wx ⟨rfl,rfl⟩
 cases hnm:Zan nm with
 | false=>
  go_wp2;go_ret;exact⟨Zaa (by rw [<- HQ.o,hnm];rfl),(HW _).o⟩
 | true=>
  go_wp2_with fail;refine (Zq1 nm to df we le mo ro mu fx a L.length cap _).mono ?_;rintro e w1 ⟨rfl,hb1⟩;have HC1:Hd (Below (w.heap.size+1) (w.alloc (.cells #[.string nm,.int .i64 1,.int .i64 le,.int .i64 mo,.slice a L.length cap,.string to,.int .i64 ro,.bool mu,.bool fx,.string df,.string we] 109)) w1):=by have:=hb1;simp at this;exact this
  have HB1:Hd (Zw_ w w1):=(HW _).o.trans (hb1.mono (by simp));have hbx:=fun i=>ZaM w w1 #[.string nm,.int .i64 1,.int .i64 le,.int .i64 mo,.slice a L.length cap,.string to,.int .i64 ro,.bool mu,.bool fx,.string df,.string we] 109 HC1.o i
  clear hb1
  cases hbr:ZeZ L.length to ro with
  | false=>
   go_wp2;go_ret;exact⟨Zaa (by rw [<- HQ.o,hnm,hbr];rfl),HB1.o⟩
  | true=>
   cases hd:df.toList.isEmpty with
   | true=>
    have hdf:(df.toList.isEmpty || ZaN 1 le mo L df)=true:=by simp [hd]
    have HDF:=Zab hdf;clear hdf
    by_cases h1:0<=le
    . by_cases h2:le<=mo
      . by_cases h3:mo<=1000000
        . cases he:we.toList.isEmpty with
          | true=>
           go_wp2;go_ret;exact⟨Zaa (by rw [<- HQ.o,HDF.o,hnm,hbr];simp [Zb0,Zag,h1,h2,h3,he]),HB1.o⟩
          | false=>
           go_wp2_with fail;refine (Zad _ _ HW4.o).mono ?_;rintro e wx ⟨rfl,rfl⟩;go_wp2;go_ret;exact⟨Zaa (by rw [<- HQ.o,HDF.o,hnm,hbr];simp [Zb0,Zag,h1,h2,h3,he]),HB1.o⟩
        . go_wp2
          go_ret;exact⟨Zaa (by rw [<- HQ.o,HDF.o,hnm,hbr];rw [Bool.eq_iff_iff];simp [Zb0];omega),HB1.o⟩
      . go_wp2
        go_ret;exact⟨Zaa (by rw [<- HQ.o,HDF.o,hnm,hbr];rw [Bool.eq_iff_iff];simp [Zb0];omega),HB1.o⟩
    . go_wp2
      go_ret;exact⟨Zaa (by rw [<- HQ.o,HDF.o,hnm,hbr];rw [Bool.eq_iff_iff];simp [Zb0];omega),HB1.o⟩
   | false=>
    go_wp2_with fail;refine (Zbp _ _ _ _ _ _ _ _ _ _ L _ _ _ (HV.o.below HB1.o) HW9.o).mono ?_;rintro e w2 ⟨rfl,hb2⟩;have HC2:Hd (Below (w.heap.size+1) (w.alloc (.cells #[.string nm,.int .i64 1,.int .i64 le,.int .i64 mo,.slice a L.length cap,.string to,.int .i64 ro,.bool mu,.bool fx,.string df,.string we] 109)) w2):=HC1.o.trans (hb2.mono (by have:=HC1.o.size;simp at this;omega));have HB2:Hd (Zw_ w w2):=HB1.o.trans (hb2.mono HB1.o.size);have hbx2:=fun i=>ZaM w w2 #[.string nm,.int .i64 1,.int .i64 le,.int .i64 mo,.slice a L.length cap,.string to,.int .i64 ro,.bool mu,.bool fx,.string df,.string we] 109 HC2.o i
    clear hb2 hbx
    cases hft:ZaN 1 le mo L df with
    | false=>
     go_wp2;go_ret;exact⟨Zaa (by rw [<- HQ.o,hnm,hbr,hd,hft];simp),HB2.o⟩
    | true=>
     have HDF:Hd ((df.toList.isEmpty || ZaN 1 le mo L df)=true):=by unfold Hd;simp [hft]
     by_cases h1:0<=le
     . by_cases h2:le<=mo
       . by_cases h3:mo<=1000000
         . cases he:we.toList.isEmpty with
           | true=>
            go_wp2;go_ret;exact⟨Zaa (by rw [<- HQ.o,HDF.o,hnm,hbr];simp [Zb0,Zag,h1,h2,h3,he]),HB2.o⟩
           | false=>
            go_wp2_with fail;refine (Zad _ _ HW4.o).mono ?_;rintro e wx ⟨rfl,rfl⟩;go_wp2;go_ret;exact⟨Zaa (by rw [<- HQ.o,HDF.o,hnm,hbr];simp [Zb0,Zag,h1,h2,h3,he]),HB2.o⟩
         . go_wp2
           go_ret;exact⟨Zaa (by rw [<- HQ.o,HDF.o,hnm,hbr];rw [Bool.eq_iff_iff];simp [Zb0];omega),HB2.o⟩
       . go_wp2
         go_ret;exact⟨Zaa (by rw [<- HQ.o,HDF.o,hnm,hbr];rw [Bool.eq_iff_iff];simp [Zb0];omega),HB2.o⟩
     . go_wp2
       go_ret;exact⟨Zaa (by rw [<- HQ.o,HDF.o,hnm,hbr];rw [Bool.eq_iff_iff];simp [Zb0];omega),HB2.o⟩
theorem Zmx (lo:Nat) (lv:Value) (Ss:List Sh) (hl:Zba lo w lv Ss) (hv:Zae w (.slice a L.length cap) L) (s0:nm.size<=maxLen) (s9:df.size<=maxLen) (s10:we.size<=maxLen) :
 Calls prog 192 #[lv,.agg #[.string nm,.int .i64 2,.int .i64 le,.int .i64 mo,.slice a L.length cap,.string to,.int .i64 ro,.bool mu,.bool fx,.string df,.string we]] w fun e w'=>e=.returned (.bool (Zan nm&&(Zer le mo to ro we&&ZdP L.length L&&(df.toList.isEmpty || ZaN 2 le mo L df))))/\Zw_ w w':=by
 have HL:=Zab hl;have HV:=Zab hv;have HW0:=Zab s0;have HW9:=Zab s9;have HW4:=Zab s10;obtain⟨la,lcap,rfl⟩:=hl.form;clear hl hv s0 s9 s10;generalize hQ:(Zan nm&&(Zer le mo to ro we&&ZdP L.length L&&(df.toList.isEmpty || ZaN 2 le mo L df)))=Q;have HQ:=Zab hQ;clear hQ;have HW:∀ o,Hd (Zw_ w (w.alloc o)):=fun o=>Zb_.alloc Zl_ _
 go_enter func192,ntmps192;go_wp2_with fail;refine (Zad _ _ HW0.o).mono ?_;rintro e wx ⟨rfl,rfl⟩
 cases hnm:Zan nm with
 | false=>
  go_wp2;go_ret;exact⟨Zaa (by rw [<- HQ.o,hnm];rfl),(HW _).o⟩
 | true=>
  go_wp2_with fail;refine (Zq2 nm to df we le mo ro mu fx a L.length cap _).mono ?_;rintro e w1 ⟨rfl,hb1⟩;have HC1:Hd (Below (w.heap.size+1) (w.alloc (.cells #[.string nm,.int .i64 2,.int .i64 le,.int .i64 mo,.slice a L.length cap,.string to,.int .i64 ro,.bool mu,.bool fx,.string df,.string we] 109)) w1):=by have:=hb1;simp at this;exact this
  have HB1:Hd (Zw_ w w1):=(HW _).o.trans (hb1.mono (by simp));have hbx:=fun i=>ZaM w w1 #[.string nm,.int .i64 2,.int .i64 le,.int .i64 mo,.slice a L.length cap,.string to,.int .i64 ro,.bool mu,.bool fx,.string df,.string we] 109 HC1.o i
  clear hb1
  cases hbr:Zer le mo to ro we with
  | false=>
   go_wp2;go_ret;exact⟨Zaa (by rw [<- HQ.o,hnm,hbr];rfl),HB1.o⟩
  | true=>
   cases hd:df.toList.isEmpty with
   | true=>
    have hdf:(df.toList.isEmpty || ZaN 2 le mo L df)=true:=by simp [hd]
    have HDF:=Zab hdf;clear hdf;go_wp2_with fail;refine (Zap _ _ _ _).mono ?_;rintro e wx ⟨rfl,rfl⟩
    cases hi:inB 1 6 (L.length:Int) with
    | true=>
     go_wp2_with fail;refine (Zcv _ L _ (HV.o.below HB1.o)).mono ?_;rintro e wy ⟨rfl,hby⟩;have HBy:Hd (Zw_ w wy):=HB1.o.trans (hby.mono HB1.o.size);clear hby
     go_wp2;go_ret;exact⟨Zaa (by rw [<- HQ.o,HDF.o,hnm,hbr,Zsv,hi];simp),HBy.o⟩
    | false=>
     go_wp2;go_ret;exact⟨Zaa (by rw [<- HQ.o,HDF.o,hnm,hbr,Zsv,hi];simp),HB1.o⟩
   | false=>
    go_wp2_with fail;refine (Zbp _ _ _ _ _ _ _ _ _ _ L _ _ _ (HV.o.below HB1.o) HW9.o).mono ?_;rintro e w2 ⟨rfl,hb2⟩;have HC2:Hd (Below (w.heap.size+1) (w.alloc (.cells #[.string nm,.int .i64 2,.int .i64 le,.int .i64 mo,.slice a L.length cap,.string to,.int .i64 ro,.bool mu,.bool fx,.string df,.string we] 109)) w2):=HC1.o.trans (hb2.mono (by have:=HC1.o.size;simp at this;omega));have HB2:Hd (Zw_ w w2):=HB1.o.trans (hb2.mono HB1.o.size);have hbx2:=fun i=>ZaM w w2 #[.string nm,.int .i64 2,.int .i64 le,.int .i64 mo,.slice a L.length cap,.string to,.int .i64 ro,.bool mu,.bool fx,.string df,.string we] 109 HC2.o i
    clear hb2 hbx
    cases hft:ZaN 2 le mo L df with
    | false=>
     go_wp2;go_ret;exact⟨Zaa (by rw [<- HQ.o,hnm,hbr,hd,hft];simp),HB2.o⟩
    | true=>
     have HDF:Hd ((df.toList.isEmpty || ZaN 2 le mo L df)=true):=by unfold Hd;simp [hft]
     go_wp2_with fail;refine (Zap _ _ _ _).mono ?_;rintro e wx ⟨rfl,rfl⟩
     cases hi:inB 1 6 (L.length:Int) with
     | true=>
      go_wp2_with fail;refine (Zcv _ L _ (HV.o.below HB2.o)).mono ?_;rintro e wy ⟨rfl,hby⟩;have HBy:Hd (Zw_ w wy):=HB2.o.trans (hby.mono HB2.o.size);clear hby
      go_wp2;go_ret;exact⟨Zaa (by rw [<- HQ.o,HDF.o,hnm,hbr,Zsv,hi];simp),HBy.o⟩
     | false=>
      go_wp2;go_ret;exact⟨Zaa (by rw [<- HQ.o,HDF.o,hnm,hbr,Zsv,hi];simp),HB2.o⟩
theorem Zmy (lo:Nat) (lv:Value) (Ss:List Sh) (hl:Zba lo w lv Ss) (hv:Zae w (.slice a L.length cap) L) (s0:nm.size<=maxLen) (s9:df.size<=maxLen) (s10:we.size<=maxLen) :
 Calls prog 192 #[lv,.agg #[.string nm,.int .i64 3,.int .i64 le,.int .i64 mo,.slice a L.length cap,.string to,.int .i64 ro,.bool mu,.bool fx,.string df,.string we]] w fun e w'=>e=.returned (.bool (Zan nm&&(ZeI L.length to ro we&&ZcE le mo&&(df.toList.isEmpty || ZaN 3 le mo L df))))/\Zw_ w w':=by
 have HL:=Zab hl;have HV:=Zab hv;have HW0:=Zab s0;have HW9:=Zab s9;have HW4:=Zab s10;obtain⟨la,lcap,rfl⟩:=hl.form;clear hl hv s0 s9 s10;generalize hQ:(Zan nm&&(ZeI L.length to ro we&&ZcE le mo&&(df.toList.isEmpty || ZaN 3 le mo L df)))=Q;have HQ:=Zab hQ;clear hQ;have HW:∀ o,Hd (Zw_ w (w.alloc o)):=fun o=>Zb_.alloc Zl_ _
 go_enter func192,ntmps192;go_wp2_with fail;refine (Zad _ _ HW0.o).mono ?_;rintro e wx ⟨rfl,rfl⟩
 cases hnm:Zan nm with
 | false=>
  go_wp2;go_ret;exact⟨Zaa (by rw [<- HQ.o,hnm];rfl),(HW _).o⟩
 | true=>
  go_wp2_with fail;refine (Zq3 nm to df we le mo ro mu fx a L.length cap _).mono ?_;rintro e w1 ⟨rfl,hb1⟩;have HC1:Hd (Below (w.heap.size+1) (w.alloc (.cells #[.string nm,.int .i64 3,.int .i64 le,.int .i64 mo,.slice a L.length cap,.string to,.int .i64 ro,.bool mu,.bool fx,.string df,.string we] 109)) w1):=by have:=hb1;simp at this;exact this
  have HB1:Hd (Zw_ w w1):=(HW _).o.trans (hb1.mono (by simp));have hbx:=fun i=>ZaM w w1 #[.string nm,.int .i64 3,.int .i64 le,.int .i64 mo,.slice a L.length cap,.string to,.int .i64 ro,.bool mu,.bool fx,.string df,.string we] 109 HC1.o i
  clear hb1
  cases hbr:ZeI L.length to ro we with
  | false=>
   go_wp2;go_ret;exact⟨Zaa (by rw [<- HQ.o,hnm,hbr];rfl),HB1.o⟩
  | true=>
   cases hd:df.toList.isEmpty with
   | true=>
    have hdf:(df.toList.isEmpty || ZaN 3 le mo L df)=true:=by simp [hd]
    have HDF:=Zab hdf;clear hdf
    by_cases h1:1<=le
    . by_cases h2:le<=mo
      . go_wp2
        go_ret;exact⟨Zaa (by rw [<- HQ.o,HDF.o,hnm,hbr];simp [ZcE,h1,h2]),HB1.o⟩
      . go_wp2
        go_ret;exact⟨Zaa (by rw [<- HQ.o,HDF.o,hnm,hbr];rw [Bool.eq_iff_iff];simp [ZcE];omega),HB1.o⟩
    . go_wp2
      go_ret;exact⟨Zaa (by rw [<- HQ.o,HDF.o,hnm,hbr];rw [Bool.eq_iff_iff];simp [ZcE];omega),HB1.o⟩
   | false=>
    go_wp2_with fail;refine (Zbp _ _ _ _ _ _ _ _ _ _ L _ _ _ (HV.o.below HB1.o) HW9.o).mono ?_;rintro e w2 ⟨rfl,hb2⟩;have HC2:Hd (Below (w.heap.size+1) (w.alloc (.cells #[.string nm,.int .i64 3,.int .i64 le,.int .i64 mo,.slice a L.length cap,.string to,.int .i64 ro,.bool mu,.bool fx,.string df,.string we] 109)) w2):=HC1.o.trans (hb2.mono (by have:=HC1.o.size;simp at this;omega));have HB2:Hd (Zw_ w w2):=HB1.o.trans (hb2.mono HB1.o.size);have hbx2:=fun i=>ZaM w w2 #[.string nm,.int .i64 3,.int .i64 le,.int .i64 mo,.slice a L.length cap,.string to,.int .i64 ro,.bool mu,.bool fx,.string df,.string we] 109 HC2.o i
    clear hb2 hbx
    cases hft:ZaN 3 le mo L df with
    | false=>
     go_wp2;go_ret;exact⟨Zaa (by rw [<- HQ.o,hnm,hbr,hd,hft];simp),HB2.o⟩
    | true=>
     have HDF:Hd ((df.toList.isEmpty || ZaN 3 le mo L df)=true):=by unfold Hd;simp [hft]
     by_cases h1:1<=le
     . by_cases h2:le<=mo
       . go_wp2
         go_ret;exact⟨Zaa (by rw [<- HQ.o,HDF.o,hnm,hbr];simp [ZcE,h1,h2]),HB2.o⟩
       . go_wp2
         go_ret;exact⟨Zaa (by rw [<- HQ.o,HDF.o,hnm,hbr];rw [Bool.eq_iff_iff];simp [ZcE];omega),HB2.o⟩
     . go_wp2
       go_ret;exact⟨Zaa (by rw [<- HQ.o,HDF.o,hnm,hbr];rw [Bool.eq_iff_iff];simp [ZcE];omega),HB2.o⟩
theorem Zmz (lo:Nat) (lv:Value) (Ss:List Sh) (hl:Zba lo w lv Ss) (hv:Zae w (.slice a L.length cap) L) (s0:nm.size<=maxLen) (s9:df.size<=maxLen) (s10:we.size<=maxLen) :
 Calls prog 192 #[lv,.agg #[.string nm,.int .i64 4,.int .i64 le,.int .i64 mo,.slice a L.length cap,.string to,.int .i64 ro,.bool mu,.bool fx,.string df,.string we]] w fun e w'=>e=.returned (.bool (Zan nm&&(ZeJ le mo L.length we&&Zc2 Ss to ro mu df&&(df.toList.isEmpty || ZaN 4 le mo L df))))/\Zw_ w w':=by
 have HL:=Zab hl;have HV:=Zab hv;have HW0:=Zab s0;have HW9:=Zab s9;have HW4:=Zab s10;obtain⟨la,lcap,rfl⟩:=hl.form;clear hl hv s0 s9 s10;generalize hQ:(Zan nm&&(ZeJ le mo L.length we&&Zc2 Ss to ro mu df&&(df.toList.isEmpty || ZaN 4 le mo L df)))=Q;have HQ:=Zab hQ;clear hQ;have HW:∀ o,Hd (Zw_ w (w.alloc o)):=fun o=>Zb_.alloc Zl_ _
 go_enter func192,ntmps192;go_wp2_with fail;refine (Zad _ _ HW0.o).mono ?_;rintro e wx ⟨rfl,rfl⟩
 cases hnm:Zan nm with
 | false=>
  go_wp2;go_ret;exact⟨Zaa (by rw [<- HQ.o,hnm];rfl),(HW _).o⟩
 | true=>
  go_wp2_with fail;refine (Zq4 nm to df we le mo ro mu fx a L.length cap _).mono ?_;rintro e w1 ⟨rfl,hb1⟩;have HC1:Hd (Below (w.heap.size+1) (w.alloc (.cells #[.string nm,.int .i64 4,.int .i64 le,.int .i64 mo,.slice a L.length cap,.string to,.int .i64 ro,.bool mu,.bool fx,.string df,.string we] 109)) w1):=by have:=hb1;simp at this;exact this
  have HB1:Hd (Zw_ w w1):=(HW _).o.trans (hb1.mono (by simp));have hbx:=fun i=>ZaM w w1 #[.string nm,.int .i64 4,.int .i64 le,.int .i64 mo,.slice a L.length cap,.string to,.int .i64 ro,.bool mu,.bool fx,.string df,.string we] 109 HC1.o i
  clear hb1
  cases hbr:ZeJ le mo L.length we with
  | false=>
   go_wp2;go_ret;exact⟨Zaa (by rw [<- HQ.o,hnm,hbr];rfl),HB1.o⟩
  | true=>
   cases hd:df.toList.isEmpty with
   | true=>
    have hdf:(df.toList.isEmpty || ZaN 4 le mo L df)=true:=by simp [hd]
    have HDF:=Zab hdf;clear hdf;go_wp2_with fail;refine (ZgF lo _ Ss _ _ (HL.o.below HB1.o)).mono ?_;rintro e wx ⟨rr,rfl,rfl,hrr⟩;have HR:=Zab hrr;clear hrr
    by_cases hr0:0<=rr
    . have HK:Hd (Zk8 Ss to=true):=by unfold Hd;rw [<- HR.o];simpa using hr0
      go_wp2_with fail;refine (Zap _ _ _ _).mono ?_;rintro e wx ⟨rfl,rfl⟩
      cases hi:inB 1 3 ro with
      | false=>
       go_wp2;go_ret;exact⟨Zaa (by rw [<- HQ.o,HDF.o,hnm,hbr,Zrt,hi];simp),HB1.o⟩
      | true=>
       cases h2:(ro != 2) with
       | true=>
        go_wp2;go_ret;exact⟨Zaa (by rw [<- HQ.o,HDF.o,hnm,hbr,Zrt,HK.o,hi,hd,h2];simp),HB1.o⟩
       | false=>
        go_wp2;go_ret;exact⟨Zaa (by rw [<- HQ.o,HDF.o,hnm,hbr,Zrt,HK.o,hi,hd,h2];simp),HB1.o⟩
    . have HK:Hd (Zk8 Ss to=false):=by unfold Hd;rw [<- HR.o];simpa using hr0
      go_wp2;go_ret;exact⟨Zaa (by rw [<- HQ.o,HDF.o,hnm,hbr,Zrt,HK.o];simp),HB1.o⟩
   | false=>
    go_wp2_with fail;refine (Zbp _ _ _ _ _ _ _ _ _ _ L _ _ _ (HV.o.below HB1.o) HW9.o).mono ?_;rintro e w2 ⟨rfl,hb2⟩;have HC2:Hd (Below (w.heap.size+1) (w.alloc (.cells #[.string nm,.int .i64 4,.int .i64 le,.int .i64 mo,.slice a L.length cap,.string to,.int .i64 ro,.bool mu,.bool fx,.string df,.string we] 109)) w2):=HC1.o.trans (hb2.mono (by have:=HC1.o.size;simp at this;omega));have HB2:Hd (Zw_ w w2):=HB1.o.trans (hb2.mono HB1.o.size);have hbx2:=fun i=>ZaM w w2 #[.string nm,.int .i64 4,.int .i64 le,.int .i64 mo,.slice a L.length cap,.string to,.int .i64 ro,.bool mu,.bool fx,.string df,.string we] 109 HC2.o i
    clear hb2 hbx
    cases hft:ZaN 4 le mo L df with
    | false=>
     go_wp2;go_ret;exact⟨Zaa (by rw [<- HQ.o,hnm,hbr,hd,hft];simp),HB2.o⟩
    | true=>
     have HDF:Hd ((df.toList.isEmpty || ZaN 4 le mo L df)=true):=by unfold Hd;simp [hft]
     go_wp2_with fail;refine (ZgF lo _ Ss _ _ (HL.o.below HB2.o)).mono ?_;rintro e wx ⟨rr,rfl,rfl,hrr⟩;have HR:=Zab hrr;clear hrr
     by_cases hr0:0<=rr
     . have HK:Hd (Zk8 Ss to=true):=by unfold Hd;rw [<- HR.o];simpa using hr0
       go_wp2_with fail;refine (Zap _ _ _ _).mono ?_;rintro e wx ⟨rfl,rfl⟩
       cases hi:inB 1 3 ro with
       | false=>
        go_wp2;go_ret;exact⟨Zaa (by rw [<- HQ.o,HDF.o,hnm,hbr,Zrt,hi];simp),HB2.o⟩
       | true=>
        go_wp2;go_ret;exact⟨Zaa (by rw [<- HQ.o,HDF.o,hnm,hbr,Zrt,hd];simp),HB2.o⟩
     . have HK:Hd (Zk8 Ss to=false):=by unfold Hd;rw [<- HR.o];simpa using hr0
       go_wp2;go_ret;exact⟨Zaa (by rw [<- HQ.o,HDF.o,hnm,hbr,Zrt,HK.o];simp),HB2.o⟩
end
end
variable {Fs:List Fd} {k j:Nat} {Ss:List Sh}
section
variable (nm to df we:Zy_) (le mo ro:Int) (mu fx:Bool) (a:Option Addr) (L:List Zy_) (cap:Nat) (w:World)
theorem Zmv (kd:Int) (lo:Nat) (lv:Value) (Ss:List Sh) (hl:Zba lo w lv Ss) (hv:Zae w (.slice a L.length cap) L) (s0:nm.size<=maxLen) (s9:df.size<=maxLen) (h1:kd≠1) (h2:kd≠2) (h3:kd≠3) (h4:kd≠4) :
 Calls prog 192 #[lv,.agg #[.string nm,.int .i64 kd,.int .i64 le,.int .i64 mo,.slice a L.length cap,.string to,.int .i64 ro,.bool mu,.bool fx,.string df,.string we]] w fun e w'=>e=.returned (.bool false)/\Zw_ w w':=by
 have HV:=Zab hv;have HW0:=Zab s0;have HW9:=Zab s9;obtain⟨la,lcap,rfl⟩:=hl.form;clear hl hv s0 s9;have HW:∀ o,Hd (Zw_ w (w.alloc o)):=fun o=>Zb_.alloc Zl_ _
 have HF:Hd (ZaN kd le mo L df=false):=Zqr h1 h2 h3 h4;have HBR:=Zab (fun u=>Zq0 nm to df we le mo ro mu fx a L.length cap u kd h1 h2 h3 h4);have b1:(kd == 1)=false:=beq_eq_false_iff_ne.2 h1;have b2:(kd == 2)=false:=beq_eq_false_iff_ne.2 h2;have b3:(kd == 3)=false:=beq_eq_false_iff_ne.2 h3;have b4:(kd == 4)=false:=beq_eq_false_iff_ne.2 h4;clear h1 h2 h3 h4;go_enter func192,ntmps192;go_wp2_with fail;refine (Zad _ _ HW0.o).mono ?_;rintro e wx ⟨rfl,rfl⟩
 cases hnm:Zan nm with
 | false=>
  go_wp2;go_ret;exact⟨rfl,(HW _).o⟩
 | true=>
  go_wp2_with fail;refine (HBR.o _).mono ?_;rintro e w1 ⟨bb,rfl,hb1⟩;have HC1:Hd (Below (w.heap.size+1) (w.alloc (.cells #[.string nm,.int .i64 kd,.int .i64 le,.int .i64 mo,.slice a L.length cap,.string to,.int .i64 ro,.bool mu,.bool fx,.string df,.string we] 109)) w1):=by have:=hb1;simp at this;exact this
  have HB1:Hd (Zw_ w w1):=(HW _).o.trans (hb1.mono (by simp));have hbx:=fun i=>ZaM w w1 #[.string nm,.int .i64 kd,.int .i64 le,.int .i64 mo,.slice a L.length cap,.string to,.int .i64 ro,.bool mu,.bool fx,.string df,.string we] 109 HC1.o i
  clear hb1
  cases bb with
  | false=>
   go_wp2;go_ret;exact⟨rfl,HB1.o⟩
  | true=>
   cases hd:df.toList.isEmpty with
   | true=>
    go_wp2;go_ret;exact⟨rfl,HB1.o⟩
   | false=>
    go_wp2_with fail;refine (Zbp _ _ _ _ _ _ _ _ _ _ L _ _ _ (HV.o.below HB1.o) HW9.o).mono ?_;rintro e w2 ⟨rfl,hb2⟩;have HB2:Hd (Zw_ w w2):=HB1.o.trans (hb2.mono HB1.o.size);clear hb2 hbx;rw [HF.o];go_wp2;go_ret;exact⟨rfl,HB2.o⟩
end
def ZdI (Ss:List Sh) (f:Fd):Bool:=
 if f.kd=1 then ZeZ f.words.length f.to f.ro&&Zb0 f.le f.mo f.we&&(f.df.toList.isEmpty || ZaN 1 f.le f.mo f.words f.df)
 else if f.kd=2 then Zer f.le f.mo f.to f.ro f.we&&ZdP f.words.length f.words&&(f.df.toList.isEmpty || ZaN 2 f.le f.mo f.words f.df)
 else if f.kd=3 then ZeI f.words.length f.to f.ro f.we&&ZcE f.le f.mo&&(f.df.toList.isEmpty || ZaN 3 f.le f.mo f.words f.df)
 else if f.kd=4 then ZeJ f.le f.mo f.words.length f.we&&Zc2 Ss f.to f.ro f.mu f.df&&(f.df.toList.isEmpty || ZaN 4 f.le f.mo f.words f.df)
 else false
theorem Zae.form_len {w:World}{v:Value}{L:List Zy_} (h:Zae w v L):∃ a cap,v=.slice a L.length cap:=by
 rcases h with ⟨a,cap,h,rfl⟩ | ⟨b,off,cap,h,_⟩
 . exact⟨a,cap,h⟩
 . exact⟨_,cap,h⟩
theorem Zfe (lo:Nat) (lv:Value) (Ss:List Sh) (f:Fd) (wv:Value) (w:World) (hl:Zba lo w lv Ss) (hv:Zae w wv f.words) (hz:Zew f) :
 Calls prog 192 #[lv,.agg #[.string f.nm,.int .i64 f.kd,.int .i64 f.le,.int .i64 f.mo,wv,.string f.to,.int .i64 f.ro,.bool f.mu,.bool f.fx,.string f.df,.string f.we]] w
  fun e w'=>e=.returned (.bool (Zan f.nm&&ZdI Ss f))/\Zw_ w w':=by
 obtain⟨nm,kd,le,mo,words,to,ro,mu,fx,df,we⟩:=f;obtain⟨a,cap,rfl⟩:=hv.form_len;obtain⟨s0,s5,s9,s10⟩:=hz;simp only [ZdI] at*
 by_cases h1:kd=1
 . subst h1;rw [if_pos rfl];exact Zmw nm to df we le mo ro mu fx a words cap w lo lv Ss hl hv s0 s9 s10
 rw [if_neg h1]
 by_cases h2:kd=2
 . subst h2;rw [if_pos rfl];exact Zmx nm to df we le mo ro mu fx a words cap w lo lv Ss hl hv s0 s9 s10
 rw [if_neg h2]
 by_cases h3:kd=3
 . subst h3;rw [if_pos rfl];exact Zmy nm to df we le mo ro mu fx a words cap w lo lv Ss hl hv s0 s9 s10
 rw [if_neg h3]
 by_cases h4:kd=4
 . subst h4;rw [if_pos rfl];exact Zmz nm to df we le mo ro mu fx a words cap w lo lv Ss hl hv s0 s9 s10
 rw [if_neg h4,Bool.and_false];exact Zmv nm to df we le mo ro mu fx a words cap w kd lo lv Ss hl hv s0 s9 h1 h2 h3 h4
def ZlI (Fs:List Fd) (s:Zy_):Bool:=Fs.any fun x=>x.nm.toList == s.toList
theorem Zf5 {s:Zy_} (hj:j < Fs.length) (hk:j < k) (h:(Fs[j].nm.toList == s.toList)=true):ZlI (Fs.take k) s=true:=by
 unfold ZlI;rw [List.any_eq_true];exact⟨Fs[j],List.mem_take_iff_getElem.2 ⟨j,by omega,rfl⟩,h⟩
theorem Zie {s:Zy_} (h:∀ j (hj:j < Fs.length),j < k->(Fs[j].nm.toList == s.toList)=false):ZlI (Fs.take k) s=false:=by
 unfold ZlI;rw [List.any_eq_false];intro x hx;obtain⟨j,hj,rfl⟩:=List.mem_take_iff_getElem.1 hx;simp [h j (by omega) (by omega)]
def Zbw (Ss:List Sh) (Fs:List Fd) (k:Nat):Bool:=
 match Fs[k]? with
 | some f=>Zan f.nm&&ZdI Ss f&&!ZlI (Fs.take k) f.nm
 | none=>true
def ZaE (Ss:List Sh) (Fs:List Fd):Bool:=decide (Fs.length<=6)&&(List.range Fs.length).all (Zbw Ss Fs)
theorem ZaK (h:k < Fs.length):Zbw Ss Fs k=(Zan Fs[k].nm&&ZdI Ss Fs[k]&&!ZlI (Fs.take k) Fs[k].nm):=by
 unfold Zbw;rw [List.getElem?_eq_getElem h]
def Za8 (Ss:List Sh) (i:Nat):Bool:=
 match Ss[i]? with
 | some x=>Zan x.kind&&(match Ss[i - 1]? with | some y=>i == 0 || Op.bytesLess y.kind.toList x.kind.toList | none=>true)&&ZaE Ss x.fields
 | none=>true
def ZaJ (Ss:List Sh):Bool:=decide (Ss.length<=6)&&(List.range Ss.length).all (Za8 Ss)
theorem Zcy (h:0 < Ss.length):Za8 Ss 0=(Zan Ss[0].kind&&ZaE Ss Ss[0].fields):=by
 unfold Za8;rw [List.getElem?_eq_getElem h];simp
theorem ZbD (h:j+1 < Ss.length):Za8 Ss (j+1)=(Zan Ss[j+1].kind&&Op.bytesLess Ss[j].kind.toList Ss[j+1].kind.toList&&ZaE Ss Ss[j+1].fields):=by
 unfold Za8;rw [List.getElem?_eq_getElem h];simp [List.getElem?_eq_getElem (show j < Ss.length by omega)]
end Go.Proofs.YtbdhbihhgfpnnaaGreat
