import Derived.Test.YtdeammfdkaomlaaGreatM42
import Derived.Test.YtdeammfdkaomlaaGreatM46
import Derived.Test.YtdeammfdkaomlaaGreatM48
import Derived.Test.YtdeammfdkaomlaaGreatM50
set_option maxHeartbeats 16000000
set_option maxRecDepth 100000
open Go.Proofs.Tryz
namespace Go.Proofs.YtdeammfdkaomlaaGreat
open Go.RowKit Go.Deep
variable {w:World} {L:List MX} {U:Rr}
structure InE (E:Nat->Prop) (w:World) (L:List MX) (c:Nat->Nat×Nat):Prop where
 seg:∀ i,i < L.length->(c i).1<=(c i).2/\∀ k,(c i).1<=k->k < (c i).2->E k
 one:∀ i,i < L.length->(c i).2<=(c i).1+1
 ap:∀ i j,i < L.length->j < L.length->i≠j->(c i).2<=(c j).1\/(c j).2<=(c i).1
 inn:∀ i (h:i < L.length),PM L[i] w (c i).1 (c i).2
theorem InE.kept {E K:Nat->Prop}{w':World}{c:Nat->Nat×Nat} (h:InE E w L c) (hk:Zag K w w') (he:∀ k,E k->K k):InE E w' L c:=
 ⟨h.seg,h.one,h.ap,fun i hi=>Zdn.kp (h.inn i hi) hk fun k a b=>he k ((h.seg i hi).2 k a b)⟩
theorem InE.app {E:Nat->Prop}{c:Nat->Nat×Nat} (h:InE E w L c) (M:List Rm) (hM:∀ x ∈ M,x.sl=[]):InE E w (L ++ M.map mx0) (fun i=>if i < L.length then c i else (0,0)):=by
 refine⟨fun i hi=>?_,fun i hi=>?_,fun i j hi hj hne=>?_,fun i hi=>?_⟩
 . split
   . rename_i e;exact h.seg i e
   . exact⟨Nat.le_refl _,fun k _ b=>absurd b (Nat.not_lt_zero _)⟩
 . split
   . rename_i e;exact h.one i e
   . omega
 . split
   . rename_i e
     split
     . rename_i e';exact h.ap i j e e' hne
     . right;exact Nat.zero_le _
   . left;exact Nat.zero_le _
 . split
   . rename_i e
     rw [List.getElem_append_left e];exact h.inn i e
   . rename_i e
     rw [List.getElem_append_right (by omega),List.getElem_map];exact Or.inl ⟨by have:=hM _ (List.getElem_mem (by simpa using (show i - L.length < (M.map mx0).length by rw [List.length_append] at hi;omega)));simp only [mx0,this];rfl,hM _ (List.getElem_mem _)⟩
structure Tik (K:Nat->Prop) (lo:Nat) (w wr:World) (γ ρ τ:Nat) (E:Nat->Prop) (l u:Nat) (v:Value) (L:List MX) (U:Rr):Prop where
 tb:Box wr τ (tkC γ ρ v)
 wk:Wk (fun k=>(K k\/E k)\/(l<=k/\k < u)) lo wr γ ρ U
 row:Zay mxL 8 wr l u v L
 uw:u<=wr.heap.size
 inn:∃ c,InE E wr L c
 eu:∀ k,E k->¬ (l<=k/\k < u)/\k≠τ
 kr:K ρ
 rt:ρ≠τ
 kl:∀ k,K k->¬ (l<=k/\k < u)
 lb:lo<=l
 el:∀ k,E k->lo<=k
 kp:Zag (fun k=>K k/\k≠τ) w wr
theorem Tik.step {K:Nat->Prop}{lo:Nat}{wr w2:World}{γ ρ τ:Nat}{E:Nat->Prop}{l u:Nat}{v:Value}{V:Rr} (h:Tik K lo w wr γ ρ τ E l u v L U) (kt:K τ) (hk:Zag (fun k=>(K k\/E k)\/(l<=k/\k < u)) wr w2) (hw:Wk (fun k=>(K k\/E k)\/(l<=k/\k < u)) lo w2 γ ρ V):Tik K lo w w2 γ ρ τ E l u v L V:=by
 obtain⟨c,hc⟩:=h.inn;exact⟨h.tb.kept hk (Or.inl (Or.inl kt)),hw,h.row.kept hk (fun k a b=>Or.inr ⟨a,b⟩),Nat.le_trans h.uw hk.size,⟨c,hc.kept hk (fun k e=>Or.inl (Or.inr e))⟩,h.eu,h.kr,h.rt,h.kl,h.lb,h.el,h.kp.trans (hk.less fun k e=>Or.inl (Or.inl e.1))⟩
theorem ZeH {M:Rm} (h:M.sl=[]):∀ x ∈ Zax U M,x.sl=[]:=fun x hx=>by
 unfold Zax at hx;obtain⟨i,_,hi⟩:=List.mem_filterMap.1 hx
 split at hi
 . cases hi
 . injection hi with hi;rw [<- hi];exact h
theorem ZgU (U:Rr):∀ x ∈ Zcj U,x.sl=[]:=fun x hx=>by
 unfold Zcj at hx
 rcases List.mem_append.1 hx with hx | hx
 . exact ZeH rfl x hx
 . unfold Zb6 at hx
   obtain⟨i,_,hi⟩:=List.mem_flatMap.1 hx;exact ZeH rfl x hi
theorem Zhh (K:Nat->Prop) (lo:Nat) (w wr:World) (γ ρ τ:Nat) (E:Nat->Prop) (l u:Nat) (v:Value) (L:List MX) (U:Rr) (h:Tik K lo w wr γ ρ τ E l u v L U) (kt:K τ) (hv:Tv U) (hL:L.length<=1000) :
 Calls prog 183 #[.pointer (some ⟨τ,0,none⟩)] wr fun e w'=>e=.returned (.tuple #[])/\∃ l' u' v',Tik K lo w w' γ ρ τ E l' u' v' (L ++ (if U.ld=true then Zcj (leadT U) else []).map mx0) (if U.ld=true then leadT U else U):=by
 have H:=Zaa h;have HV:=Zaa hv;have xt0:wr.cell? ⟨τ,0,none⟩=some (.pointer (some ⟨γ,0,none⟩)):=h.tb.cell 0;have x11:wr.cell? ⟨γ,11,none⟩=some (.bool U.ld):=by obtain⟨b,m,S,hR⟩:=h.wk.wz;exact hR.box.cell 11
 clear h hv
 cases hl:U.ld with
 | false=>
  rw [hl] at x11;go_enter func183,ntmps183;go_wp2
  go_end0
  refine⟨rfl,l,u,v,?_⟩
  simpa using H.o
 | true=>
  rw [hl] at x11;have HLD:=Zaa hl;go_enter func183,ntmps183;go_wp2_with fail;clear xt0 x11 hl;obtain⟨V,hV⟩:∃ V,V=ZbW U U.sf.sl.length:=⟨_,rfl⟩
  have hkeep:=ZbK (HV.o.ak.up (d:=800) (by decide)) U.sf.sl.length (by have:=HV.o.sf;omega);rw [<- hV] at hkeep;obtain⟨okV,kn,AC,hVE⟩:=hkeep;refine (ZiT _ lo wr γ ρ τ U v H.o.wk H.o.tb (Or.inl (Or.inl kt)) (HV.o.ak.up (by decide)) (by have:=HV.o.dk;omega) (by have:=HV.o.sf;omega)).mono ?_;rintro e w1 ⟨rfl,hk1,hw1⟩;rw [<- hV] at hw1;have H1:=Zaa (H.o.step kt hk1 hw1);have HVd:Hd (V.dk.sl=U.dk.sl/\V.wi=U.wi/\V.ba=U.ba/\V.of=U.of/\V.nu=U.nu):=by unfold Hd;rw [hVE];exact⟨rfl,rfl,rfl,rfl,rfl⟩
  have HOK:=Zaa okV;have HVV:=Zaa hV;clear hk1 hw1 H hV hVE okV;go_wp2_with fail;refine (ZgZ _ lo w1 γ ρ τ V v H1.o.wk H1.o.tb (Or.inl (Or.inl kt)) (by rw [HVd.o.1];exact HV.o.slots) (by rw [HVd.o.2.1];exact HV.o.z.z3) (by rw [HVd.o.1];exact HV.o.dk) (by rw [HVd.o.2.1];have:=HV.o.wi;omega) (by rw [HVd.o.1];exact HV.o.q) (by rw [HVd.o.2.2.1];exact HV.o.ba (Or.inl HLD.o)) (by rw [HVd.o.2.1];exact HV.o.wne)).mono ?_;rintro e w2 ⟨rfl,hk2,hw2⟩;obtain⟨X,hX⟩:∃ X,X=ZeQ V V.wi.length:=⟨_,rfl⟩
  rw [<- hX] at hw2;obtain⟨T,hXE,hT,-⟩:=Zcb (U:=V) (by rw [HVd.o.1];exact HV.o.dk) V.wi.length Zl_;rw [<- hX] at hXE;have H2:=Zaa (H1.o.step kt hk2 hw2);have HXd:Hd (X.dk.sl.length<=120/\X.dk.kn=V.dk.kn/\X.of=U.of):=by unfold Hd;rw [hXE];exact⟨hT,rfl,HVd.o.2.2.2.1⟩
  have HXX:Hd (X=leadT U):=by unfold Hd leadT;rw [hX,HVV.o]
  clear hk2 hw2 H1 hX hXE hT;go_wp2_with fail;obtain⟨b,m,S,hR⟩:=H2.o.wk.wz;have hk0:=HOK.o.k0;have hk1:=HOK.o.k1;refine (ZiU (fun k=>K k\/E k) lo w2 γ ρ τ l u b m S X v L X.dk.kn.toNat hR H2.o.tb (Or.inl kt) H2.o.row H2.o.uw (by have:=H2.o.kl τ kt;omega) (by rw [HXd.o.2.2];have:=HV.o.of1;omega) (by rw [HXd.o.2.2];exact HV.o.of5) (by have:=HXd.o.2.1;omega) (by have:=HXd.o.2.1;omega) (by have:=HXd.o.1;omega) (by omega)).mono ?_;rintro e w3 ⟨rfl,v',l',u',ht⟩;have HT:=Zaa ht;clear ht hR;go_wp2
  go_end0
  refine⟨rfl,l',u',v',?_⟩;rw [<- HXX.o];obtain⟨c,hc⟩:=H2.o.inn;have hpr:=H2.o.wk.wz;obtain⟨b',m',S',hR'⟩:=hpr;have hek:∀ k,E k->k < w2.heap.size/\k≠τ/\¬ (l<=k/\k < u):=fun k hk=>⟨(hR'.prot k (Or.inl (Or.inr hk))).1,(H2.o.eu k hk).2,(H2.o.eu k hk).1⟩
  have hτw:=(hR'.prot τ (Or.inl (Or.inl kt))).1;have hlu:=HT.o.lu;have hks:∀ k,K k->k < w2.heap.size:=fun k hk=>(hR'.prot k (Or.inl (Or.inl hk))).1
  have hρl:=H2.o.kl ρ H2.o.kr;have hρs:=hks ρ H2.o.kr;have hρτ:=H2.o.rt;refine⟨HT.o.tb,⟨⟨b,m,S,HT.o.rz⟩,Or.inl (Or.inl H2.o.kr),H2.o.wk.rb.kept HT.o.kp ⟨hρs,hρτ,hρl⟩⟩,HT.o.row,HT.o.uw,⟨_,(hc.kept HT.o.kp hek).app _ (ZgU X)⟩,fun k hk=>⟨?_,(hek k hk).2.1⟩,H2.o.kr,hρτ,fun k hk=>?_,?_,H2.o.el,H2.o.kp.trans (HT.o.kp.less fun k hk=>⟨hks k hk.1,hk.2,H2.o.kl k hk.1⟩)⟩
  . have:=hek k hk
    rcases hlu with ⟨rfl,rfl⟩ | q
    . exact this.2.2
    . omega
  . have h1:=hks k hk
    have h2:=H2.o.kl k hk
    rcases hlu with ⟨rfl,rfl⟩ | q
    . exact h2
    . omega
  . have h1:=H2.o.lb
    have h2:=hR'.low
    omega
end Go.Proofs.YtdeammfdkaomlaaGreat
