import Derived.Test.YtmappejlmapboaaGreatD39
open Go.Proofs.Tryz
namespace Go.Proofs.YtmappejlmapboaaGreat
open Go.RowKit Go.Deep Go.Shelf Go.Maps
variable {w W0 W:World} {mb:Nat}
theorem Zm5 {b off i:Nat}{x:Ob}{vv0 vv1:Value} (h:Zci w b (off+i*7) x vv0 vv1) (hbw:b < w.heap.size) (h0:Zw_ w W0) (hg:W0.grownBy W (some mb)) (hm:w.heap.size<=mb):Zci W b (off+i*7) x vv0 vv1:=by
 have e:W.heap[b]?=w.heap[b]?:=(hg.block b (by have:=h0.size;omega) (fun e=>by injection e with e;omega)).trans (h0.block b hbw);have c:∀ o,W.cell? ⟨b,o,none⟩=w.cell? ⟨b,o,none⟩:=fun o=>World.cell?_of_block (a:=⟨b,o,none⟩) e
 exact⟨by rw [c];exact h.c0,by rw [c];exact h.c1,by rw [c];exact h.c2,by rw [c];exact h.c3,by rw [c];exact h.c4,by rw [c];exact h.c5,by rw [c];exact h.c6⟩
theorem ZdG (h0:Zw_ w W0) (hg:W0.grownBy W (some mb)) (hm:w.heap.size<=mb):Zw_ w W:=
 h0.trans ⟨hg.os,hg.tape,hg.output,hg.size,fun k hk=>hg.block k (by have:=h0.size;omega) (fun e=>by injection e with e;omega)⟩
theorem ZaN {W':World} (hb:Below W.heap.size W W') (row:Option Nat):W.grownBy W' row:=⟨hb.os,hb.tape,hb.output,hb.size,fun k hk _=>hb.block k hk⟩
end Go.Proofs.YtmappejlmapboaaGreat
