import Derived.Test.YtijgopkhdjaolabGreatXHr4
import Derived.Test.YtijgopkhdjaolabGreatXHrrMs
import Derived.Test.YtijgopkhdjaolabGreatXHrrRg
import Derived.Test.YtijgopkhdjaolabGreatHr7
import Derived.Test.YtijgopkhdjaolabGreatXHy5
import Derived.Test.YtijgopkhdjaolabGreatHr9
import Derived.Test.YtijgopkhdjaolabGreatXHrrTk
import Derived.Deep.RegionHeldLaw
set_option linter.unusedSimpArgs false
set_option linter.unusedVariables false
set_option maxHeartbeats 16000000
set_option maxRecDepth 100000
namespace Go.Proofs.YtijgopkhdjaolabGreat
open Go.RowKit Go.Shelf Go.Sort
open Go.Proofs.YtijgopkhdjaolabGreat.Ob (leB leV qa8 qag crc Rd RdAll qa7 Rdr)
theorem qrw {w:World} {g off n c:Nat} {bs:List UInt8} (h:Rd w (some ⟨g,off,none⟩) n c bs) (hn:30≤n):Rd w (some ⟨g,off+8,none⟩) (n - 10) (c - 8) ((bs.drop 8).take (n - 10)):=by
 have h1:=h.hlen;have h2:=h.hle;have h3:=h.hsmall;refine ⟨by simp;omega,by omega,by omega,(fun e=>by cases e),fun _=>?_⟩;obtain ⟨b,o,e,hb,hc⟩:=h.hcell (by omega);simp only [Option.some.injEq,Addr.mk.injEq,and_true] at e;obtain ⟨rfl,rfl⟩:=e;refine ⟨g,off+8,rfl,hb,fun i x hx=>?_⟩;have hi:i < n - 10:=by
  have:=(List.getElem?_eq_some_iff.1 hx).1;simp at this;omega
 rw [List.getElem?_take_of_lt hi,List.getElem?_drop] at hx;rw [Nat.add_assoc];exact hc _ x hx
def RT (w:World) (m:Except Nat (Tb×List UInt8)) (e:Ending) (w':World):Prop:=match m with
 | .error c=>e=gup c∧qB w w'
 | .ok (tb,[])=>∃v lo,w.heap.size≤lo∧e=.returned (.agg (tbC tb v))∧TbO w' lo tb v∧qB w w'
 | .ok (_,_ :: _)=>e=gup 101∧qB w w'
theorem qjn {fn:Func} {m:Nat} (hf:fn.results=#[.cell m 32]) (tmps:Array Value) (b:Nat) (w:World) (z0 z1 z2 z3 z4 z5 z6 z7 z8 z9 z10 z11 z12:Value) (h2:tmps[m]?=some (.pointer (some ⟨b,0,none⟩))) (hk:w.heap[b]?=some (.cells #[z0,z1,z2,z3,z4,z5,z6,z7,z8,z9,z10,z11,z12] 32 (0,0))):(results fn tmps).run Tryz.prog w=.ok (.agg #[z0,z1,z2,z3,z4,z5,z6,z7,z8,z9,z10,z11,z12]) w:=by
 have a1:=fun i=>cell_of_row w b i _ _ (0,0) hk
 have y0:=a1 0;have y1:=a1 1;have y2:=a1 2;have y3:=a1 3;have y4:=a1 4;have y5:=a1 5;have y6:=a1 6;have y7:=a1 7;have y8:=a1 8;have y9:=a1 9;have y10:=a1 10;have y11:=a1 11;have y12:=a1 12;simp at y0 y1 y2 y3 y4 y5 y6 y7 y8 y9 y10 y11 y12;simp [results,hf,go_sem,h2,y0,y1,y2,y3,y4,y5,y6,y7,y8,y9,y10,y11,y12]
theorem qeh {W:World} {Z T:Nat} {z0 z1 z2 z3 z4 z5 z6 z7 z8 z9 z10 z11 z12:Value} (v0 v1 v2 v3 v4 v5 v6 v7 v8 v9 v10 v11 v12:Value) (h0:W.heap[Z]?=some (.cells #[z0,z1,z2,z3,z4,z5,z6,z7,z8,z9,z10,z11,z12] T)):(W.heap[Z]?=some (.cells #[z0,z1,z2,z3,z4,z5,z6,z7,z8,z9,z10,z11,z12] T)∧W.cell? ⟨Z,0,none⟩=some z0∧W.frozen? ⟨Z,0,none⟩=false)∧((W.setCell ⟨Z,0,none⟩ v0).heap[Z]?=some (.cells #[v0,z1,z2,z3,z4,z5,z6,z7,z8,z9,z10,z11,z12] T)∧(W.setCell ⟨Z,0,none⟩ v0).cell? ⟨Z,1,none⟩=some z1∧(W.setCell ⟨Z,0,none⟩ v0).frozen? ⟨Z,1,none⟩=false)∧(((W.setCell ⟨Z,0,none⟩ v0).setCell ⟨Z,1,none⟩ v1).heap[Z]?=some (.cells #[v0,v1,z2,z3,z4,z5,z6,z7,z8,z9,z10,z11,z12] T)∧((W.setCell ⟨Z,0,none⟩ v0).setCell ⟨Z,1,none⟩ v1).cell? ⟨Z,2,none⟩=some z2∧((W.setCell ⟨Z,0,none⟩ v0).setCell ⟨Z,1,none⟩ v1).frozen? ⟨Z,2,none⟩=false)∧((((W.setCell ⟨Z,0,none⟩ v0).setCell ⟨Z,1,none⟩ v1).setCell ⟨Z,2,none⟩ v2).heap[Z]?=some (.cells #[v0,v1,v2,z3,z4,z5,z6,z7,z8,z9,z10,z11,z12] T)∧(((W.setCell ⟨Z,0,none⟩ v0).setCell ⟨Z,1,none⟩ v1).setCell ⟨Z,2,none⟩ v2).cell? ⟨Z,3,none⟩=some z3∧(((W.setCell ⟨Z,0,none⟩ v0).setCell ⟨Z,1,none⟩ v1).setCell ⟨Z,2,none⟩ v2).frozen? ⟨Z,3,none⟩=false)∧(((((W.setCell ⟨Z,0,none⟩ v0).setCell ⟨Z,1,none⟩ v1).setCell ⟨Z,2,none⟩ v2).setCell ⟨Z,3,none⟩ v3).heap[Z]?=some (.cells #[v0,v1,v2,v3,z4,z5,z6,z7,z8,z9,z10,z11,z12] T)∧((((W.setCell ⟨Z,0,none⟩ v0).setCell ⟨Z,1,none⟩ v1).setCell ⟨Z,2,none⟩ v2).setCell ⟨Z,3,none⟩ v3).cell? ⟨Z,4,none⟩=some z4∧((((W.setCell ⟨Z,0,none⟩ v0).setCell ⟨Z,1,none⟩ v1).setCell ⟨Z,2,none⟩ v2).setCell ⟨Z,3,none⟩ v3).frozen? ⟨Z,4,none⟩=false)∧((((((W.setCell ⟨Z,0,none⟩ v0).setCell ⟨Z,1,none⟩ v1).setCell ⟨Z,2,none⟩ v2).setCell ⟨Z,3,none⟩ v3).setCell ⟨Z,4,none⟩ v4).heap[Z]?=some (.cells #[v0,v1,v2,v3,v4,z5,z6,z7,z8,z9,z10,z11,z12] T)∧(((((W.setCell ⟨Z,0,none⟩ v0).setCell ⟨Z,1,none⟩ v1).setCell ⟨Z,2,none⟩ v2).setCell ⟨Z,3,none⟩ v3).setCell ⟨Z,4,none⟩ v4).cell? ⟨Z,5,none⟩=some z5∧(((((W.setCell ⟨Z,0,none⟩ v0).setCell ⟨Z,1,none⟩ v1).setCell ⟨Z,2,none⟩ v2).setCell ⟨Z,3,none⟩ v3).setCell ⟨Z,4,none⟩ v4).frozen? ⟨Z,5,none⟩=false)∧(((((((W.setCell ⟨Z,0,none⟩ v0).setCell ⟨Z,1,none⟩ v1).setCell ⟨Z,2,none⟩ v2).setCell ⟨Z,3,none⟩ v3).setCell ⟨Z,4,none⟩ v4).setCell ⟨Z,5,none⟩ v5).heap[Z]?=some (.cells #[v0,v1,v2,v3,v4,v5,z6,z7,z8,z9,z10,z11,z12] T)∧((((((W.setCell ⟨Z,0,none⟩ v0).setCell ⟨Z,1,none⟩ v1).setCell ⟨Z,2,none⟩ v2).setCell ⟨Z,3,none⟩ v3).setCell ⟨Z,4,none⟩ v4).setCell ⟨Z,5,none⟩ v5).cell? ⟨Z,6,none⟩=some z6∧((((((W.setCell ⟨Z,0,none⟩ v0).setCell ⟨Z,1,none⟩ v1).setCell ⟨Z,2,none⟩ v2).setCell ⟨Z,3,none⟩ v3).setCell ⟨Z,4,none⟩ v4).setCell ⟨Z,5,none⟩ v5).frozen? ⟨Z,6,none⟩=false)∧((((((((W.setCell ⟨Z,0,none⟩ v0).setCell ⟨Z,1,none⟩ v1).setCell ⟨Z,2,none⟩ v2).setCell ⟨Z,3,none⟩ v3).setCell ⟨Z,4,none⟩ v4).setCell ⟨Z,5,none⟩ v5).setCell ⟨Z,6,none⟩ v6).heap[Z]?=some (.cells #[v0,v1,v2,v3,v4,v5,v6,z7,z8,z9,z10,z11,z12] T)∧(((((((W.setCell ⟨Z,0,none⟩ v0).setCell ⟨Z,1,none⟩ v1).setCell ⟨Z,2,none⟩ v2).setCell ⟨Z,3,none⟩ v3).setCell ⟨Z,4,none⟩ v4).setCell ⟨Z,5,none⟩ v5).setCell ⟨Z,6,none⟩ v6).cell? ⟨Z,7,none⟩=some z7∧(((((((W.setCell ⟨Z,0,none⟩ v0).setCell ⟨Z,1,none⟩ v1).setCell ⟨Z,2,none⟩ v2).setCell ⟨Z,3,none⟩ v3).setCell ⟨Z,4,none⟩ v4).setCell ⟨Z,5,none⟩ v5).setCell ⟨Z,6,none⟩ v6).frozen? ⟨Z,7,none⟩=false)∧(((((((((W.setCell ⟨Z,0,none⟩ v0).setCell ⟨Z,1,none⟩ v1).setCell ⟨Z,2,none⟩ v2).setCell ⟨Z,3,none⟩ v3).setCell ⟨Z,4,none⟩ v4).setCell ⟨Z,5,none⟩ v5).setCell ⟨Z,6,none⟩ v6).setCell ⟨Z,7,none⟩ v7).heap[Z]?=some (.cells #[v0,v1,v2,v3,v4,v5,v6,v7,z8,z9,z10,z11,z12] T)∧((((((((W.setCell ⟨Z,0,none⟩ v0).setCell ⟨Z,1,none⟩ v1).setCell ⟨Z,2,none⟩ v2).setCell ⟨Z,3,none⟩ v3).setCell ⟨Z,4,none⟩ v4).setCell ⟨Z,5,none⟩ v5).setCell ⟨Z,6,none⟩ v6).setCell ⟨Z,7,none⟩ v7).cell? ⟨Z,8,none⟩=some z8∧((((((((W.setCell ⟨Z,0,none⟩ v0).setCell ⟨Z,1,none⟩ v1).setCell ⟨Z,2,none⟩ v2).setCell ⟨Z,3,none⟩ v3).setCell ⟨Z,4,none⟩ v4).setCell ⟨Z,5,none⟩ v5).setCell ⟨Z,6,none⟩ v6).setCell ⟨Z,7,none⟩ v7).frozen? ⟨Z,8,none⟩=false)∧((((((((((W.setCell ⟨Z,0,none⟩ v0).setCell ⟨Z,1,none⟩ v1).setCell ⟨Z,2,none⟩ v2).setCell ⟨Z,3,none⟩ v3).setCell ⟨Z,4,none⟩ v4).setCell ⟨Z,5,none⟩ v5).setCell ⟨Z,6,none⟩ v6).setCell ⟨Z,7,none⟩ v7).setCell ⟨Z,8,none⟩ v8).heap[Z]?=some (.cells #[v0,v1,v2,v3,v4,v5,v6,v7,v8,z9,z10,z11,z12] T)∧(((((((((W.setCell ⟨Z,0,none⟩ v0).setCell ⟨Z,1,none⟩ v1).setCell ⟨Z,2,none⟩ v2).setCell ⟨Z,3,none⟩ v3).setCell ⟨Z,4,none⟩ v4).setCell ⟨Z,5,none⟩ v5).setCell ⟨Z,6,none⟩ v6).setCell ⟨Z,7,none⟩ v7).setCell ⟨Z,8,none⟩ v8).cell? ⟨Z,9,none⟩=some z9∧(((((((((W.setCell ⟨Z,0,none⟩ v0).setCell ⟨Z,1,none⟩ v1).setCell ⟨Z,2,none⟩ v2).setCell ⟨Z,3,none⟩ v3).setCell ⟨Z,4,none⟩ v4).setCell ⟨Z,5,none⟩ v5).setCell ⟨Z,6,none⟩ v6).setCell ⟨Z,7,none⟩ v7).setCell ⟨Z,8,none⟩ v8).frozen? ⟨Z,9,none⟩=false)∧(((((((((((W.setCell ⟨Z,0,none⟩ v0).setCell ⟨Z,1,none⟩ v1).setCell ⟨Z,2,none⟩ v2).setCell ⟨Z,3,none⟩ v3).setCell ⟨Z,4,none⟩ v4).setCell ⟨Z,5,none⟩ v5).setCell ⟨Z,6,none⟩ v6).setCell ⟨Z,7,none⟩ v7).setCell ⟨Z,8,none⟩ v8).setCell ⟨Z,9,none⟩ v9).heap[Z]?=some (.cells #[v0,v1,v2,v3,v4,v5,v6,v7,v8,v9,z10,z11,z12] T)∧((((((((((W.setCell ⟨Z,0,none⟩ v0).setCell ⟨Z,1,none⟩ v1).setCell ⟨Z,2,none⟩ v2).setCell ⟨Z,3,none⟩ v3).setCell ⟨Z,4,none⟩ v4).setCell ⟨Z,5,none⟩ v5).setCell ⟨Z,6,none⟩ v6).setCell ⟨Z,7,none⟩ v7).setCell ⟨Z,8,none⟩ v8).setCell ⟨Z,9,none⟩ v9).cell? ⟨Z,10,none⟩=some z10∧((((((((((W.setCell ⟨Z,0,none⟩ v0).setCell ⟨Z,1,none⟩ v1).setCell ⟨Z,2,none⟩ v2).setCell ⟨Z,3,none⟩ v3).setCell ⟨Z,4,none⟩ v4).setCell ⟨Z,5,none⟩ v5).setCell ⟨Z,6,none⟩ v6).setCell ⟨Z,7,none⟩ v7).setCell ⟨Z,8,none⟩ v8).setCell ⟨Z,9,none⟩ v9).frozen? ⟨Z,10,none⟩=false)∧((((((((((((W.setCell ⟨Z,0,none⟩ v0).setCell ⟨Z,1,none⟩ v1).setCell ⟨Z,2,none⟩ v2).setCell ⟨Z,3,none⟩ v3).setCell ⟨Z,4,none⟩ v4).setCell ⟨Z,5,none⟩ v5).setCell ⟨Z,6,none⟩ v6).setCell ⟨Z,7,none⟩ v7).setCell ⟨Z,8,none⟩ v8).setCell ⟨Z,9,none⟩ v9).setCell ⟨Z,10,none⟩ v10).heap[Z]?=some (.cells #[v0,v1,v2,v3,v4,v5,v6,v7,v8,v9,v10,z11,z12] T)∧(((((((((((W.setCell ⟨Z,0,none⟩ v0).setCell ⟨Z,1,none⟩ v1).setCell ⟨Z,2,none⟩ v2).setCell ⟨Z,3,none⟩ v3).setCell ⟨Z,4,none⟩ v4).setCell ⟨Z,5,none⟩ v5).setCell ⟨Z,6,none⟩ v6).setCell ⟨Z,7,none⟩ v7).setCell ⟨Z,8,none⟩ v8).setCell ⟨Z,9,none⟩ v9).setCell ⟨Z,10,none⟩ v10).cell? ⟨Z,11,none⟩=some z11∧(((((((((((W.setCell ⟨Z,0,none⟩ v0).setCell ⟨Z,1,none⟩ v1).setCell ⟨Z,2,none⟩ v2).setCell ⟨Z,3,none⟩ v3).setCell ⟨Z,4,none⟩ v4).setCell ⟨Z,5,none⟩ v5).setCell ⟨Z,6,none⟩ v6).setCell ⟨Z,7,none⟩ v7).setCell ⟨Z,8,none⟩ v8).setCell ⟨Z,9,none⟩ v9).setCell ⟨Z,10,none⟩ v10).frozen? ⟨Z,11,none⟩=false)∧(((((((((((((W.setCell ⟨Z,0,none⟩ v0).setCell ⟨Z,1,none⟩ v1).setCell ⟨Z,2,none⟩ v2).setCell ⟨Z,3,none⟩ v3).setCell ⟨Z,4,none⟩ v4).setCell ⟨Z,5,none⟩ v5).setCell ⟨Z,6,none⟩ v6).setCell ⟨Z,7,none⟩ v7).setCell ⟨Z,8,none⟩ v8).setCell ⟨Z,9,none⟩ v9).setCell ⟨Z,10,none⟩ v10).setCell ⟨Z,11,none⟩ v11).heap[Z]?=some (.cells #[v0,v1,v2,v3,v4,v5,v6,v7,v8,v9,v10,v11,z12] T)∧((((((((((((W.setCell ⟨Z,0,none⟩ v0).setCell ⟨Z,1,none⟩ v1).setCell ⟨Z,2,none⟩ v2).setCell ⟨Z,3,none⟩ v3).setCell ⟨Z,4,none⟩ v4).setCell ⟨Z,5,none⟩ v5).setCell ⟨Z,6,none⟩ v6).setCell ⟨Z,7,none⟩ v7).setCell ⟨Z,8,none⟩ v8).setCell ⟨Z,9,none⟩ v9).setCell ⟨Z,10,none⟩ v10).setCell ⟨Z,11,none⟩ v11).cell? ⟨Z,12,none⟩=some z12∧((((((((((((W.setCell ⟨Z,0,none⟩ v0).setCell ⟨Z,1,none⟩ v1).setCell ⟨Z,2,none⟩ v2).setCell ⟨Z,3,none⟩ v3).setCell ⟨Z,4,none⟩ v4).setCell ⟨Z,5,none⟩ v5).setCell ⟨Z,6,none⟩ v6).setCell ⟨Z,7,none⟩ v7).setCell ⟨Z,8,none⟩ v8).setCell ⟨Z,9,none⟩ v9).setCell ⟨Z,10,none⟩ v10).setCell ⟨Z,11,none⟩ v11).frozen? ⟨Z,12,none⟩=false)∧(((((((((((((W.setCell ⟨Z,0,none⟩ v0).setCell ⟨Z,1,none⟩ v1).setCell ⟨Z,2,none⟩ v2).setCell ⟨Z,3,none⟩ v3).setCell ⟨Z,4,none⟩ v4).setCell ⟨Z,5,none⟩ v5).setCell ⟨Z,6,none⟩ v6).setCell ⟨Z,7,none⟩ v7).setCell ⟨Z,8,none⟩ v8).setCell ⟨Z,9,none⟩ v9).setCell ⟨Z,10,none⟩ v10).setCell ⟨Z,11,none⟩ v11).setCell ⟨Z,12,none⟩ v12).heap[Z]?=some (.cells #[v0,v1,v2,v3,v4,v5,v6,v7,v8,v9,v10,v11,v12] T):=by
 have c0:W.cell? ⟨Z,0,none⟩=some z0:=by rw [qcr h0];rfl
 have f0:W.frozen? ⟨Z,0,none⟩=false:=frozen_of_row _ _ _ _ _ h0;have h1:(W.setCell ⟨Z,0,none⟩ v0).heap[Z]?=some (.cells #[v0,z1,z2,z3,z4,z5,z6,z7,z8,z9,z10,z11,z12] T):=heap_setCell_same W Z 0 _ _ v0 h0;have c1:(W.setCell ⟨Z,0,none⟩ v0).cell? ⟨Z,1,none⟩=some z1:=by rw [qcr h1];rfl
 have f1:(W.setCell ⟨Z,0,none⟩ v0).frozen? ⟨Z,1,none⟩=false:=frozen_of_row _ _ _ _ _ h1;have h2:(qS2 W Z v0 v1).heap[Z]?=some (.cells #[v0,v1,z2,z3,z4,z5,z6,z7,z8,z9,z10,z11,z12] T):=heap_setCell_same (W.setCell ⟨Z,0,none⟩ v0) Z 1 _ _ v1 h1;have c2:(qS2 W Z v0 v1).cell? ⟨Z,2,none⟩=some z2:=by rw [qcr h2];rfl
 have f2:(qS2 W Z v0 v1).frozen? ⟨Z,2,none⟩=false:=frozen_of_row _ _ _ _ _ h2;have h3:(qS3 W Z v0 v1 v2).heap[Z]?=some (.cells #[v0,v1,v2,z3,z4,z5,z6,z7,z8,z9,z10,z11,z12] T):=heap_setCell_same (qS2 W Z v0 v1) Z 2 _ _ v2 h2;have c3:(qS3 W Z v0 v1 v2).cell? ⟨Z,3,none⟩=some z3:=by rw [qcr h3];rfl
 have f3:(qS3 W Z v0 v1 v2).frozen? ⟨Z,3,none⟩=false:=frozen_of_row _ _ _ _ _ h3;have h4:(qS4 W Z v0 v1 v2 v3).heap[Z]?=some (.cells #[v0,v1,v2,v3,z4,z5,z6,z7,z8,z9,z10,z11,z12] T):=heap_setCell_same (qS3 W Z v0 v1 v2) Z 3 _ _ v3 h3;have c4:(qS4 W Z v0 v1 v2 v3).cell? ⟨Z,4,none⟩=some z4:=by rw [qcr h4];rfl
 have f4:(qS4 W Z v0 v1 v2 v3).frozen? ⟨Z,4,none⟩=false:=frozen_of_row _ _ _ _ _ h4;have h5:(qS5 W Z v0 v1 v2 v3 v4).heap[Z]?=some (.cells #[v0,v1,v2,v3,v4,z5,z6,z7,z8,z9,z10,z11,z12] T):=heap_setCell_same (qS4 W Z v0 v1 v2 v3) Z 4 _ _ v4 h4;have c5:(qS5 W Z v0 v1 v2 v3 v4).cell? ⟨Z,5,none⟩=some z5:=by rw [qcr h5];rfl
 have f5:(qS5 W Z v0 v1 v2 v3 v4).frozen? ⟨Z,5,none⟩=false:=frozen_of_row _ _ _ _ _ h5;have h6:(qS6 W Z v0 v1 v2 v3 v4 v5).heap[Z]?=some (.cells #[v0,v1,v2,v3,v4,v5,z6,z7,z8,z9,z10,z11,z12] T):=heap_setCell_same (qS5 W Z v0 v1 v2 v3 v4) Z 5 _ _ v5 h5;have c6:(qS6 W Z v0 v1 v2 v3 v4 v5).cell? ⟨Z,6,none⟩=some z6:=by rw [qcr h6];rfl
 have f6:(qS6 W Z v0 v1 v2 v3 v4 v5).frozen? ⟨Z,6,none⟩=false:=frozen_of_row _ _ _ _ _ h6;have h7:(qS7 W Z v0 v1 v2 v3 v4 v5 v6).heap[Z]?=some (.cells #[v0,v1,v2,v3,v4,v5,v6,z7,z8,z9,z10,z11,z12] T):=heap_setCell_same (qS6 W Z v0 v1 v2 v3 v4 v5) Z 6 _ _ v6 h6;have c7:(qS7 W Z v0 v1 v2 v3 v4 v5 v6).cell? ⟨Z,7,none⟩=some z7:=by rw [qcr h7];rfl
 have f7:(qS7 W Z v0 v1 v2 v3 v4 v5 v6).frozen? ⟨Z,7,none⟩=false:=frozen_of_row _ _ _ _ _ h7;have h8:(qS8 W Z v0 v1 v2 v3 v4 v5 v6 v7).heap[Z]?=some (.cells #[v0,v1,v2,v3,v4,v5,v6,v7,z8,z9,z10,z11,z12] T):=heap_setCell_same (qS7 W Z v0 v1 v2 v3 v4 v5 v6) Z 7 _ _ v7 h7;have c8:(qS8 W Z v0 v1 v2 v3 v4 v5 v6 v7).cell? ⟨Z,8,none⟩=some z8:=by rw [qcr h8];rfl
 have f8:(qS8 W Z v0 v1 v2 v3 v4 v5 v6 v7).frozen? ⟨Z,8,none⟩=false:=frozen_of_row _ _ _ _ _ h8;have h9:(qS9 W Z v0 v1 v2 v3 v4 v5 v6 v7 v8).heap[Z]?=some (.cells #[v0,v1,v2,v3,v4,v5,v6,v7,v8,z9,z10,z11,z12] T):=heap_setCell_same (qS8 W Z v0 v1 v2 v3 v4 v5 v6 v7) Z 8 _ _ v8 h8;have c9:(qS9 W Z v0 v1 v2 v3 v4 v5 v6 v7 v8).cell? ⟨Z,9,none⟩=some z9:=by rw [qcr h9];rfl
 have f9:(qS9 W Z v0 v1 v2 v3 v4 v5 v6 v7 v8).frozen? ⟨Z,9,none⟩=false:=frozen_of_row _ _ _ _ _ h9;have h10:(qS10 W Z v0 v1 v2 v3 v4 v5 v6 v7 v8 v9).heap[Z]?=some (.cells #[v0,v1,v2,v3,v4,v5,v6,v7,v8,v9,z10,z11,z12] T):=heap_setCell_same (qS9 W Z v0 v1 v2 v3 v4 v5 v6 v7 v8) Z 9 _ _ v9 h9;have c10:(qS10 W Z v0 v1 v2 v3 v4 v5 v6 v7 v8 v9).cell? ⟨Z,10,none⟩=some z10:=by rw [qcr h10];rfl
 have f10:(qS10 W Z v0 v1 v2 v3 v4 v5 v6 v7 v8 v9).frozen? ⟨Z,10,none⟩=false:=frozen_of_row _ _ _ _ _ h10;have h11:(qS11 W Z v0 v1 v2 v3 v4 v5 v6 v7 v8 v9 v10).heap[Z]?=some (.cells #[v0,v1,v2,v3,v4,v5,v6,v7,v8,v9,v10,z11,z12] T):=heap_setCell_same (qS10 W Z v0 v1 v2 v3 v4 v5 v6 v7 v8 v9) Z 10 _ _ v10 h10;have c11:(qS11 W Z v0 v1 v2 v3 v4 v5 v6 v7 v8 v9 v10).cell? ⟨Z,11,none⟩=some z11:=by rw [qcr h11];rfl
 have f11:(qS11 W Z v0 v1 v2 v3 v4 v5 v6 v7 v8 v9 v10).frozen? ⟨Z,11,none⟩=false:=frozen_of_row _ _ _ _ _ h11;have h12:(qS12 W Z v0 v1 v2 v3 v4 v5 v6 v7 v8 v9 v10 v11).heap[Z]?=some (.cells #[v0,v1,v2,v3,v4,v5,v6,v7,v8,v9,v10,v11,z12] T):=heap_setCell_same (qS11 W Z v0 v1 v2 v3 v4 v5 v6 v7 v8 v9 v10) Z 11 _ _ v11 h11;have c12:(qS12 W Z v0 v1 v2 v3 v4 v5 v6 v7 v8 v9 v10 v11).cell? ⟨Z,12,none⟩=some z12:=by rw [qcr h12];rfl
 have f12:(qS12 W Z v0 v1 v2 v3 v4 v5 v6 v7 v8 v9 v10 v11).frozen? ⟨Z,12,none⟩=false:=frozen_of_row _ _ _ _ _ h12;have h13:(qS13 W Z v0 v1 v2 v3 v4 v5 v6 v7 v8 v9 v10 v11 v12).heap[Z]?=some (.cells #[v0,v1,v2,v3,v4,v5,v6,v7,v8,v9,v10,v11,v12] T):=heap_setCell_same (qS12 W Z v0 v1 v2 v3 v4 v5 v6 v7 v8 v9 v10 v11) Z 12 _ _ v12 h12;exact ⟨⟨h0,c0,f0⟩,⟨h1,c1,f1⟩,⟨h2,c2,f2⟩,⟨h3,c3,f3⟩,⟨h4,c4,f4⟩,⟨h5,c5,f5⟩,⟨h6,c6,f6⟩,⟨h7,c7,f7⟩,⟨h8,c8,f8⟩,⟨h9,c9,f9⟩,⟨h10,c10,f10⟩,⟨h11,c11,f11⟩,⟨h12,c12,f12⟩,h13⟩
theorem qhq {w:World} {g off n c:Nat} {bs:List UInt8} (hrd:Rd w (some ⟨g,off,none⟩) n c bs) (hn:30≤n):Calls Tryz.prog 16 #[.slice (some ⟨g,off,none⟩) n c] w fun e w'=>RT w (pMid ((bs.drop 8).take (n - 10))) e w':=by
 have hm:=qrw (hrd.below (qa0 w (.cells qV 32))) hn;have h2:=hrd.hle;have h3:=hrd.hsmall;obtain ⟨l0,hl0⟩:∃l,l=(bs.drop 8).take (n - 10):=⟨_,rfl⟩
 rw [←hl0] at hm ⊢;have hY0:=heap_alloc_new w (.cells qV 32);have hb0:=qa0 w (.cells qV 32);have hn1:¬((n:Int) - 2 < 8):=by omega
 have hn2:¬((c:Int) < (n:Int) - 2):=by omega
 have hn3:(8:Int)≤(n:Int) - 2:=by omega
 have hn4:(n:Int) - 2≤c:=by omega
 have hn5:(8:Int)≤c:=by omega
 have hwr:IntKind.i64.wrap ((n:Int) - 2)=(n:Int) - 2:=by rw [IntKind.wrap_i64];omega
 clear hl0 hrd;go_enter Tryz.func16,Tryz.ntmps16
 go_upto_region 1 with fail;generalize w.alloc (.cells qV 32)=w0 at *;have hm:Rd w0 (some ⟨g,off+8,none⟩) (n - 2 - 8) (c - 8) l0:=by rw [show n - 2 - 8=n - 10 by omega];exact hm
 go_upto_region 2 with (first | (go_at_call 34;refine (Ob.newReader_any _ _ _ _ _ hm).mono ?_;rintro e wr ⟨r,a',cap',rfl,hR,hbr⟩));have hrl0:=hR.rlt;have hbase:=hR.hbase;have hYl:=qa6 hY0;have hcX:=qcq wr r;have hYr:=(hbr.block _ (qa6 hY0)).trans hY0;have hbx:=qa0 wr (rdO r);have hY1:=(hbx.block _ (qa6 hYr)).trans hYr;obtain ⟨lo,hloE⟩:∃lo,lo=r+1:=⟨_,rfl⟩
 have s0:Rst (wr.alloc (rdO r)) lo r l0:=⟨⟨_,(hR.below hbx).rdr⟩,by omega,by have:=hbx.size;omega⟩;have hrl:r < lo:=by omega
 have HX:Hid (∀W,(wr.alloc (rdO r)).grownBy W (some r)→W.cell? ⟨wr.heap.size,0,none⟩=some (.pointer (some ⟨r,0,none⟩))):=fun W hW=>hW.cell hcX (by show some wr.heap.size≠some r;intro e;cases e;omega)
 have HY:Hid (∀W,(wr.alloc (rdO r)).grownBy W (some r)→W.heap[w.heap.size]?=some (.cells qV 32)):=fun W hW=>qb8 hW hY1 (by omega)
 have HB:Hid (∀W,(wr.alloc (rdO r)).grownBy W (some r)→qB w W):=fun W hW=>Go.RowKit.Below.grown (belT hb0 (belT hbr hbx)) hW (by have:=hb0.size;have:=hbr.size;have:=hbx.size;omega) (fun k e=>by cases e;have:=hb0.size;omega)
 have hwl:w.heap.size < r:=by omega
 have hs1:r+2≤(wr.alloc (rdO r)).heap.size:=by rw [show (wr.alloc (rdO r)).heap.size=wr.heap.size+1 by simp];omega
 have E0:Hid (pMid l0=(andP (pn 2) fun n0=>andP (pn 2) fun n1=>andP (pn 2) fun n2=>andP (pn 2) fun n3=>andP (pn 2) fun n4=>andP (pn 2) fun n5=>andP (pn 2) fun n6=>andP p1 fun x0=>andP p1 fun x1=>andP p1 fun x2=>andP p1 fun x3=>andP p1 fun x4=>andP p1 fun x5=>andP (qa4 pTk n0) fun r0=>andP (qa4 pRg n1) fun r1=>andP (qa4 pRs n2) fun r2=>andP (qa4 pCt n3) fun r3=>andP (qa4 pAl n4) fun r4=>andP (qa4 pIs n5) fun r5=>andP (qa4 pMs n6) fun r6=>retP (⟨x0,x1,r0,r1,r2,r3,r4,r5,r6,x2,x3,x4,x5⟩:Tb)) l0):=rfl;clear hm hcX hYr hbx hY1 hR hbr hY0 hb0 hn1 hn2 hn3 hn4 hn5 hwr;generalize wr.alloc (rdO r)=w1 at *;have G0:=qah (r:=some r) (Below.refl w1.heap.size w1).drew;have HC:=HX.out w1.drew G0;refine wp_region_held_drew (S:=fun W=>W.cell? ⟨wr.heap.size,0,none⟩=some (.pointer (some ⟨r,0,none⟩))) (by kernel_rfl) HC (fun hHeld=>?_);clear HC;change wpAnyH _ _ _ _ _ _ #[false,false,false,false,false,false,false,false,false,false,false,false,false,false,false,false,false,false,false,false,false] _ _;try simp only [qN]
 refine qTH 0 (rdP r) rfl hHeld ?_;try simp only [qN]
 refine qTH 2 (rdP r) rfl hHeld ?_;try simp only [qN]
 refine qTH 4 (rdP r) rfl hHeld ?_;try simp only [qN]
 refine qTH 6 (rdP r) rfl hHeld ?_;try simp only [qN]
 refine qTH 8 (rdP r) rfl hHeld ?_;try simp only [qN]
 refine qTH 10 (rdP r) rfl hHeld ?_;try simp only [qN]
 refine qTH 12 (rdP r) rfl hHeld ?_;try simp only [qN]
 clear hHeld;have t0:=s0.below (Below.refl w1.heap.size w1).drew;clear s0;generalize w1.drew=W0 at *;refine qR1 (i:=1) rfl (fun K hK=>?_);go_simp;refine (qed t0).mono ?_;intro e W1 hR;rcases hp:pn 2 l0 with c | ⟨n0,l1⟩
 ·rw [show p2 l0=.error c from qaj hp] at hR
  obtain ⟨rfl,hg⟩:=qar hR;have e9:RT w (pMid l0) (gup c) W1:=by
   rw [E0.out.trans (qaj hp)];exact ⟨rfl,HB.out _ (qa1 G0 hg)⟩
  exact ⟨rfl,e9⟩
 rw [show p2 l0=.ok ((n0:Int),l1) from qa9 hp] at hR;obtain ⟨u1,rfl,hv,t1,g1⟩:=qaq hR;have q:u1=I n0:=hv;subst q;have GG:=qa1 G0 g1;have EE:Hid (pMid l0=_):=E0.out.trans (qa9 hp);have hb0:n0 < 65536:=Nat.lt_of_lt_of_le (qcw hp) (by decide);refine hK.out _ _ (HX.out W1 GG) (fun hSS=>?_);clear hSS hK K hR hp E0 G0 t0;have G0:=GG;have E0:=EE;clear GG EE g1;try simp only [qN]
 refine qR1 (i:=3) rfl (fun K hK=>?_);go_simp;refine (qed t1).mono ?_;intro e W2 hR;rcases hp:pn 2 l1 with c | ⟨n1,l2⟩
 ·rw [show p2 l1=.error c from qaj hp] at hR
  obtain ⟨rfl,hg⟩:=qar hR;have e9:RT w (pMid l0) (gup c) W2:=by
   rw [E0.out.trans (qaj hp)];exact ⟨rfl,HB.out _ (qa1 G0 hg)⟩
  exact ⟨rfl,e9⟩
 rw [show p2 l1=.ok ((n1:Int),l2) from qa9 hp] at hR;obtain ⟨u2,rfl,hv,t2,g2⟩:=qaq hR;have q:u2=I n1:=hv;subst q;have GG:=qa1 G0 g2;have EE:Hid (pMid l0=_):=E0.out.trans (qa9 hp);have hb1:n1 < 65536:=Nat.lt_of_lt_of_le (qcw hp) (by decide);refine hK.out _ _ (HX.out W2 GG) (fun hSS=>?_);clear hSS hK K hR hp E0 G0 t1;have G0:=GG;have E0:=EE;clear GG EE g2;try simp only [qN]
 refine qR1 (i:=5) rfl (fun K hK=>?_);go_simp;refine (qed t2).mono ?_;intro e W3 hR;rcases hp:pn 2 l2 with c | ⟨n2,l3⟩
 ·rw [show p2 l2=.error c from qaj hp] at hR
  obtain ⟨rfl,hg⟩:=qar hR;have e9:RT w (pMid l0) (gup c) W3:=by
   rw [E0.out.trans (qaj hp)];exact ⟨rfl,HB.out _ (qa1 G0 hg)⟩
  exact ⟨rfl,e9⟩
 rw [show p2 l2=.ok ((n2:Int),l3) from qa9 hp] at hR;obtain ⟨u3,rfl,hv,t3,g3⟩:=qaq hR;have q:u3=I n2:=hv;subst q;have GG:=qa1 G0 g3;have EE:Hid (pMid l0=_):=E0.out.trans (qa9 hp);have hb2:n2 < 65536:=Nat.lt_of_lt_of_le (qcw hp) (by decide);refine hK.out _ _ (HX.out W3 GG) (fun hSS=>?_);clear hSS hK K hR hp E0 G0 t2;have G0:=GG;have E0:=EE;clear GG EE g3;try simp only [qN]
 refine qR1 (i:=7) rfl (fun K hK=>?_);go_simp;refine (qed t3).mono ?_;intro e W4 hR;rcases hp:pn 2 l3 with c | ⟨n3,l4⟩
 ·rw [show p2 l3=.error c from qaj hp] at hR
  obtain ⟨rfl,hg⟩:=qar hR;have e9:RT w (pMid l0) (gup c) W4:=by
   rw [E0.out.trans (qaj hp)];exact ⟨rfl,HB.out _ (qa1 G0 hg)⟩
  exact ⟨rfl,e9⟩
 rw [show p2 l3=.ok ((n3:Int),l4) from qa9 hp] at hR;obtain ⟨u4,rfl,hv,t4,g4⟩:=qaq hR;have q:u4=I n3:=hv;subst q;have GG:=qa1 G0 g4;have EE:Hid (pMid l0=_):=E0.out.trans (qa9 hp);have hb3:n3 < 65536:=Nat.lt_of_lt_of_le (qcw hp) (by decide);refine hK.out _ _ (HX.out W4 GG) (fun hSS=>?_);clear hSS hK K hR hp E0 G0 t3;have G0:=GG;have E0:=EE;clear GG EE g4;try simp only [qN]
 refine qR1 (i:=9) rfl (fun K hK=>?_);go_simp;refine (qed t4).mono ?_;intro e W5 hR;rcases hp:pn 2 l4 with c | ⟨n4,l5⟩
 ·rw [show p2 l4=.error c from qaj hp] at hR
  obtain ⟨rfl,hg⟩:=qar hR;have e9:RT w (pMid l0) (gup c) W5:=by
   rw [E0.out.trans (qaj hp)];exact ⟨rfl,HB.out _ (qa1 G0 hg)⟩
  exact ⟨rfl,e9⟩
 rw [show p2 l4=.ok ((n4:Int),l5) from qa9 hp] at hR;obtain ⟨u5,rfl,hv,t5,g5⟩:=qaq hR;have q:u5=I n4:=hv;subst q;have GG:=qa1 G0 g5;have EE:Hid (pMid l0=_):=E0.out.trans (qa9 hp);have hb4:n4 < 65536:=Nat.lt_of_lt_of_le (qcw hp) (by decide);refine hK.out _ _ (HX.out W5 GG) (fun hSS=>?_);clear hSS hK K hR hp E0 G0 t4;have G0:=GG;have E0:=EE;clear GG EE g5;try simp only [qN]
 refine qR1 (i:=11) rfl (fun K hK=>?_);go_simp;refine (qed t5).mono ?_;intro e W6 hR;rcases hp:pn 2 l5 with c | ⟨n5,l6⟩
 ·rw [show p2 l5=.error c from qaj hp] at hR
  obtain ⟨rfl,hg⟩:=qar hR;have e9:RT w (pMid l0) (gup c) W6:=by
   rw [E0.out.trans (qaj hp)];exact ⟨rfl,HB.out _ (qa1 G0 hg)⟩
  exact ⟨rfl,e9⟩
 rw [show p2 l5=.ok ((n5:Int),l6) from qa9 hp] at hR;obtain ⟨u6,rfl,hv,t6,g6⟩:=qaq hR;have q:u6=I n5:=hv;subst q;have GG:=qa1 G0 g6;have EE:Hid (pMid l0=_):=E0.out.trans (qa9 hp);have hb5:n5 < 65536:=Nat.lt_of_lt_of_le (qcw hp) (by decide);refine hK.out _ _ (HX.out W6 GG) (fun hSS=>?_);clear hSS hK K hR hp E0 G0 t5;have G0:=GG;have E0:=EE;clear GG EE g6;try simp only [qN]
 refine qR1 (i:=13) rfl (fun K hK=>?_);go_simp;refine (qed t6).mono ?_;intro e W7 hR;rcases hp:pn 2 l6 with c | ⟨n6,l7⟩
 ·rw [show p2 l6=.error c from qaj hp] at hR
  obtain ⟨rfl,hg⟩:=qar hR;have e9:RT w (pMid l0) (gup c) W7:=by
   rw [E0.out.trans (qaj hp)];exact ⟨rfl,HB.out _ (qa1 G0 hg)⟩
  exact ⟨rfl,e9⟩
 rw [show p2 l6=.ok ((n6:Int),l7) from qa9 hp] at hR;obtain ⟨u7,rfl,hv,t7,g7⟩:=qaq hR;have q:u7=I n6:=hv;subst q;have GG:=qa1 G0 g7;have EE:Hid (pMid l0=_):=E0.out.trans (qa9 hp);have hb6:n6 < 65536:=Nat.lt_of_lt_of_le (qcw hp) (by decide);refine hK.out _ _ (HX.out W7 GG) (fun hSS=>?_);clear hSS hK K hR hp E0 G0 t6;have G0:=GG;have E0:=EE;clear GG EE g7;try simp only [qN]
 refine wpAnyH_take (i:=14) (v:=I n0) rfl (by kernel_rfl) (by kernel_rfl) (by kernel_rfl) (fun _ _ _ h=>h) (Or.inl ⟨by rfl,?_⟩) (HX.out W7 G0) ?_
 ·intro w' hSw
  try dsimp only at hSw
  go_simp
 try simp only [qN]
 refine wpAnyH_take (i:=15) (v:=I n1) rfl (by kernel_rfl) (by kernel_rfl) (by kernel_rfl) (fun _ _ _ h=>h) (Or.inl ⟨by rfl,?_⟩) (HX.out W7 G0) ?_
 ·intro w' hSw
  try dsimp only at hSw
  go_simp
 try simp only [qN]
 refine wpAnyH_take (i:=16) (v:=I n2) rfl (by kernel_rfl) (by kernel_rfl) (by kernel_rfl) (fun _ _ _ h=>h) (Or.inl ⟨by rfl,?_⟩) (HX.out W7 G0) ?_
 ·intro w' hSw
  try dsimp only at hSw
  go_simp
 try simp only [qN]
 refine wpAnyH_take (i:=17) (v:=I n3) rfl (by kernel_rfl) (by kernel_rfl) (by kernel_rfl) (fun _ _ _ h=>h) (Or.inl ⟨by rfl,?_⟩) (HX.out W7 G0) ?_
 ·intro w' hSw
  try dsimp only at hSw
  go_simp
 try simp only [qN]
 refine wpAnyH_take (i:=18) (v:=I n4) rfl (by kernel_rfl) (by kernel_rfl) (by kernel_rfl) (fun _ _ _ h=>h) (Or.inl ⟨by rfl,?_⟩) (HX.out W7 G0) ?_
 ·intro w' hSw
  try dsimp only at hSw
  go_simp
 try simp only [qN]
 refine wpAnyH_take (i:=19) (v:=I n5) rfl (by kernel_rfl) (by kernel_rfl) (by kernel_rfl) (fun _ _ _ h=>h) (Or.inl ⟨by rfl,?_⟩) (HX.out W7 G0) ?_
 ·intro w' hSw
  try dsimp only at hSw
  go_simp
 try simp only [qN]
 refine wpAnyH_take (i:=20) (v:=I n6) rfl (by kernel_rfl) (by kernel_rfl) (by kernel_rfl) (fun _ _ _ h=>h) (Or.inl ⟨by rfl,?_⟩) (HX.out W7 G0) ?_
 ·intro w' hSw
  try dsimp only at hSw
  go_simp
 try simp only [qN]
 refine wpAnyH_done (by kernel_rfl) ?_ _;have GB:=G0;clear G0;go_wp2;have G0:=qec GB (Below.refl W7.heap.size W7).drew;have HC:=HX.out W7.drew G0;refine wp_region_held_drew (S:=fun W=>W.cell? ⟨wr.heap.size,0,none⟩=some (.pointer (some ⟨r,0,none⟩))) (by kernel_rfl) HC (fun hHeld=>?_);clear HC;change wpAnyH _ _ _ _ _ _ #[false,false,false,false,false,false,false,false,false,false,false,false,false,false,false] _ _;try simp only [qN]
 refine qTH 0 (rdP r) rfl hHeld ?_;try simp only [qN]
 refine qTH 2 (rdP r) rfl hHeld ?_;try simp only [qN]
 refine qTH 4 (rdP r) rfl hHeld ?_;try simp only [qN]
 refine qTH 6 (rdP r) rfl hHeld ?_;try simp only [qN]
 refine qTH 8 (rdP r) rfl hHeld ?_;try simp only [qN]
 refine qTH 10 (rdP r) rfl hHeld ?_;try simp only [qN]
 clear hHeld;have t7:=t7.below (Below.refl W7.heap.size W7).drew;clear GB;generalize W7.drew=V0 at *;refine qf1 (fun A HA G HG=>?_);have K6T:Hid (∀(W:World) (x0:Int) (x1:Int) (x2:Int) (x3:Int) (x4:Int) (x5:Int) (l:List UInt8) (Z:Nat),(Rst W lo r l)→(w1.grownBy W (some r))→(pMid l0=(andP (qa4 pTk n0) fun r0=>andP (qa4 pRg n1) fun r1=>andP (qa4 pRs n2) fun r2=>andP (qa4 pCt n3) fun r3=>andP (qa4 pAl n4) fun r4=>andP (qa4 pIs n5) fun r5=>andP (qa4 pMs n6) fun r6=>retP (⟨x0,x1,r0,r1,r2,r3,r4,r5,r6,x2,x3,x4,x5⟩:Tb)) l)→(W.heap[Z]?=some (.cells qV 32))→(w1.heap.size≤Z)→G 1 #[true,true,true,true,true,true,true,true,true,true,true,true,true,true,false] ((((((((A.setIfInBounds 11 (.pointer (some ⟨Z,0,none⟩))).setIfInBounds 34 (I x0)).setIfInBounds 36 (I x1)).setIfInBounds 38 (I x2)).setIfInBounds 40 (I x3)).setIfInBounds 42 (I x4)).setIfInBounds 44 (I x5)).setIfInBounds 45 (.agg #[I x0,I x1,qZ,qZ,qZ,qZ,qZ,qZ,qZ,I x2,I x3,I x4,I x5])) W):=fun W x0 x1 x2 x3 x4 x5 l Z tt gg ee hZ hZ1=>by
  have hA:=HA.out;subst hA;clear E0;rw [HG.out];try simp only [qN]
  obtain ⟨⟨kZ0,cZ0,fZ0⟩,⟨kZ1,cZ1,fZ1⟩,⟨kZ2,cZ2,fZ2⟩,⟨kZ3,cZ3,fZ3⟩,⟨kZ4,cZ4,fZ4⟩,⟨kZ5,cZ5,fZ5⟩,⟨kZ6,cZ6,fZ6⟩,⟨kZ7,cZ7,fZ7⟩,⟨kZ8,cZ8,fZ8⟩,⟨kZ9,cZ9,fZ9⟩,⟨kZ10,cZ10,fZ10⟩,⟨kZ11,cZ11,fZ11⟩,⟨kZ12,cZ12,fZ12⟩,kZ13⟩:=qeh (I x0) (I x1) qZ qZ qZ qZ qZ qZ qZ (I x2) (I x3) (I x4) (I x5) hZ;refine qR1 (i:=14) rfl (fun K hK=>?_);have G0:w1.grownBy (((((((((((((((W).setCell ⟨Z,0,none⟩ (I x0)).setCell ⟨Z,1,none⟩ (I x1)).setCell ⟨Z,2,none⟩ qZ).setCell ⟨Z,3,none⟩ qZ).setCell ⟨Z,4,none⟩ qZ).setCell ⟨Z,5,none⟩ qZ).setCell ⟨Z,6,none⟩ qZ).setCell ⟨Z,7,none⟩ qZ).setCell ⟨Z,8,none⟩ qZ).setCell ⟨Z,9,none⟩ (I x2)).setCell ⟨Z,10,none⟩ (I x3)).setCell ⟨Z,11,none⟩ (I x4)).setCell ⟨Z,12,none⟩ (I x5))) (some r):=(qae (qae (qae (qae (qae (qae (qae (qae (qae (qae (qae (qae (qae gg hZ1) hZ1) hZ1) hZ1) hZ1) hZ1) hZ1) hZ1) hZ1) hZ1) hZ1) hZ1) hZ1);have t0:Rst (((((((((((((((W).setCell ⟨Z,0,none⟩ (I x0)).setCell ⟨Z,1,none⟩ (I x1)).setCell ⟨Z,2,none⟩ qZ).setCell ⟨Z,3,none⟩ qZ).setCell ⟨Z,4,none⟩ qZ).setCell ⟨Z,5,none⟩ qZ).setCell ⟨Z,6,none⟩ qZ).setCell ⟨Z,7,none⟩ qZ).setCell ⟨Z,8,none⟩ qZ).setCell ⟨Z,9,none⟩ (I x2)).setCell ⟨Z,10,none⟩ (I x3)).setCell ⟨Z,11,none⟩ (I x4)).setCell ⟨Z,12,none⟩ (I x5))) lo r l:=(((((((((((((tt.setY (by omega)).setY (by omega)).setY (by omega)).setY (by omega)).setY (by omega)).setY (by omega)).setY (by omega)).setY (by omega)).setY (by omega)).setY (by omega)).setY (by omega)).setY (by omega)).setY (by omega));have hZ2:(((((((((((((((W).setCell ⟨Z,0,none⟩ (I x0)).setCell ⟨Z,1,none⟩ (I x1)).setCell ⟨Z,2,none⟩ qZ).setCell ⟨Z,3,none⟩ qZ).setCell ⟨Z,4,none⟩ qZ).setCell ⟨Z,5,none⟩ qZ).setCell ⟨Z,6,none⟩ qZ).setCell ⟨Z,7,none⟩ qZ).setCell ⟨Z,8,none⟩ qZ).setCell ⟨Z,9,none⟩ (I x2)).setCell ⟨Z,10,none⟩ (I x3)).setCell ⟨Z,11,none⟩ (I x4)).setCell ⟨Z,12,none⟩ (I x5))).heap[Z]?=some (.cells #[I x0,I x1,qZ,qZ,qZ,qZ,qZ,qZ,qZ,I x2,I x3,I x4,I x5] 32):=kZ13;go_simp;clear fZ0 fZ1 fZ2 fZ3 fZ4 fZ5 fZ6 fZ7 fZ8 fZ9 fZ10 fZ11 fZ12 cZ0 cZ1 cZ2 cZ3 cZ4 cZ5 cZ6 cZ7 cZ8 cZ9 cZ10 cZ11 cZ12 kZ0 kZ1 kZ2 kZ3 kZ4 kZ5 kZ6 kZ7 kZ8 kZ9 kZ10 kZ11 kZ12 kZ13 hZ tt gg;refine hK.out _ _ (HX.out _ G0) (fun hSS=>?_);clear hSS hK K;try simp only [qN]
  refine wpAnyH_done (by kernel_rfl) ?_ _;have hZ:=hZ2;clear hZ2 HG;generalize ((((((((((((((W).setCell ⟨Z,0,none⟩ (I x0)).setCell ⟨Z,1,none⟩ (I x1)).setCell ⟨Z,2,none⟩ (.slice none 0 0)).setCell ⟨Z,3,none⟩ (.slice none 0 0)).setCell ⟨Z,4,none⟩ (.slice none 0 0)).setCell ⟨Z,5,none⟩ (.slice none 0 0)).setCell ⟨Z,6,none⟩ (.slice none 0 0)).setCell ⟨Z,7,none⟩ (.slice none 0 0)).setCell ⟨Z,8,none⟩ (.slice none 0 0)).setCell ⟨Z,9,none⟩ (I x2)).setCell ⟨Z,10,none⟩ (I x3)).setCell ⟨Z,11,none⟩ (I x4)).setCell ⟨Z,12,none⟩ (I x5))=B0 at *;have E0:Hid (pMid l0=(andP (qa4 pTk n0) fun r0=>andP (qa4 pRg n1) fun r1=>andP (qa4 pRs n2) fun r2=>andP (qa4 pCt n3) fun r3=>andP (qa4 pAl n4) fun r4=>andP (qa4 pIs n5) fun r5=>andP (qa4 pMs n6) fun r6=>retP (⟨x0,x1,r0,r1,r2,r3,r4,r5,r6,x2,x3,x4,x5⟩:Tb)) l):=ee;clear ee;have hZr:Z≠r:=by omega
  generalize l=m0 at *;have cX:=HX.out B0 G0;have hR:=qll n0 (by omega) t0 38 #[rdP r] #[] (fun _ _=>rfl) (fun W l' j hW ht _=>qsr ht j);rcases hp:qa4 pTk n0 m0 with c | ⟨r0,m1⟩
  ·rw [hp] at hR
   have EE:Hid (pMid l0=.error c):=E0.out.trans (qaj hp);clear hp E0 t0;go_wp2_with (first | (go_at_call 37;refine hR.mono ?_;clear hR;rintro e W3 ⟨rfl,hg⟩));have e9:RT w (pMid l0) (gup c) W3:=by
    rw [EE.out];exact ⟨rfl,HB.out _ (qa1 G0 hg)⟩
   exact ⟨rfl,e9⟩
  rw [hp] at hR;have EE:Hid (pMid l0=_):=E0.out.trans (qa9 hp);clear hp E0 t0;have E0:=EE;clear EE;go_upto_region 5 with (first | (go_at_call 37;refine hR.mono ?_;clear hR;rintro e D0 ⟨u,rfl,⟨sa0,sc0,cs,rfl,o,x⟩,t1,g⟩;have hv0:VRTk lo D0 r0 (.slice sa0 r0.length sc0):=⟨_,_,cs,rfl,o,x⟩;clear o x cs;have hZ:=qb8 g hZ hZr;have G0:=qa1 G0 g;clear g cX;have cz:D0.cell? ⟨Z,2,none⟩=some qZ:=(by rw [qcr hZ];rfl);have fz:D0.frozen? ⟨Z,2,none⟩=false:=frozen_of_row _ _ _ _ _ hZ));have hZq:=heap_setCell_same D0 Z 2 _ _ (.slice sa0 r0.length sc0) hZ;have GG:=qae (i:=2) (v:=.slice sa0 r0.length sc0) G0 hZ1;have tq:=t1.setY (Y:=Z) (i:=2) (v:=.slice sa0 r0.length sc0) (by omega);have hw0:=qay (i:=2) (y:=.slice sa0 r0.length sc0) hv0 hZ;clear cz fz hZ G0 t1 hv0;have hZ:(D0.setCell ⟨Z,2,none⟩ (.slice sa0 r0.length sc0)).heap[Z]?=some (.cells #[I x0,I x1,.slice sa0 r0.length sc0,qZ,qZ,qZ,qZ,qZ,qZ,I x2,I x3,I x4,I x5] 32):=hZq;have G0:=GG;have t1:=tq;have hv0:=hw0;clear GG tq hZq hw0;generalize D0.setCell ⟨Z,2,none⟩ (.slice sa0 r0.length sc0)=B1 at *;have cX:=HX.out B1 G0;have hR:=qls n1 (by omega) t1 40 #[rdP r] #[] (fun _ _=>rfl) (fun W l' j hW ht _=>qsv ht j);rcases hp:qa4 pRg n1 m1 with c | ⟨r1,m2⟩
  ·rw [hp] at hR
   have EE:Hid (pMid l0=.error c):=E0.out.trans (qaj hp);clear hp E0 t1;go_wp2_with (first | (go_at_call 39;refine hR.mono ?_;clear hR;rintro e W3 ⟨rfl,hg⟩));have e9:RT w (pMid l0) (gup c) W3:=by
    rw [EE.out];exact ⟨rfl,HB.out _ (qa1 G0 hg)⟩
   exact ⟨rfl,e9⟩
  rw [hp] at hR;have EE:Hid (pMid l0=_):=E0.out.trans (qa9 hp);clear hp E0 t1;have E0:=EE;clear EE;go_upto_region 6 with (first | (go_at_call 39;refine hR.mono ?_;clear hR;rintro e D1 ⟨u,rfl,⟨sa1,sc1,cs,rfl,o,x⟩,t2,g⟩;have hv1:VRRg lo D1 r1 (.slice sa1 r1.length sc1):=⟨_,_,cs,rfl,o,x⟩;clear o x cs;have hZ:=qb8 g hZ hZr;have hv0:=qe5 hv0 hrl g;have G0:=qa1 G0 g;clear g cX;have cz:D1.cell? ⟨Z,3,none⟩=some qZ:=(by rw [qcr hZ];rfl);have fz:D1.frozen? ⟨Z,3,none⟩=false:=frozen_of_row _ _ _ _ _ hZ));have hZq:=heap_setCell_same D1 Z 3 _ _ (.slice sa1 r1.length sc1) hZ;have GG:=qae (i:=3) (v:=.slice sa1 r1.length sc1) G0 hZ1;have tq:=t2.setY (Y:=Z) (i:=3) (v:=.slice sa1 r1.length sc1) (by omega);have hw0:=qay (i:=3) (y:=.slice sa1 r1.length sc1) hv0 hZ;have hw1:=qb2 (i:=3) (y:=.slice sa1 r1.length sc1) hv1 hZ;clear cz fz hZ G0 t2 hv0 hv1;have hZ:(D1.setCell ⟨Z,3,none⟩ (.slice sa1 r1.length sc1)).heap[Z]?=some (.cells #[I x0,I x1,.slice sa0 r0.length sc0,.slice sa1 r1.length sc1,qZ,qZ,qZ,qZ,qZ,I x2,I x3,I x4,I x5] 32):=hZq;have G0:=GG;have t2:=tq;have hv0:=hw0;have hv1:=hw1;clear GG tq hZq hw0 hw1;generalize D1.setCell ⟨Z,3,none⟩ (.slice sa1 r1.length sc1)=B2 at *;have cX:=HX.out B2 G0;have hR:=qln n2 (by omega) t2 42 #[rdP r] #[] (fun _ _=>rfl) (fun W l' j hW ht _=>qss ht j);rcases hp:qa4 pRs n2 m2 with c | ⟨r2,m3⟩
  ·rw [hp] at hR
   have EE:Hid (pMid l0=.error c):=E0.out.trans (qaj hp);clear hp E0 t2;go_wp2_with (first | (go_at_call 41;refine hR.mono ?_;clear hR;rintro e W3 ⟨rfl,hg⟩));have e9:RT w (pMid l0) (gup c) W3:=by
    rw [EE.out];exact ⟨rfl,HB.out _ (qa1 G0 hg)⟩
   exact ⟨rfl,e9⟩
  rw [hp] at hR;have EE:Hid (pMid l0=_):=E0.out.trans (qa9 hp);clear hp E0 t2;have E0:=EE;clear EE;go_upto_region 7 with (first | (go_at_call 41;refine hR.mono ?_;clear hR;rintro e D2 ⟨u,rfl,⟨sa2,sc2,cs,rfl,o,x⟩,t3,g⟩;have hv2:VRRs lo D2 r2 (.slice sa2 r2.length sc2):=⟨_,_,cs,rfl,o,x⟩;clear o x cs;have hZ:=qb8 g hZ hZr;have hv0:=qe5 hv0 hrl g;have hv1:=qen hv1 hrl g;have G0:=qa1 G0 g;clear g cX;have cz:D2.cell? ⟨Z,4,none⟩=some qZ:=(by rw [qcr hZ];rfl);have fz:D2.frozen? ⟨Z,4,none⟩=false:=frozen_of_row _ _ _ _ _ hZ));have hZq:=heap_setCell_same D2 Z 4 _ _ (.slice sa2 r2.length sc2) hZ;have GG:=qae (i:=4) (v:=.slice sa2 r2.length sc2) G0 hZ1;have tq:=t3.setY (Y:=Z) (i:=4) (v:=.slice sa2 r2.length sc2) (by omega);have hw0:=qay (i:=4) (y:=.slice sa2 r2.length sc2) hv0 hZ;have hw1:=qb2 (i:=4) (y:=.slice sa2 r2.length sc2) hv1 hZ;have hw2:=qb4 (i:=4) (y:=.slice sa2 r2.length sc2) hv2 hZ;clear cz fz hZ G0 t3 hv0 hv1 hv2;have hZ:(D2.setCell ⟨Z,4,none⟩ (.slice sa2 r2.length sc2)).heap[Z]?=some (.cells #[I x0,I x1,.slice sa0 r0.length sc0,.slice sa1 r1.length sc1,.slice sa2 r2.length sc2,qZ,qZ,qZ,qZ,I x2,I x3,I x4,I x5] 32):=hZq;have G0:=GG;have t3:=tq;have hv0:=hw0;have hv1:=hw1;have hv2:=hw2;clear GG tq hZq hw0 hw1 hw2;generalize D2.setCell ⟨Z,4,none⟩ (.slice sa2 r2.length sc2)=B3 at *;have cX:=HX.out B3 G0;have hR:=qlt n3 (by omega) t3 44 #[rdP r] #[] (fun _ _=>rfl) (fun W l' j hW ht _=>qsw ht j);rcases hp:qa4 pCt n3 m3 with c | ⟨r3,m4⟩
  ·rw [hp] at hR
   have EE:Hid (pMid l0=.error c):=E0.out.trans (qaj hp);clear hp E0 t3;go_wp2_with (first | (go_at_call 43;refine hR.mono ?_;clear hR;rintro e W3 ⟨rfl,hg⟩));have e9:RT w (pMid l0) (gup c) W3:=by
    rw [EE.out];exact ⟨rfl,HB.out _ (qa1 G0 hg)⟩
   exact ⟨rfl,e9⟩
  rw [hp] at hR;have EE:Hid (pMid l0=_):=E0.out.trans (qa9 hp);clear hp E0 t3;have E0:=EE;clear EE;go_upto_region 8 with (first | (go_at_call 43;refine hR.mono ?_;clear hR;rintro e D3 ⟨u,rfl,⟨sa3,sc3,cs,rfl,o,x⟩,t4,g⟩;have hv3:VRCt lo D3 r3 (.slice sa3 r3.length sc3):=⟨_,_,cs,rfl,o,x⟩;clear o x cs;have hZ:=qb8 g hZ hZr;have hv0:=qe5 hv0 hrl g;have hv1:=qen hv1 hrl g;have hv2:=qf9 hv2 hrl g;have G0:=qa1 G0 g;clear g cX;have cz:D3.cell? ⟨Z,5,none⟩=some qZ:=(by rw [qcr hZ];rfl);have fz:D3.frozen? ⟨Z,5,none⟩=false:=frozen_of_row _ _ _ _ _ hZ));have hZq:=heap_setCell_same D3 Z 5 _ _ (.slice sa3 r3.length sc3) hZ;have GG:=qae (i:=5) (v:=.slice sa3 r3.length sc3) G0 hZ1;have tq:=t4.setY (Y:=Z) (i:=5) (v:=.slice sa3 r3.length sc3) (by omega);have hw0:=qay (i:=5) (y:=.slice sa3 r3.length sc3) hv0 hZ;have hw1:=qb2 (i:=5) (y:=.slice sa3 r3.length sc3) hv1 hZ;have hw2:=qb4 (i:=5) (y:=.slice sa3 r3.length sc3) hv2 hZ;have hw3:=qb5 (i:=5) (y:=.slice sa3 r3.length sc3) hv3 hZ;clear cz fz hZ G0 t4 hv0 hv1 hv2 hv3;have hZ:(D3.setCell ⟨Z,5,none⟩ (.slice sa3 r3.length sc3)).heap[Z]?=some (.cells #[I x0,I x1,.slice sa0 r0.length sc0,.slice sa1 r1.length sc1,.slice sa2 r2.length sc2,.slice sa3 r3.length sc3,qZ,qZ,qZ,I x2,I x3,I x4,I x5] 32):=hZq;have G0:=GG;have t4:=tq;have hv0:=hw0;have hv1:=hw1;have hv2:=hw2;have hv3:=hw3;clear GG tq hZq hw0 hw1 hw2 hw3;generalize D3.setCell ⟨Z,5,none⟩ (.slice sa3 r3.length sc3)=B4 at *;have cX:=HX.out B4 G0;have hR:=qlo n4 (by omega) t4 46 #[rdP r] #[] (fun _ _=>rfl) (fun W l' j hW ht _=>qst ht j);rcases hp:qa4 pAl n4 m4 with c | ⟨r4,m5⟩
  ·rw [hp] at hR
   have EE:Hid (pMid l0=.error c):=E0.out.trans (qaj hp);clear hp E0 t4;go_wp2_with (first | (go_at_call 45;refine hR.mono ?_;clear hR;rintro e W3 ⟨rfl,hg⟩));have e9:RT w (pMid l0) (gup c) W3:=by
    rw [EE.out];exact ⟨rfl,HB.out _ (qa1 G0 hg)⟩
   exact ⟨rfl,e9⟩
  rw [hp] at hR;have EE:Hid (pMid l0=_):=E0.out.trans (qa9 hp);clear hp E0 t4;have E0:=EE;clear EE;go_upto_region 9 with (first | (go_at_call 45;refine hR.mono ?_;clear hR;rintro e D4 ⟨u,rfl,⟨sa4,sc4,cs,rfl,o,x⟩,t5,g⟩;have hv4:VRAl lo D4 r4 (.slice sa4 r4.length sc4):=⟨_,_,cs,rfl,o,x⟩;clear o x cs;have hZ:=qb8 g hZ hZr;have hv0:=qe5 hv0 hrl g;have hv1:=qen hv1 hrl g;have hv2:=qf9 hv2 hrl g;have hv3:=qga hv3 hrl g;have G0:=qa1 G0 g;clear g cX;have cz:D4.cell? ⟨Z,6,none⟩=some qZ:=(by rw [qcr hZ];rfl);have fz:D4.frozen? ⟨Z,6,none⟩=false:=frozen_of_row _ _ _ _ _ hZ));have hZq:=heap_setCell_same D4 Z 6 _ _ (.slice sa4 r4.length sc4) hZ;have GG:=qae (i:=6) (v:=.slice sa4 r4.length sc4) G0 hZ1;have tq:=t5.setY (Y:=Z) (i:=6) (v:=.slice sa4 r4.length sc4) (by omega);have hw0:=qay (i:=6) (y:=.slice sa4 r4.length sc4) hv0 hZ;have hw1:=qb2 (i:=6) (y:=.slice sa4 r4.length sc4) hv1 hZ;have hw2:=qb4 (i:=6) (y:=.slice sa4 r4.length sc4) hv2 hZ;have hw3:=qb5 (i:=6) (y:=.slice sa4 r4.length sc4) hv3 hZ;have hw4:=qb6 (i:=6) (y:=.slice sa4 r4.length sc4) hv4 hZ;clear cz fz hZ G0 t5 hv0 hv1 hv2 hv3 hv4;have hZ:(D4.setCell ⟨Z,6,none⟩ (.slice sa4 r4.length sc4)).heap[Z]?=some (.cells #[I x0,I x1,.slice sa0 r0.length sc0,.slice sa1 r1.length sc1,.slice sa2 r2.length sc2,.slice sa3 r3.length sc3,.slice sa4 r4.length sc4,qZ,qZ,I x2,I x3,I x4,I x5] 32):=hZq;have G0:=GG;have t5:=tq;have hv0:=hw0;have hv1:=hw1;have hv2:=hw2;have hv3:=hw3;have hv4:=hw4;clear GG tq hZq hw0 hw1 hw2 hw3 hw4;generalize D4.setCell ⟨Z,6,none⟩ (.slice sa4 r4.length sc4)=B5 at *;have cX:=HX.out B5 G0;have hR:=qlu n5 (by omega) t5 48 #[rdP r] #[] (fun _ _=>rfl) (fun W l' j hW ht _=>qsx ht j);rcases hp:qa4 pIs n5 m5 with c | ⟨r5,m6⟩
  ·rw [hp] at hR
   have EE:Hid (pMid l0=.error c):=E0.out.trans (qaj hp);clear hp E0 t5;go_wp2_with (first | (go_at_call 47;refine hR.mono ?_;clear hR;rintro e W3 ⟨rfl,hg⟩));have e9:RT w (pMid l0) (gup c) W3:=by
    rw [EE.out];exact ⟨rfl,HB.out _ (qa1 G0 hg)⟩
   exact ⟨rfl,e9⟩
  rw [hp] at hR;have EE:Hid (pMid l0=_):=E0.out.trans (qa9 hp);clear hp E0 t5;have E0:=EE;clear EE;go_upto_region 10 with (first | (go_at_call 47;refine hR.mono ?_;clear hR;rintro e D5 ⟨u,rfl,⟨sa5,sc5,cs,rfl,o,x⟩,t6,g⟩;have hv5:VRIs lo D5 r5 (.slice sa5 r5.length sc5):=⟨_,_,cs,rfl,o,x⟩;clear o x cs;have hZ:=qb8 g hZ hZr;have hv0:=qe5 hv0 hrl g;have hv1:=qen hv1 hrl g;have hv2:=qf9 hv2 hrl g;have hv3:=qga hv3 hrl g;have hv4:=qhp hv4 hrl g;have G0:=qa1 G0 g;clear g cX;have cz:D5.cell? ⟨Z,7,none⟩=some qZ:=(by rw [qcr hZ];rfl);have fz:D5.frozen? ⟨Z,7,none⟩=false:=frozen_of_row _ _ _ _ _ hZ));have hZq:=heap_setCell_same D5 Z 7 _ _ (.slice sa5 r5.length sc5) hZ;have GG:=qae (i:=7) (v:=.slice sa5 r5.length sc5) G0 hZ1;have tq:=t6.setY (Y:=Z) (i:=7) (v:=.slice sa5 r5.length sc5) (by omega);have hw0:=qay (i:=7) (y:=.slice sa5 r5.length sc5) hv0 hZ;have hw1:=qb2 (i:=7) (y:=.slice sa5 r5.length sc5) hv1 hZ;have hw2:=qb4 (i:=7) (y:=.slice sa5 r5.length sc5) hv2 hZ;have hw3:=qb5 (i:=7) (y:=.slice sa5 r5.length sc5) hv3 hZ;have hw4:=qb6 (i:=7) (y:=.slice sa5 r5.length sc5) hv4 hZ;have hw5:=qbc (i:=7) (y:=.slice sa5 r5.length sc5) hv5 hZ;clear cz fz hZ G0 t6 hv0 hv1 hv2 hv3 hv4 hv5;have hZ:(D5.setCell ⟨Z,7,none⟩ (.slice sa5 r5.length sc5)).heap[Z]?=some (.cells #[I x0,I x1,.slice sa0 r0.length sc0,.slice sa1 r1.length sc1,.slice sa2 r2.length sc2,.slice sa3 r3.length sc3,.slice sa4 r4.length sc4,.slice sa5 r5.length sc5,qZ,I x2,I x3,I x4,I x5] 32):=hZq;have G0:=GG;have t6:=tq;have hv0:=hw0;have hv1:=hw1;have hv2:=hw2;have hv3:=hw3;have hv4:=hw4;have hv5:=hw5;clear GG tq hZq hw0 hw1 hw2 hw3 hw4 hw5;generalize D5.setCell ⟨Z,7,none⟩ (.slice sa5 r5.length sc5)=B6 at *;have cX:=HX.out B6 G0;have hR:=qlq n6 (by omega) t6 50 #[rdP r] #[] (fun _ _=>rfl) (fun W l' j hW ht _=>qsu ht j);rcases hp:qa4 pMs n6 m6 with c | ⟨r6,m7⟩
  ·rw [hp] at hR
   have EE:Hid (pMid l0=.error c):=E0.out.trans (qaj hp);clear hp E0 t6;go_wp2_with (first | (go_at_call 49;refine hR.mono ?_;clear hR;rintro e W3 ⟨rfl,hg⟩));have e9:RT w (pMid l0) (gup c) W3:=by
    rw [EE.out];exact ⟨rfl,HB.out _ (qa1 G0 hg)⟩
   exact ⟨rfl,e9⟩
  rw [hp] at hR;have EE:Hid (pMid l0=(retP (⟨x0,x1,r0,r1,r2,r3,r4,r5,r6,x2,x3,x4,x5⟩:Tb)) m7):=by
   show _=_;rw [E0.out,qa9 hp]
  clear hp E0 t6;have E0:=EE;clear EE;go_upto_region 11 with (first | (go_at_call 49;refine hR.mono ?_;clear hR;rintro e D6 ⟨u,rfl,⟨sa6,sc6,cs,rfl,o,x⟩,t7,g⟩;have hv6:VRMs lo D6 r6 (.slice sa6 r6.length sc6):=⟨_,_,cs,rfl,o,x⟩;clear o x cs;have hZ:=qb8 g hZ hZr;have hv0:=qe5 hv0 hrl g;have hv1:=qen hv1 hrl g;have hv2:=qf9 hv2 hrl g;have hv3:=qga hv3 hrl g;have hv4:=qhp hv4 hrl g;have hv5:=ql0 hv5 hrl g;have G0:=qa1 G0 g;clear g cX;have cz:D6.cell? ⟨Z,8,none⟩=some qZ:=(by rw [qcr hZ];rfl);have fz:D6.frozen? ⟨Z,8,none⟩=false:=frozen_of_row _ _ _ _ _ hZ));have hZq:=heap_setCell_same D6 Z 8 _ _ (.slice sa6 r6.length sc6) hZ;have GG:=qae (i:=8) (v:=.slice sa6 r6.length sc6) G0 hZ1;have tq:=t7.setY (Y:=Z) (i:=8) (v:=.slice sa6 r6.length sc6) (by omega);have hw0:=qay (i:=8) (y:=.slice sa6 r6.length sc6) hv0 hZ;have hw1:=qb2 (i:=8) (y:=.slice sa6 r6.length sc6) hv1 hZ;have hw2:=qb4 (i:=8) (y:=.slice sa6 r6.length sc6) hv2 hZ;have hw3:=qb5 (i:=8) (y:=.slice sa6 r6.length sc6) hv3 hZ;have hw4:=qb6 (i:=8) (y:=.slice sa6 r6.length sc6) hv4 hZ;have hw5:=qbc (i:=8) (y:=.slice sa6 r6.length sc6) hv5 hZ;have hw6:=qbf (i:=8) (y:=.slice sa6 r6.length sc6) hv6 hZ;clear cz fz hZ G0 t7 hv0 hv1 hv2 hv3 hv4 hv5 hv6;have hZ:(D6.setCell ⟨Z,8,none⟩ (.slice sa6 r6.length sc6)).heap[Z]?=some (.cells #[I x0,I x1,.slice sa0 r0.length sc0,.slice sa1 r1.length sc1,.slice sa2 r2.length sc2,.slice sa3 r3.length sc3,.slice sa4 r4.length sc4,.slice sa5 r5.length sc5,.slice sa6 r6.length sc6,I x2,I x3,I x4,I x5] 32):=hZq;have G0:=GG;have t7:=tq;have hv0:=hw0;have hv1:=hw1;have hv2:=hw2;have hv3:=hw3;have hv4:=hw4;have hv5:=hw5;have hv6:=hw6;clear GG tq hZq hw0 hw1 hw2 hw3 hw4 hw5 hw6;generalize D6.setCell ⟨Z,8,none⟩ (.slice sa6 r6.length sc6)=B7 at *;obtain ⟨⟨bb,ra,rcap,rq⟩,-,-⟩:=t7;have cX:=HX.out B7 G0;have hL:=Ob.rleft_made rq;clear rq;cases m7 with
  | cons y ys=>
   have hp0:(0:Int) < ((y :: ys).length:Nat):=by simp
   have e9:RT w (pMid l0) (gup 101) B7:=by
    rw [E0.out];exact ⟨rfl,HB.out _ G0⟩
   clear E0 hv0 hv1 hv2 hv3 hv4 hv5 hv6;generalize (y :: ys).length=len at *;go_wp2_with (first | (go_at_call 51;refine hL.mono ?_;clear hL;rintro e w9 ⟨rfl,hw9⟩;rw [←hw9];clear hw9) | (go_at_call 52;refine (qfg _ 101).mono ?_;rintro e w3 ⟨rfl,hw3⟩;rw [hw3];clear hw3));exact ⟨rfl,e9⟩
  | nil=>
   have hY:=HY.out B7 G0;have cz0:B7.cell? ⟨Z,0,none⟩=some (I x0):=by rw [qcr hZ];rfl
   have cz1:B7.cell? ⟨Z,1,none⟩=some (I x1):=by rw [qcr hZ];rfl
   have cz2:B7.cell? ⟨Z,2,none⟩=some (.slice sa0 r0.length sc0):=by rw [qcr hZ];rfl
   have cz3:B7.cell? ⟨Z,3,none⟩=some (.slice sa1 r1.length sc1):=by rw [qcr hZ];rfl
   have cz4:B7.cell? ⟨Z,4,none⟩=some (.slice sa2 r2.length sc2):=by rw [qcr hZ];rfl
   have cz5:B7.cell? ⟨Z,5,none⟩=some (.slice sa3 r3.length sc3):=by rw [qcr hZ];rfl
   have cz6:B7.cell? ⟨Z,6,none⟩=some (.slice sa4 r4.length sc4):=by rw [qcr hZ];rfl
   have cz7:B7.cell? ⟨Z,7,none⟩=some (.slice sa5 r5.length sc5):=by rw [qcr hZ];rfl
   have cz8:B7.cell? ⟨Z,8,none⟩=some (.slice sa6 r6.length sc6):=by rw [qcr hZ];rfl
   have cz9:B7.cell? ⟨Z,9,none⟩=some (I x2):=by rw [qcr hZ];rfl
   have cz10:B7.cell? ⟨Z,10,none⟩=some (I x3):=by rw [qcr hZ];rfl
   have cz11:B7.cell? ⟨Z,11,none⟩=some (I x4):=by rw [qcr hZ];rfl
   have cz12:B7.cell? ⟨Z,12,none⟩=some (I x5):=by rw [qcr hZ];rfl
   obtain ⟨⟨kY0,cY0,fY0⟩,⟨kY1,cY1,fY1⟩,⟨kY2,cY2,fY2⟩,⟨kY3,cY3,fY3⟩,⟨kY4,cY4,fY4⟩,⟨kY5,cY5,fY5⟩,⟨kY6,cY6,fY6⟩,⟨kY7,cY7,fY7⟩,⟨kY8,cY8,fY8⟩,⟨kY9,cY9,fY9⟩,⟨kY10,cY10,fY10⟩,⟨kY11,cY11,fY11⟩,⟨kY12,cY12,fY12⟩,hY13⟩:=qeh (I x0) (I x1) (.slice sa0 r0.length sc0) (.slice sa1 r1.length sc1) (.slice sa2 r2.length sc2) (.slice sa3 r3.length sc3) (.slice sa4 r4.length sc4) (.slice sa5 r5.length sc5) (.slice sa6 r6.length sc6) (I x2) (I x3) (I x4) (I x5) hY;have hEnd:RT w (pMid l0) (.returned (.agg #[I x0,I x1,.slice sa0 r0.length sc0,.slice sa1 r1.length sc1,.slice sa2 r2.length sc2,.slice sa3 r3.length sc3,.slice sa4 r4.length sc4,.slice sa5 r5.length sc5,.slice sa6 r6.length sc6,I x2,I x3,I x4,I x5])) ((((((((((((((B7).setCell ⟨w.heap.size,0,none⟩ (I x0)).setCell ⟨w.heap.size,1,none⟩ (I x1)).setCell ⟨w.heap.size,2,none⟩ (.slice sa0 r0.length sc0)).setCell ⟨w.heap.size,3,none⟩ (.slice sa1 r1.length sc1)).setCell ⟨w.heap.size,4,none⟩ (.slice sa2 r2.length sc2)).setCell ⟨w.heap.size,5,none⟩ (.slice sa3 r3.length sc3)).setCell ⟨w.heap.size,6,none⟩ (.slice sa4 r4.length sc4)).setCell ⟨w.heap.size,7,none⟩ (.slice sa5 r5.length sc5)).setCell ⟨w.heap.size,8,none⟩ (.slice sa6 r6.length sc6)).setCell ⟨w.heap.size,9,none⟩ (I x2)).setCell ⟨w.heap.size,10,none⟩ (I x3)).setCell ⟨w.heap.size,11,none⟩ (I x4)).setCell ⟨w.heap.size,12,none⟩ (I x5)):=by
    rw [E0.out];exact ⟨(⟨⟨sa0,r0.length,sc0⟩,⟨sa1,r1.length,sc1⟩,⟨sa2,r2.length,sc2⟩,⟨sa3,r3.length,sc3⟩,⟨sa4,r4.length,sc4⟩,⟨sa5,r5.length,sc5⟩,⟨sa6,r6.length,sc6⟩⟩:Ts),lo,by omega,rfl,⟨(qay (qay (qay (qay (qay (qay (qay (qay (qay (qay (qay (qay (qay hv0 kY0) kY1) kY2) kY3) kY4) kY5) kY6) kY7) kY8) kY9) kY10) kY11) kY12),(qb2 (qb2 (qb2 (qb2 (qb2 (qb2 (qb2 (qb2 (qb2 (qb2 (qb2 (qb2 (qb2 hv1 kY0) kY1) kY2) kY3) kY4) kY5) kY6) kY7) kY8) kY9) kY10) kY11) kY12),(qb4 (qb4 (qb4 (qb4 (qb4 (qb4 (qb4 (qb4 (qb4 (qb4 (qb4 (qb4 (qb4 hv2 kY0) kY1) kY2) kY3) kY4) kY5) kY6) kY7) kY8) kY9) kY10) kY11) kY12),(qb5 (qb5 (qb5 (qb5 (qb5 (qb5 (qb5 (qb5 (qb5 (qb5 (qb5 (qb5 (qb5 hv3 kY0) kY1) kY2) kY3) kY4) kY5) kY6) kY7) kY8) kY9) kY10) kY11) kY12),(qb6 (qb6 (qb6 (qb6 (qb6 (qb6 (qb6 (qb6 (qb6 (qb6 (qb6 (qb6 (qb6 hv4 kY0) kY1) kY2) kY3) kY4) kY5) kY6) kY7) kY8) kY9) kY10) kY11) kY12),(qbc (qbc (qbc (qbc (qbc (qbc (qbc (qbc (qbc (qbc (qbc (qbc (qbc hv5 kY0) kY1) kY2) kY3) kY4) kY5) kY6) kY7) kY8) kY9) kY10) kY11) kY12),(qbf (qbf (qbf (qbf (qbf (qbf (qbf (qbf (qbf (qbf (qbf (qbf (qbf hv6 kY0) kY1) kY2) kY3) kY4) kY5) kY6) kY7) kY8) kY9) kY10) kY11) kY12)⟩,(Bset ((Bset ((Bset ((Bset ((Bset ((Bset ((Bset ((Bset ((Bset ((Bset ((Bset ((Bset ((Bset (HB.out B7 G0) (Nat.le_refl _))) (Nat.le_refl _))) (Nat.le_refl _))) (Nat.le_refl _))) (Nat.le_refl _))) (Nat.le_refl _))) (Nat.le_refl _))) (Nat.le_refl _))) (Nat.le_refl _))) (Nat.le_refl _))) (Nat.le_refl _))) (Nat.le_refl _))) (Nat.le_refl _))⟩
   have hYL:((((((((((((((B7).setCell ⟨w.heap.size,0,none⟩ (I x0)).setCell ⟨w.heap.size,1,none⟩ (I x1)).setCell ⟨w.heap.size,2,none⟩ (.slice sa0 r0.length sc0)).setCell ⟨w.heap.size,3,none⟩ (.slice sa1 r1.length sc1)).setCell ⟨w.heap.size,4,none⟩ (.slice sa2 r2.length sc2)).setCell ⟨w.heap.size,5,none⟩ (.slice sa3 r3.length sc3)).setCell ⟨w.heap.size,6,none⟩ (.slice sa4 r4.length sc4)).setCell ⟨w.heap.size,7,none⟩ (.slice sa5 r5.length sc5)).setCell ⟨w.heap.size,8,none⟩ (.slice sa6 r6.length sc6)).setCell ⟨w.heap.size,9,none⟩ (I x2)).setCell ⟨w.heap.size,10,none⟩ (I x3)).setCell ⟨w.heap.size,11,none⟩ (I x4)).setCell ⟨w.heap.size,12,none⟩ (I x5)).heap[w.heap.size]?=some (.cells #[I x0,I x1,.slice sa0 r0.length sc0,.slice sa1 r1.length sc1,.slice sa2 r2.length sc2,.slice sa3 r3.length sc3,.slice sa4 r4.length sc4,.slice sa5 r5.length sc5,.slice sa6 r6.length sc6,I x2,I x3,I x4,I x5] 32):=hY13;clear E0 hY hv0 hv1 hv2 hv3 hv4 hv5 hv6 kY0 kY1 kY2 kY3 kY4 kY5 kY6 kY7 kY8 kY9 kY10 kY11 kY12;have hL0:Calls Tryz.prog 51 #[.pointer (some ⟨r,0,none⟩)] B7 fun e w'=>e=.returned (.int .i64 0)∧B7=w':=hL
   clear hL;go_wp2_with (first | (go_at_call 51;refine hL0.mono ?_;clear hL0;rintro e w9 ⟨rfl,hw9⟩;rw [←hw9];clear hw9));refine bodyPost_ret (qjn Tryz.results16 _ w.heap.size _ _ _ _ _ _ _ _ _ _ _ _ _ _ rfl hYL) rfl ?_;exact hEnd
 have K6F:Hid (∀(W:World) (x0:Int) (x1:Int) (x2:Int) (x3:Int) (x4:Int) (x5:Int) (l:List UInt8),(Rst W lo r l)→(w1.grownBy W (some r))→(pMid l0=(andP (qa4 pTk n0) fun r0=>andP (qa4 pRg n1) fun r1=>andP (qa4 pRs n2) fun r2=>andP (qa4 pCt n3) fun r3=>andP (qa4 pAl n4) fun r4=>andP (qa4 pIs n5) fun r5=>andP (qa4 pMs n6) fun r6=>retP (⟨x0,x1,r0,r1,r2,r3,r4,r5,r6,x2,x3,x4,x5⟩:Tb)) l)→G 2 #[true,true,true,true,true,true,true,true,true,true,true,true,true,false,false] (((((((A.setIfInBounds 34 (I x0)).setIfInBounds 36 (I x1)).setIfInBounds 38 (I x2)).setIfInBounds 40 (I x3)).setIfInBounds 42 (I x4)).setIfInBounds 44 (I x5)).setIfInBounds 45 (.agg #[I x0,I x1,qZ,qZ,qZ,qZ,qZ,qZ,qZ,I x2,I x3,I x4,I x5])) W):=fun W x0 x1 x2 x3 x4 x5 l tt gg ee=>by
  have hA:=HA.out;subst hA;clear E0;rw [HG.out];try simp only [qN]
  refine qW [13] ?_;refine qK (fun K hK=>?_) ?_
  ·go_simp
   have hh:=qah (r:=some r) (qa0 W (.cells qV 32));refine hK.out _ _ (HX.out _ (qa1 gg hh)) (fun _=>?_);try simp only [qN]
   have hq:=K6T.out (W.alloc (.cells qV 32)) x0 x1 x2 x3 x4 x5 l W.heap.size (tt.al _) (qa1 gg hh) ee (heap_alloc_new _ _) gg.size;simp only [qN] at hq;exact (HG.out _ _ _ _).mp hq
  exact qn
 have K5T:Hid (∀(W:World) (x0:Int) (x1:Int) (x2:Int) (x3:Int) (x4:Int) (l:List UInt8) (Z:Nat),(Rst W lo r l)→(w1.grownBy W (some r))→(pMid l0=(andP p1 fun x5=>andP (qa4 pTk n0) fun r0=>andP (qa4 pRg n1) fun r1=>andP (qa4 pRs n2) fun r2=>andP (qa4 pCt n3) fun r3=>andP (qa4 pAl n4) fun r4=>andP (qa4 pIs n5) fun r5=>andP (qa4 pMs n6) fun r6=>retP (⟨x0,x1,r0,r1,r2,r3,r4,r5,r6,x2,x3,x4,x5⟩:Tb)) l)→(W.heap[Z]?=some (.cells qV 32))→(w1.heap.size≤Z)→G 3 #[true,true,true,true,true,true,true,true,true,true,true,false,false,true,false] ((((((A.setIfInBounds 11 (.pointer (some ⟨Z,0,none⟩))).setIfInBounds 34 (I x0)).setIfInBounds 36 (I x1)).setIfInBounds 38 (I x2)).setIfInBounds 40 (I x3)).setIfInBounds 42 (I x4)) W):=fun W x0 x1 x2 x3 x4 l Z tt gg ee hZ hZ1=>by
  have hA:=HA.out;subst hA;clear E0;rw [HG.out];try simp only [qN]
  refine qW [11] ?_;refine qK (fun K hK=>?_) ?_
  ·go_simp
   refine (qbd tt).mono ?_;intro e W1 hR;rcases hp:p1 l with c | ⟨x5,l1⟩
   ·rw [hp] at hR
    obtain ⟨rfl,hg⟩:=qar hR;have e9:RT w (pMid l0) (gup c) W1:=by
     rw [ee,qaj hp];exact ⟨rfl,HB.out _ (qa1 gg hg)⟩
    exact ⟨rfl,e9⟩
   ·rw [hp] at hR
    obtain ⟨u1,rfl,hv,t1,g1⟩:=qaq hR;have q:u1=I x5:=hv;subst q;refine hK.out _ _ (HX.out W1 (qa1 gg g1)) (fun _=>?_);try simp only [qN]
    refine wpAnyH_take (i:=12) (v:=.agg #[I x0,I x1,qZ,qZ,qZ,qZ,qZ,qZ,qZ,I x2,I x3,I x4,I x5]) rfl (by kernel_rfl) (by kernel_rfl) (by kernel_rfl) (fun _ _ _ h=>h) (Or.inl ⟨by rfl,?_⟩) (HX.out W1 (qa1 gg g1)) ?_
    ·intro w' hSw
     try dsimp only at hSw
     go_simp
    try simp only [qN]
    have hq:=K6T.out W1 x0 x1 x2 x3 x4 x5 l1 Z t1 (qa1 gg g1) (ee.trans (qa9 hp)) (qb8 g1 hZ (by omega)) hZ1;simp only [qN] at hq;exact (HG.out _ _ _ _).mp hq
  exact qn
 have K5F:Hid (∀(W:World) (x0:Int) (x1:Int) (x2:Int) (x3:Int) (x4:Int) (l:List UInt8),(Rst W lo r l)→(w1.grownBy W (some r))→(pMid l0=(andP p1 fun x5=>andP (qa4 pTk n0) fun r0=>andP (qa4 pRg n1) fun r1=>andP (qa4 pRs n2) fun r2=>andP (qa4 pCt n3) fun r3=>andP (qa4 pAl n4) fun r4=>andP (qa4 pIs n5) fun r5=>andP (qa4 pMs n6) fun r6=>retP (⟨x0,x1,r0,r1,r2,r3,r4,r5,r6,x2,x3,x4,x5⟩:Tb)) l)→G 4 #[true,true,true,true,true,true,true,true,true,true,true,false,false,false,false] (((((A.setIfInBounds 34 (I x0)).setIfInBounds 36 (I x1)).setIfInBounds 38 (I x2)).setIfInBounds 40 (I x3)).setIfInBounds 42 (I x4)) W):=fun W x0 x1 x2 x3 x4 l tt gg ee=>by
  have hA:=HA.out;subst hA;clear E0;rw [HG.out];try simp only [qN]
  refine qW [11,13] ?_;refine qK (fun K hK=>?_) ?_
  ·go_simp
   refine (qbd tt).mono ?_;intro e W1 hR;rcases hp:p1 l with c | ⟨x5,l1⟩
   ·rw [hp] at hR
    obtain ⟨rfl,hg⟩:=qar hR;have e9:RT w (pMid l0) (gup c) W1:=by
     rw [ee,qaj hp];exact ⟨rfl,HB.out _ (qa1 gg hg)⟩
    exact ⟨rfl,e9⟩
   ·rw [hp] at hR
    obtain ⟨u1,rfl,hv,t1,g1⟩:=qaq hR;have q:u1=I x5:=hv;subst q;refine hK.out _ _ (HX.out W1 (qa1 gg g1)) (fun _=>?_);try simp only [qN]
    refine wpAnyH_take (i:=12) (v:=.agg #[I x0,I x1,qZ,qZ,qZ,qZ,qZ,qZ,qZ,I x2,I x3,I x4,I x5]) rfl (by kernel_rfl) (by kernel_rfl) (by kernel_rfl) (fun _ _ _ h=>h) (Or.inl ⟨by rfl,?_⟩) (HX.out W1 (qa1 gg g1)) ?_
    ·intro w' hSw
     try dsimp only at hSw
     go_simp
    try simp only [qN]
    have hq:=K6F.out W1 x0 x1 x2 x3 x4 x5 l1  t1 (qa1 gg g1) (ee.trans (qa9 hp));simp only [qN] at hq;exact (HG.out _ _ _ _).mp hq
  refine qK (fun K hK=>?_) ?_
  ·go_simp
   have hh:=qah (r:=some r) (qa0 W (.cells qV 32));refine hK.out _ _ (HX.out _ (qa1 gg hh)) (fun _=>?_);try simp only [qN]
   have hq:=K5T.out (W.alloc (.cells qV 32)) x0 x1 x2 x3 x4 l W.heap.size (tt.al _) (qa1 gg hh) ee (heap_alloc_new _ _) gg.size;simp only [qN] at hq;exact (HG.out _ _ _ _).mp hq
  exact qn
 have K4T:Hid (∀(W:World) (x0:Int) (x1:Int) (x2:Int) (x3:Int) (l:List UInt8) (Z:Nat),(Rst W lo r l)→(w1.grownBy W (some r))→(pMid l0=(andP p1 fun x4=>andP p1 fun x5=>andP (qa4 pTk n0) fun r0=>andP (qa4 pRg n1) fun r1=>andP (qa4 pRs n2) fun r2=>andP (qa4 pCt n3) fun r3=>andP (qa4 pAl n4) fun r4=>andP (qa4 pIs n5) fun r5=>andP (qa4 pMs n6) fun r6=>retP (⟨x0,x1,r0,r1,r2,r3,r4,r5,r6,x2,x3,x4,x5⟩:Tb)) l)→(W.heap[Z]?=some (.cells qV 32))→(w1.heap.size≤Z)→G 4 #[true,true,true,true,true,true,true,true,true,false,true,false,false,true,false] (((((A.setIfInBounds 11 (.pointer (some ⟨Z,0,none⟩))).setIfInBounds 34 (I x0)).setIfInBounds 36 (I x1)).setIfInBounds 38 (I x2)).setIfInBounds 40 (I x3)) W):=fun W x0 x1 x2 x3 l Z tt gg ee hZ hZ1=>by
  have hA:=HA.out;subst hA;clear E0;rw [HG.out];try simp only [qN]
  refine qW [9] ?_;refine qK (fun K hK=>?_) ?_
  ·go_simp
   refine (qbd tt).mono ?_;intro e W1 hR;rcases hp:p1 l with c | ⟨x4,l1⟩
   ·rw [hp] at hR
    obtain ⟨rfl,hg⟩:=qar hR;have e9:RT w (pMid l0) (gup c) W1:=by
     rw [ee,qaj hp];exact ⟨rfl,HB.out _ (qa1 gg hg)⟩
    exact ⟨rfl,e9⟩
   ·rw [hp] at hR
    obtain ⟨u1,rfl,hv,t1,g1⟩:=qaq hR;have q:u1=I x4:=hv;subst q;refine hK.out _ _ (HX.out W1 (qa1 gg g1)) (fun _=>?_);try simp only [qN]
    have hq:=K5T.out W1 x0 x1 x2 x3 x4 l1 Z t1 (qa1 gg g1) (ee.trans (qa9 hp)) (qb8 g1 hZ (by omega)) hZ1;simp only [qN] at hq;exact (HG.out _ _ _ _).mp hq
  exact qn
 have K4F:Hid (∀(W:World) (x0:Int) (x1:Int) (x2:Int) (x3:Int) (l:List UInt8),(Rst W lo r l)→(w1.grownBy W (some r))→(pMid l0=(andP p1 fun x4=>andP p1 fun x5=>andP (qa4 pTk n0) fun r0=>andP (qa4 pRg n1) fun r1=>andP (qa4 pRs n2) fun r2=>andP (qa4 pCt n3) fun r3=>andP (qa4 pAl n4) fun r4=>andP (qa4 pIs n5) fun r5=>andP (qa4 pMs n6) fun r6=>retP (⟨x0,x1,r0,r1,r2,r3,r4,r5,r6,x2,x3,x4,x5⟩:Tb)) l)→G 5 #[true,true,true,true,true,true,true,true,true,false,true,false,false,false,false] ((((A.setIfInBounds 34 (I x0)).setIfInBounds 36 (I x1)).setIfInBounds 38 (I x2)).setIfInBounds 40 (I x3)) W):=fun W x0 x1 x2 x3 l tt gg ee=>by
  have hA:=HA.out;subst hA;clear E0;rw [HG.out];try simp only [qN]
  refine qW [9,13] ?_;refine qK (fun K hK=>?_) ?_
  ·go_simp
   refine (qbd tt).mono ?_;intro e W1 hR;rcases hp:p1 l with c | ⟨x4,l1⟩
   ·rw [hp] at hR
    obtain ⟨rfl,hg⟩:=qar hR;have e9:RT w (pMid l0) (gup c) W1:=by
     rw [ee,qaj hp];exact ⟨rfl,HB.out _ (qa1 gg hg)⟩
    exact ⟨rfl,e9⟩
   ·rw [hp] at hR
    obtain ⟨u1,rfl,hv,t1,g1⟩:=qaq hR;have q:u1=I x4:=hv;subst q;refine hK.out _ _ (HX.out W1 (qa1 gg g1)) (fun _=>?_);try simp only [qN]
    have hq:=K5F.out W1 x0 x1 x2 x3 x4 l1  t1 (qa1 gg g1) (ee.trans (qa9 hp));simp only [qN] at hq;exact (HG.out _ _ _ _).mp hq
  refine qK (fun K hK=>?_) ?_
  ·go_simp
   have hh:=qah (r:=some r) (qa0 W (.cells qV 32));refine hK.out _ _ (HX.out _ (qa1 gg hh)) (fun _=>?_);try simp only [qN]
   have hq:=K4T.out (W.alloc (.cells qV 32)) x0 x1 x2 x3 l W.heap.size (tt.al _) (qa1 gg hh) ee (heap_alloc_new _ _) gg.size;simp only [qN] at hq;exact (HG.out _ _ _ _).mp hq
  exact qn
 have K3T:Hid (∀(W:World) (x0:Int) (x1:Int) (x2:Int) (l:List UInt8) (Z:Nat),(Rst W lo r l)→(w1.grownBy W (some r))→(pMid l0=(andP p1 fun x3=>andP p1 fun x4=>andP p1 fun x5=>andP (qa4 pTk n0) fun r0=>andP (qa4 pRg n1) fun r1=>andP (qa4 pRs n2) fun r2=>andP (qa4 pCt n3) fun r3=>andP (qa4 pAl n4) fun r4=>andP (qa4 pIs n5) fun r5=>andP (qa4 pMs n6) fun r6=>retP (⟨x0,x1,r0,r1,r2,r3,r4,r5,r6,x2,x3,x4,x5⟩:Tb)) l)→(W.heap[Z]?=some (.cells qV 32))→(w1.heap.size≤Z)→G 5 #[true,true,true,true,true,true,true,false,true,false,true,false,false,true,false] ((((A.setIfInBounds 11 (.pointer (some ⟨Z,0,none⟩))).setIfInBounds 34 (I x0)).setIfInBounds 36 (I x1)).setIfInBounds 38 (I x2)) W):=fun W x0 x1 x2 l Z tt gg ee hZ hZ1=>by
  have hA:=HA.out;subst hA;clear E0;rw [HG.out];try simp only [qN]
  refine qW [7] ?_;refine qK (fun K hK=>?_) ?_
  ·go_simp
   refine (qbd tt).mono ?_;intro e W1 hR;rcases hp:p1 l with c | ⟨x3,l1⟩
   ·rw [hp] at hR
    obtain ⟨rfl,hg⟩:=qar hR;have e9:RT w (pMid l0) (gup c) W1:=by
     rw [ee,qaj hp];exact ⟨rfl,HB.out _ (qa1 gg hg)⟩
    exact ⟨rfl,e9⟩
   ·rw [hp] at hR
    obtain ⟨u1,rfl,hv,t1,g1⟩:=qaq hR;have q:u1=I x3:=hv;subst q;refine hK.out _ _ (HX.out W1 (qa1 gg g1)) (fun _=>?_);try simp only [qN]
    have hq:=K4T.out W1 x0 x1 x2 x3 l1 Z t1 (qa1 gg g1) (ee.trans (qa9 hp)) (qb8 g1 hZ (by omega)) hZ1;simp only [qN] at hq;exact (HG.out _ _ _ _).mp hq
  exact qn
 have K3F:Hid (∀(W:World) (x0:Int) (x1:Int) (x2:Int) (l:List UInt8),(Rst W lo r l)→(w1.grownBy W (some r))→(pMid l0=(andP p1 fun x3=>andP p1 fun x4=>andP p1 fun x5=>andP (qa4 pTk n0) fun r0=>andP (qa4 pRg n1) fun r1=>andP (qa4 pRs n2) fun r2=>andP (qa4 pCt n3) fun r3=>andP (qa4 pAl n4) fun r4=>andP (qa4 pIs n5) fun r5=>andP (qa4 pMs n6) fun r6=>retP (⟨x0,x1,r0,r1,r2,r3,r4,r5,r6,x2,x3,x4,x5⟩:Tb)) l)→G 6 #[true,true,true,true,true,true,true,false,true,false,true,false,false,false,false] (((A.setIfInBounds 34 (I x0)).setIfInBounds 36 (I x1)).setIfInBounds 38 (I x2)) W):=fun W x0 x1 x2 l tt gg ee=>by
  have hA:=HA.out;subst hA;clear E0;rw [HG.out];try simp only [qN]
  refine qW [7,13] ?_;refine qK (fun K hK=>?_) ?_
  ·go_simp
   refine (qbd tt).mono ?_;intro e W1 hR;rcases hp:p1 l with c | ⟨x3,l1⟩
   ·rw [hp] at hR
    obtain ⟨rfl,hg⟩:=qar hR;have e9:RT w (pMid l0) (gup c) W1:=by
     rw [ee,qaj hp];exact ⟨rfl,HB.out _ (qa1 gg hg)⟩
    exact ⟨rfl,e9⟩
   ·rw [hp] at hR
    obtain ⟨u1,rfl,hv,t1,g1⟩:=qaq hR;have q:u1=I x3:=hv;subst q;refine hK.out _ _ (HX.out W1 (qa1 gg g1)) (fun _=>?_);try simp only [qN]
    have hq:=K4F.out W1 x0 x1 x2 x3 l1  t1 (qa1 gg g1) (ee.trans (qa9 hp));simp only [qN] at hq;exact (HG.out _ _ _ _).mp hq
  refine qK (fun K hK=>?_) ?_
  ·go_simp
   have hh:=qah (r:=some r) (qa0 W (.cells qV 32));refine hK.out _ _ (HX.out _ (qa1 gg hh)) (fun _=>?_);try simp only [qN]
   have hq:=K3T.out (W.alloc (.cells qV 32)) x0 x1 x2 l W.heap.size (tt.al _) (qa1 gg hh) ee (heap_alloc_new _ _) gg.size;simp only [qN] at hq;exact (HG.out _ _ _ _).mp hq
  exact qn
 have K2T:Hid (∀(W:World) (x0:Int) (x1:Int) (l:List UInt8) (Z:Nat),(Rst W lo r l)→(w1.grownBy W (some r))→(pMid l0=(andP p1 fun x2=>andP p1 fun x3=>andP p1 fun x4=>andP p1 fun x5=>andP (qa4 pTk n0) fun r0=>andP (qa4 pRg n1) fun r1=>andP (qa4 pRs n2) fun r2=>andP (qa4 pCt n3) fun r3=>andP (qa4 pAl n4) fun r4=>andP (qa4 pIs n5) fun r5=>andP (qa4 pMs n6) fun r6=>retP (⟨x0,x1,r0,r1,r2,r3,r4,r5,r6,x2,x3,x4,x5⟩:Tb)) l)→(W.heap[Z]?=some (.cells qV 32))→(w1.heap.size≤Z)→G 6 #[true,true,true,true,true,false,true,false,true,false,true,false,false,true,false] (((A.setIfInBounds 11 (.pointer (some ⟨Z,0,none⟩))).setIfInBounds 34 (I x0)).setIfInBounds 36 (I x1)) W):=fun W x0 x1 l Z tt gg ee hZ hZ1=>by
  have hA:=HA.out;subst hA;clear E0;rw [HG.out];try simp only [qN]
  refine qW [5] ?_;refine qK (fun K hK=>?_) ?_
  ·go_simp
   refine (qbd tt).mono ?_;intro e W1 hR;rcases hp:p1 l with c | ⟨x2,l1⟩
   ·rw [hp] at hR
    obtain ⟨rfl,hg⟩:=qar hR;have e9:RT w (pMid l0) (gup c) W1:=by
     rw [ee,qaj hp];exact ⟨rfl,HB.out _ (qa1 gg hg)⟩
    exact ⟨rfl,e9⟩
   ·rw [hp] at hR
    obtain ⟨u1,rfl,hv,t1,g1⟩:=qaq hR;have q:u1=I x2:=hv;subst q;refine hK.out _ _ (HX.out W1 (qa1 gg g1)) (fun _=>?_);try simp only [qN]
    have hq:=K3T.out W1 x0 x1 x2 l1 Z t1 (qa1 gg g1) (ee.trans (qa9 hp)) (qb8 g1 hZ (by omega)) hZ1;simp only [qN] at hq;exact (HG.out _ _ _ _).mp hq
  exact qn
 have K2F:Hid (∀(W:World) (x0:Int) (x1:Int) (l:List UInt8),(Rst W lo r l)→(w1.grownBy W (some r))→(pMid l0=(andP p1 fun x2=>andP p1 fun x3=>andP p1 fun x4=>andP p1 fun x5=>andP (qa4 pTk n0) fun r0=>andP (qa4 pRg n1) fun r1=>andP (qa4 pRs n2) fun r2=>andP (qa4 pCt n3) fun r3=>andP (qa4 pAl n4) fun r4=>andP (qa4 pIs n5) fun r5=>andP (qa4 pMs n6) fun r6=>retP (⟨x0,x1,r0,r1,r2,r3,r4,r5,r6,x2,x3,x4,x5⟩:Tb)) l)→G 7 #[true,true,true,true,true,false,true,false,true,false,true,false,false,false,false] ((A.setIfInBounds 34 (I x0)).setIfInBounds 36 (I x1)) W):=fun W x0 x1 l tt gg ee=>by
  have hA:=HA.out;subst hA;clear E0;rw [HG.out];try simp only [qN]
  refine qW [5,13] ?_;refine qK (fun K hK=>?_) ?_
  ·go_simp
   refine (qbd tt).mono ?_;intro e W1 hR;rcases hp:p1 l with c | ⟨x2,l1⟩
   ·rw [hp] at hR
    obtain ⟨rfl,hg⟩:=qar hR;have e9:RT w (pMid l0) (gup c) W1:=by
     rw [ee,qaj hp];exact ⟨rfl,HB.out _ (qa1 gg hg)⟩
    exact ⟨rfl,e9⟩
   ·rw [hp] at hR
    obtain ⟨u1,rfl,hv,t1,g1⟩:=qaq hR;have q:u1=I x2:=hv;subst q;refine hK.out _ _ (HX.out W1 (qa1 gg g1)) (fun _=>?_);try simp only [qN]
    have hq:=K3F.out W1 x0 x1 x2 l1  t1 (qa1 gg g1) (ee.trans (qa9 hp));simp only [qN] at hq;exact (HG.out _ _ _ _).mp hq
  refine qK (fun K hK=>?_) ?_
  ·go_simp
   have hh:=qah (r:=some r) (qa0 W (.cells qV 32));refine hK.out _ _ (HX.out _ (qa1 gg hh)) (fun _=>?_);try simp only [qN]
   have hq:=K2T.out (W.alloc (.cells qV 32)) x0 x1 l W.heap.size (tt.al _) (qa1 gg hh) ee (heap_alloc_new _ _) gg.size;simp only [qN] at hq;exact (HG.out _ _ _ _).mp hq
  exact qn
 have K1T:Hid (∀(W:World) (x0:Int) (l:List UInt8) (Z:Nat),(Rst W lo r l)→(w1.grownBy W (some r))→(pMid l0=(andP p1 fun x1=>andP p1 fun x2=>andP p1 fun x3=>andP p1 fun x4=>andP p1 fun x5=>andP (qa4 pTk n0) fun r0=>andP (qa4 pRg n1) fun r1=>andP (qa4 pRs n2) fun r2=>andP (qa4 pCt n3) fun r3=>andP (qa4 pAl n4) fun r4=>andP (qa4 pIs n5) fun r5=>andP (qa4 pMs n6) fun r6=>retP (⟨x0,x1,r0,r1,r2,r3,r4,r5,r6,x2,x3,x4,x5⟩:Tb)) l)→(W.heap[Z]?=some (.cells qV 32))→(w1.heap.size≤Z)→G 7 #[true,true,true,false,true,false,true,false,true,false,true,false,false,true,false] ((A.setIfInBounds 11 (.pointer (some ⟨Z,0,none⟩))).setIfInBounds 34 (I x0)) W):=fun W x0 l Z tt gg ee hZ hZ1=>by
  have hA:=HA.out;subst hA;clear E0;rw [HG.out];try simp only [qN]
  refine qW [3] ?_;refine qK (fun K hK=>?_) ?_
  ·go_simp
   refine (qbd tt).mono ?_;intro e W1 hR;rcases hp:p1 l with c | ⟨x1,l1⟩
   ·rw [hp] at hR
    obtain ⟨rfl,hg⟩:=qar hR;have e9:RT w (pMid l0) (gup c) W1:=by
     rw [ee,qaj hp];exact ⟨rfl,HB.out _ (qa1 gg hg)⟩
    exact ⟨rfl,e9⟩
   ·rw [hp] at hR
    obtain ⟨u1,rfl,hv,t1,g1⟩:=qaq hR;have q:u1=I x1:=hv;subst q;refine hK.out _ _ (HX.out W1 (qa1 gg g1)) (fun _=>?_);try simp only [qN]
    have hq:=K2T.out W1 x0 x1 l1 Z t1 (qa1 gg g1) (ee.trans (qa9 hp)) (qb8 g1 hZ (by omega)) hZ1;simp only [qN] at hq;exact (HG.out _ _ _ _).mp hq
  exact qn
 have K1F:Hid (∀(W:World) (x0:Int) (l:List UInt8),(Rst W lo r l)→(w1.grownBy W (some r))→(pMid l0=(andP p1 fun x1=>andP p1 fun x2=>andP p1 fun x3=>andP p1 fun x4=>andP p1 fun x5=>andP (qa4 pTk n0) fun r0=>andP (qa4 pRg n1) fun r1=>andP (qa4 pRs n2) fun r2=>andP (qa4 pCt n3) fun r3=>andP (qa4 pAl n4) fun r4=>andP (qa4 pIs n5) fun r5=>andP (qa4 pMs n6) fun r6=>retP (⟨x0,x1,r0,r1,r2,r3,r4,r5,r6,x2,x3,x4,x5⟩:Tb)) l)→G 8 #[true,true,true,false,true,false,true,false,true,false,true,false,false,false,false] (A.setIfInBounds 34 (I x0)) W):=fun W x0 l tt gg ee=>by
  have hA:=HA.out;subst hA;clear E0;rw [HG.out];try simp only [qN]
  refine qW [3,13] ?_;refine qK (fun K hK=>?_) ?_
  ·go_simp
   refine (qbd tt).mono ?_;intro e W1 hR;rcases hp:p1 l with c | ⟨x1,l1⟩
   ·rw [hp] at hR
    obtain ⟨rfl,hg⟩:=qar hR;have e9:RT w (pMid l0) (gup c) W1:=by
     rw [ee,qaj hp];exact ⟨rfl,HB.out _ (qa1 gg hg)⟩
    exact ⟨rfl,e9⟩
   ·rw [hp] at hR
    obtain ⟨u1,rfl,hv,t1,g1⟩:=qaq hR;have q:u1=I x1:=hv;subst q;refine hK.out _ _ (HX.out W1 (qa1 gg g1)) (fun _=>?_);try simp only [qN]
    have hq:=K2F.out W1 x0 x1 l1  t1 (qa1 gg g1) (ee.trans (qa9 hp));simp only [qN] at hq;exact (HG.out _ _ _ _).mp hq
  refine qK (fun K hK=>?_) ?_
  ·go_simp
   have hh:=qah (r:=some r) (qa0 W (.cells qV 32));refine hK.out _ _ (HX.out _ (qa1 gg hh)) (fun _=>?_);try simp only [qN]
   have hq:=K1T.out (W.alloc (.cells qV 32)) x0 l W.heap.size (tt.al _) (qa1 gg hh) ee (heap_alloc_new _ _) gg.size;simp only [qN] at hq;exact (HG.out _ _ _ _).mp hq
  exact qn
 have K0T:Hid (∀(W:World) (l:List UInt8) (Z:Nat),(Rst W lo r l)→(w1.grownBy W (some r))→(pMid l0=(andP p1 fun x0=>andP p1 fun x1=>andP p1 fun x2=>andP p1 fun x3=>andP p1 fun x4=>andP p1 fun x5=>andP (qa4 pTk n0) fun r0=>andP (qa4 pRg n1) fun r1=>andP (qa4 pRs n2) fun r2=>andP (qa4 pCt n3) fun r3=>andP (qa4 pAl n4) fun r4=>andP (qa4 pIs n5) fun r5=>andP (qa4 pMs n6) fun r6=>retP (⟨x0,x1,r0,r1,r2,r3,r4,r5,r6,x2,x3,x4,x5⟩:Tb)) l)→(W.heap[Z]?=some (.cells qV 32))→(w1.heap.size≤Z)→G 8 #[true,false,true,false,true,false,true,false,true,false,true,false,false,true,false] (A.setIfInBounds 11 (.pointer (some ⟨Z,0,none⟩))) W):=fun W l Z tt gg ee hZ hZ1=>by
  have hA:=HA.out;subst hA;clear E0;rw [HG.out];try simp only [qN]
  refine qW [1] ?_;refine qK (fun K hK=>?_) ?_
  ·go_simp
   refine (qbd tt).mono ?_;intro e W1 hR;rcases hp:p1 l with c | ⟨x0,l1⟩
   ·rw [hp] at hR
    obtain ⟨rfl,hg⟩:=qar hR;have e9:RT w (pMid l0) (gup c) W1:=by
     rw [ee,qaj hp];exact ⟨rfl,HB.out _ (qa1 gg hg)⟩
    exact ⟨rfl,e9⟩
   ·rw [hp] at hR
    obtain ⟨u1,rfl,hv,t1,g1⟩:=qaq hR;have q:u1=I x0:=hv;subst q;refine hK.out _ _ (HX.out W1 (qa1 gg g1)) (fun _=>?_);try simp only [qN]
    have hq:=K1T.out W1 x0 l1 Z t1 (qa1 gg g1) (ee.trans (qa9 hp)) (qb8 g1 hZ (by omega)) hZ1;simp only [qN] at hq;exact (HG.out _ _ _ _).mp hq
  exact qn
 have K0F:Hid (∀(W:World) (l:List UInt8),(Rst W lo r l)→(w1.grownBy W (some r))→(pMid l0=(andP p1 fun x0=>andP p1 fun x1=>andP p1 fun x2=>andP p1 fun x3=>andP p1 fun x4=>andP p1 fun x5=>andP (qa4 pTk n0) fun r0=>andP (qa4 pRg n1) fun r1=>andP (qa4 pRs n2) fun r2=>andP (qa4 pCt n3) fun r3=>andP (qa4 pAl n4) fun r4=>andP (qa4 pIs n5) fun r5=>andP (qa4 pMs n6) fun r6=>retP (⟨x0,x1,r0,r1,r2,r3,r4,r5,r6,x2,x3,x4,x5⟩:Tb)) l)→G 9 #[true,false,true,false,true,false,true,false,true,false,true,false,false,false,false] A W):=fun W l tt gg ee=>by
  have hA:=HA.out;subst hA;clear E0;rw [HG.out];try simp only [qN]
  refine qW [1,13] ?_;refine qK (fun K hK=>?_) ?_
  ·go_simp
   refine (qbd tt).mono ?_;intro e W1 hR;rcases hp:p1 l with c | ⟨x0,l1⟩
   ·rw [hp] at hR
    obtain ⟨rfl,hg⟩:=qar hR;have e9:RT w (pMid l0) (gup c) W1:=by
     rw [ee,qaj hp];exact ⟨rfl,HB.out _ (qa1 gg hg)⟩
    exact ⟨rfl,e9⟩
   ·rw [hp] at hR
    obtain ⟨u1,rfl,hv,t1,g1⟩:=qaq hR;have q:u1=I x0:=hv;subst q;refine hK.out _ _ (HX.out W1 (qa1 gg g1)) (fun _=>?_);try simp only [qN]
    have hq:=K1F.out W1 x0 l1  t1 (qa1 gg g1) (ee.trans (qa9 hp));simp only [qN] at hq;exact (HG.out _ _ _ _).mp hq
  refine qK (fun K hK=>?_) ?_
  ·go_simp
   have hh:=qah (r:=some r) (qa0 W (.cells qV 32));refine hK.out _ _ (HX.out _ (qa1 gg hh)) (fun _=>?_);try simp only [qN]
   have hq:=K0T.out (W.alloc (.cells qV 32))  l W.heap.size (tt.al _) (qa1 gg hh) ee (heap_alloc_new _ _) gg.size;simp only [qN] at hq;exact (HG.out _ _ _ _).mp hq
  exact qn
 exact K0F.out _ _ t7 G0 E0.out
end Go.Proofs.YtijgopkhdjaolabGreat
