import Derived.Test.YtijgopkhdjaolaaGreatXHn
import Derived.Test.YtijgopkhdjaolaaGreatXTgz
import Derived.Deep.RegionHeldLaw
import Derived.Deep.DrawnRows
import Derived.Lib.SlBytesConst
namespace Go.Proofs.YtijgopkhdjaolaaGreat
open Go.RowKit Go.Shelf Go.Sort
open Go.Proofs.YtijgopkhdjaolaaGreat.Ob (leB leV qac qam crc Rd RdAll qad)
set_option linter.unusedSimpArgs false
set_option linter.unusedVariables false
set_option maxHeartbeats 16000000
set_option maxRecDepth 100000
abbrev pcO (k n : Int) (u : Value) : Obj := .cells #[I k,I n,u] 67
theorem qmx {fn : Func} {k : Nat} (hf : fn.results = #[.cell k 67]) (tmps : Array Value) (b : Nat) (w : World) (x y : Int) (a : Option Addr) (n c : Nat)
  (h2 : tmps[k]? = some (.pointer (some ⟨b,0,none⟩))) (hk : w.heap[b]? = some (.cells #[I x,I y, .slice a n c] 67 (0,0))) : (results fn tmps).run Tryz.prog w = .ok (.agg #[I x,I y, .slice a n c]) w := by
 have a1 := fun i => cell_of_row w b i _ _ (0,0) hk
 have z0 := a1 0; have z1 := a1 1; have z2 := a1 2
 simp at z0 z1 z2
 simp [results,hf,go_sem,h2,z0,z1,z2]
theorem qfb {w : World} {b e k n g i : Nat} {v u : Value} {xs : List Value} (h : w.ownsRow b e k v n xs) (hg : g < b) : (w.setCell ⟨g,i,none⟩ u).ownsRow b e k v n xs := by
 refine ⟨h.1, ?_⟩
 rcases h.2 with q | ⟨g',cap,cur,q1,q2,q3,q4⟩
 ·exact .inl q
 ·exact .inr ⟨g',cap,cur,q1,q2,(heap_setCell_other w ⟨g,i,none⟩ g' u (by show g' ≠ g; omega)).trans q3,q4⟩
def set3 (w2 : World) (X : Nat) (k n : Int) (u : Value) : World := ((w2.setCell ⟨X,0,none⟩ (I k)).setCell ⟨X,1,none⟩ (I n)).setCell ⟨X,2,none⟩ u
theorem qmy {w : World} (k n : Int) : ∀ w2 (u : Value) (F : List UInt8),w2.ownsRow (w.alloc (pcO 0 0 (.slice none 0 0))).heap.size 5 1 u F.length (Bs8 F) → Below (w.alloc (pcO 0 0 (.slice none 0 0))).heap.size (w.alloc (pcO 0 0 (.slice none 0 0))) w2 →
  OwB w (set3 w2 w.heap.size k n u) u F ∧ (set3 w2 w.heap.size k n u).heap[w.heap.size]? = some (pcO k n u) ∧ (w2.cell? ⟨w.heap.size,0,none⟩ = some (I 0) ∧ (w2.setCell ⟨w.heap.size,0,none⟩ (I k)).cell? ⟨w.heap.size,1,none⟩ = some (I 0) ∧ ((w2.setCell ⟨w.heap.size,0,none⟩ (I k)).setCell ⟨w.heap.size,1,none⟩ (I n)).cell? ⟨w.heap.size,2,none⟩ = some (.slice none 0 0)) ∧ w2.frozen? ⟨w.heap.size,0,none⟩ = false ∧ (w2.setCell ⟨w.heap.size,0,none⟩ (I k)).frozen? ⟨w.heap.size,1,none⟩ = false ∧ ((w2.setCell ⟨w.heap.size,0,none⟩ (I k)).setCell ⟨w.heap.size,1,none⟩ (I n)).frozen? ⟨w.heap.size,2,none⟩ = false := fun w2 u F ho b2 => by
 have hb := qa0 w (pcO 0 0 (.slice none 0 0))
 have hv := heap_alloc_new w (pcO 0 0 (.slice none 0 0))
 have q := (b2.block _ (qa4 hv)).trans hv
 have q1 := heap_setCell_same w2 w.heap.size 0 _ _ (I k) q
 have q2 := heap_setCell_same _ w.heap.size 1 _ _ (I n) q1
 have q3 := heap_setCell_same _ w.heap.size 2 _ _ u q2
 have bb := hb.trans (b2.mono hb.size)
 have hlt : w.heap.size < (w.alloc (pcO 0 0 (.slice none 0 0))).heap.size := qa4 hv
 exact ⟨⟨qb7 (qfb (qfb (qfb ho hlt) hlt) hlt) hb.size,Bset (Bset (Bset bb (Nat.le_refl _)) (Nat.le_refl _)) (Nat.le_refl _)⟩,q3,⟨by rw [cell_of_row _ _ _ _ _ (0,0) q]; rfl,by rw [cell_of_row _ _ _ _ _ (0,0) q1]; rfl,by rw [cell_of_row _ _ _ _ _ (0,0) q2]; rfl⟩,frozen_of_row _ _ _ _ _ q,frozen_of_row _ _ _ _ _ q1,frozen_of_row _ _ _ _ _ q2⟩
theorem qbn {w w' : World} {s : Sl} {ls : List (List UInt8)} (h : RowsAt w 1 (segB w) s ls) (hb : Below w.heap.size w w') : RowsAt w' 1 (segB w') s ls := h.below hb (fun x i u _ q => qaq q hb)
theorem qb8 (w : World) (k : Int) (s : Sl) (ls : List (List UInt8)) (F : List UInt8) (hF : ls.flatten = F) (hS : RowsAt w 1 (segB w) s ls) (hlen : F.length ≤ 1000000) : Calls Tryz.prog 57 #[I k,slT s] w fun e w' => ∃ a c,e = .returned (.agg #[I k,I ls.length, .slice a F.length c]) ∧ OwB w w' (.slice a F.length c) F := by
 have hC := catB _ s ls (qbn hS (qa0 w (pcO 0 0 (.slice none 0 0)))) (by rw [hF]; exact hlen)
 rw [qc3,hF] at hC
 have hsn : s.n = ls.length := hS.n
 have HS : Hid (∀ w2 (u : Value) (F : List UInt8),w2.ownsRow (w.alloc (pcO 0 0 (.slice none 0 0))).heap.size 5 1 u F.length (Bs8 F) → Below (w.alloc (pcO 0 0 (.slice none 0 0))).heap.size (w.alloc (pcO 0 0 (.slice none 0 0))) w2 →
  OwB w (set3 w2 w.heap.size k s.n u) u F ∧ (set3 w2 w.heap.size k s.n u).heap[w.heap.size]? = some (pcO k s.n u) ∧ (w2.cell? ⟨w.heap.size,0,none⟩ = some (I 0) ∧ (w2.setCell ⟨w.heap.size,0,none⟩ (I k)).cell? ⟨w.heap.size,1,none⟩ = some (I 0) ∧ ((w2.setCell ⟨w.heap.size,0,none⟩ (I k)).setCell ⟨w.heap.size,1,none⟩ (I s.n)).cell? ⟨w.heap.size,2,none⟩ = some (.slice none 0 0)) ∧ w2.frozen? ⟨w.heap.size,0,none⟩ = false ∧ (w2.setCell ⟨w.heap.size,0,none⟩ (I k)).frozen? ⟨w.heap.size,1,none⟩ = false ∧ ((w2.setCell ⟨w.heap.size,0,none⟩ (I k)).setCell ⟨w.heap.size,1,none⟩ (I s.n)).frozen? ⟨w.heap.size,2,none⟩ = false) := qmy k s.n
 rw [← hsn]
 clear hsn hS hF hlen
 obtain ⟨sa,sn,sc⟩ := s
 dsimp only at *
 show Calls _ _ #[I k, .slice sa sn sc] _ _
 generalize hw1 : w.alloc (pcO 0 0 (.slice none 0 0)) = w1 at *
 go_enter Tryz.func57,Tryz.ntmps57
 go_upto_region 1 with fail
 clear hw1
 go_wp2_with (first | (go_at_call 66; refine hC.mono ?_; clear hC; rintro e w2 ⟨u,rfl,o2,b2⟩; obtain ⟨a,c,rfl⟩ := qan o2; obtain ⟨k1,k2,⟨k3,k4,k5⟩,k6,k7,k8⟩ := HS.out w2 _ F o2 b2; have K : Hid (OwB w (set3 w2 w.heap.size k sn (.slice a F.length c)) (.slice a F.length c) F ∧ (set3 w2 w.heap.size k sn (.slice a F.length c)).heap[w.heap.size]? = some (pcO k sn (.slice a F.length c))) := ⟨k1,k2⟩; clear k1 k2 o2 b2))
 refine bodyPost_ret (qmx Tryz.results57 _ w.heap.size _ _ _ _ _ _ rfl K.out.2) rfl ?_
 exact ⟨_,_,rfl,K.out.1⟩
theorem qh9 {W : World} {X g off n c j : Nat} {a : Option Addr} {m c2 : Nat} (hX : W.cell? ⟨X,0,none⟩ = some (.slice (some ⟨g,off,none⟩) n c)) (hj : j < n) (hc : W.cell? ⟨g,off + j * 3 + 2,none⟩ = some (.slice a m c2)) : Calls Tryz.prog 67 #[I j, .pointer (some ⟨X,0,none⟩)] W fun e w' => e = .returned (.slice a m c2) ∧ w' = W := by
 have hjn : (j : Int) < n := by omega
 go_enter Tryz.func67,Tryz.ntmps67
 go_wp2
 go_ret
 exact ⟨rfl,rfl⟩
abbrev Pce := Int × Nat × List UInt8
def pceP (w : World) (x : Pce) (i : Nat) (u : Value) : Prop := match i with | 0 => u = I x.1 | 1 => u = I x.2.1 | _ => rdV w 1 u x.2.2.length (Bs8 x.2.2)
def flP (ps : List Pce) : List UInt8 := ps.flatMap (·.2.2)
theorem qgu {ps : List Pce} {k : Nat} {x : Pce} (h : ps[k]? = some x) : flP (ps.take (k + 1)) = flP (ps.take k) ++ x.2.2 := by
 unfold flP
 rw [List.take_add_one,h,Option.toList_some,List.flatMap_append]
 simp
theorem qjt (ps : List Pce) (k : Nat) : (flP (ps.take k)).length ≤ (flP ps).length := by
 have h : flP ps = flP (ps.take k) ++ flP (ps.drop k) := by unfold flP; rw [← List.flatMap_append,List.take_append_drop]
 rw [h,List.length_append]
 omega
theorem qic (w : World) (tb : Tb) (v : Ts) (h : TbAt w tb v) (hw : WfT tb) (hc : chkP tb = true) (ps : List Pce) (hl : (flP ps).length ≤ 1000000) (hps : ps.length ≤ 1000)
  (hP : ∀ W,Below w.heap.size w W → Calls Tryz.prog 22 #[.agg (tbC tb v)] W fun e w' => ∃ s,e = .returned (slT s) ∧ RowsAt w' 3 (pceP w') s ps ∧ Below W.heap.size W w') : Calls Tryz.prog 9 #[.agg (tbC tb v)] w fun e w' => ∃ u,e = .returned (.tuple #[u,I 0]) ∧ OwB w w' u (flP ps) := by
 obtain ⟨i0,hi0,hz0,hz1,hz2⟩ := info_parts qjo
 have hb0 := qa0 w (.cells #[I tb.uses,I tb.modes, .slice v.t.a v.t.n v.t.c, .slice v.g.a v.g.n v.g.c, .slice v.r.a v.r.n v.r.c, .slice v.k.a v.k.n v.k.c, .slice v.a.a v.a.n v.a.c, .slice v.i.a v.i.n v.i.c, .slice v.s.a v.s.n v.s.c,I tb.depth,I tb.frames,I tb.errors,I tb.calls] 30)
 have hV0 := heap_alloc_new w (.cells #[I tb.uses,I tb.modes, .slice v.t.a v.t.n v.t.c, .slice v.g.a v.g.n v.g.c, .slice v.r.a v.r.n v.r.c, .slice v.k.a v.k.n v.k.c, .slice v.a.a v.a.n v.a.c, .slice v.i.a v.i.n v.i.c, .slice v.s.a v.s.n v.s.c,I tb.depth,I tb.frames,I tb.errors,I tb.calls] 30)
 have HB : Hid (Below w.heap.size w (w.alloc (.cells #[I tb.uses,I tb.modes, .slice v.t.a v.t.n v.t.c, .slice v.g.a v.g.n v.g.c, .slice v.r.a v.r.n v.r.c, .slice v.k.a v.k.n v.k.c, .slice v.a.a v.a.n v.a.c, .slice v.i.a v.i.n v.i.c, .slice v.s.a v.s.n v.s.c,I tb.depth,I tb.frames,I tb.errors,I tb.calls] 30))) := hb0
 have HS0 : Hid (∀ W,Below (w.alloc (.cells #[I tb.uses,I tb.modes, .slice v.t.a v.t.n v.t.c, .slice v.g.a v.g.n v.g.c, .slice v.r.a v.r.n v.r.c, .slice v.k.a v.k.n v.k.c, .slice v.a.a v.a.n v.a.c, .slice v.i.a v.i.n v.i.c, .slice v.s.a v.s.n v.s.c,I tb.depth,I tb.frames,I tb.errors,I tb.calls] 30)).heap.size (w.alloc (.cells #[I tb.uses,I tb.modes, .slice v.t.a v.t.n v.t.c, .slice v.g.a v.g.n v.g.c, .slice v.r.a v.r.n v.r.c, .slice v.k.a v.k.n v.k.c, .slice v.a.a v.a.n v.a.c, .slice v.i.a v.i.n v.i.c, .slice v.s.a v.s.n v.s.c,I tb.depth,I tb.frames,I tb.errors,I tb.calls] 30)) W → (fun X => W.cell? ⟨X,0,none⟩ = some (I tb.uses) ∧ W.cell? ⟨X,1,none⟩ = some (I tb.modes) ∧ W.cell? ⟨X,2,none⟩ = some (.slice v.t.a v.t.n v.t.c) ∧ W.cell? ⟨X,3,none⟩ = some (.slice v.g.a v.g.n v.g.c) ∧ W.cell? ⟨X,4,none⟩ = some (.slice v.r.a v.r.n v.r.c) ∧ W.cell? ⟨X,5,none⟩ = some (.slice v.k.a v.k.n v.k.c) ∧ W.cell? ⟨X,6,none⟩ = some (.slice v.a.a v.a.n v.a.c) ∧ W.cell? ⟨X,7,none⟩ = some (.slice v.i.a v.i.n v.i.c) ∧ W.cell? ⟨X,8,none⟩ = some (.slice v.s.a v.s.n v.s.c) ∧ W.cell? ⟨X,9,none⟩ = some (I tb.depth) ∧ W.cell? ⟨X,10,none⟩ = some (I tb.frames) ∧ W.cell? ⟨X,11,none⟩ = some (I tb.errors) ∧ W.cell? ⟨X,12,none⟩ = some (I tb.calls)) w.heap.size) := fun W hW => by
  have q := (hW.block _ (qa4 hV0)).trans hV0
  refine ⟨?_, ?_, ?_, ?_, ?_, ?_, ?_, ?_, ?_, ?_, ?_, ?_, ?_⟩ <;> (rw [cell_of_row _ _ _ _ _ (0,0) q]; rfl)
 have hK := qfi tb v (w.alloc (.cells #[I tb.uses,I tb.modes, .slice v.t.a v.t.n v.t.c, .slice v.g.a v.g.n v.g.c, .slice v.r.a v.r.n v.r.c, .slice v.k.a v.k.n v.k.c, .slice v.a.a v.a.n v.a.c, .slice v.i.a v.i.n v.i.c, .slice v.s.a v.s.n v.s.c,I tb.depth,I tb.frames,I tb.errors,I tb.calls] 30)) (h.below hb0) hw
 rw [hc,if_pos rfl] at hK
 have hQ : ∀ W,Below (w.alloc (.cells #[I tb.uses,I tb.modes, .slice v.t.a v.t.n v.t.c, .slice v.g.a v.g.n v.g.c, .slice v.r.a v.r.n v.r.c, .slice v.k.a v.k.n v.k.c, .slice v.a.a v.a.n v.a.c, .slice v.i.a v.i.n v.i.c, .slice v.s.a v.s.n v.s.c,I tb.depth,I tb.frames,I tb.errors,I tb.calls] 30)).heap.size (w.alloc (.cells #[I tb.uses,I tb.modes, .slice v.t.a v.t.n v.t.c, .slice v.g.a v.g.n v.g.c, .slice v.r.a v.r.n v.r.c, .slice v.k.a v.k.n v.k.c, .slice v.a.a v.a.n v.a.c, .slice v.i.a v.i.n v.i.c, .slice v.s.a v.s.n v.s.c,I tb.depth,I tb.frames,I tb.errors,I tb.calls] 30)) W → Calls Tryz.prog 22 #[.agg (tbC tb v)] W fun e w' => ∃ s,e = .returned (slT s) ∧ RowsAt w' 3 (pceP w') s ps ∧ Below W.heap.size W w' := fun W hW => hP W (belT hb0 hW)
 have HL : Hid ((flP ps).length ≤ 1000000) := hl
 unfold tbC at *
 clear hb0 hV0 hP hl h hw hc
 go_enter Tryz.func9,Tryz.ntmps9
 go_upto_region 1 with fail
 generalize w.alloc (.cells #[I tb.uses,I tb.modes, .slice v.t.a v.t.n v.t.c, .slice v.g.a v.g.n v.g.c, .slice v.r.a v.r.n v.r.c, .slice v.k.a v.k.n v.k.c, .slice v.a.a v.a.n v.a.c, .slice v.i.a v.i.n v.i.c, .slice v.s.a v.s.n v.s.c,I tb.depth,I tb.frames,I tb.errors,I tb.calls] 30) = w1 at *
 generalize hX : w.heap.size = X at *
 have HX : Hid (w.heap.size = X) := hX
 clear hX
 have HS : Hid (∀ W,Below w1.heap.size w1 W → W.cell? ⟨X,0,none⟩ = some (I tb.uses) ∧ W.cell? ⟨X,1,none⟩ = some (I tb.modes) ∧ W.cell? ⟨X,2,none⟩ = some (.slice v.t.a v.t.n v.t.c) ∧ W.cell? ⟨X,3,none⟩ = some (.slice v.g.a v.g.n v.g.c) ∧ W.cell? ⟨X,4,none⟩ = some (.slice v.r.a v.r.n v.r.c) ∧ W.cell? ⟨X,5,none⟩ = some (.slice v.k.a v.k.n v.k.c) ∧ W.cell? ⟨X,6,none⟩ = some (.slice v.a.a v.a.n v.a.c) ∧ W.cell? ⟨X,7,none⟩ = some (.slice v.i.a v.i.n v.i.c) ∧ W.cell? ⟨X,8,none⟩ = some (.slice v.s.a v.s.n v.s.c) ∧ W.cell? ⟨X,9,none⟩ = some (I tb.depth) ∧ W.cell? ⟨X,10,none⟩ = some (I tb.frames) ∧ W.cell? ⟨X,11,none⟩ = some (I tb.errors) ∧ W.cell? ⟨X,12,none⟩ = some (I tb.calls)) := HS0.out
 obtain ⟨c0,c1,c2,c3,c4,c5,c6,c7,c8,c9,c10,c11,c12⟩ := HS.out w1 (Below.refl _ _)
 go_wp2_with (first
  | (go_at_call 14; refine hK.mono ?_; clear hK c0 c1 c2 c3 c4 c5 c6 c7 c8 c9 c10 c11 c12; rintro e w2 ⟨rfl,b2⟩; obtain ⟨d0,d1,d2,d3,d4,d5,d6,d7,d8,d9,d10,d11,d12⟩ := HS.out w2 b2)
  | (go_at_call 22; refine (hQ _ b2).mono ?_; clear hQ d0 d1 d2 d3 d4 d5 d6 d7 d8 d9 d10 d11 d12; rintro e w3 ⟨⟨sa,sn,sc⟩,rfl,r3,b3⟩; dsimp only [slT]; have hsn : Hid (sn = ps.length) := r3.n; have hsn1 : sn ≤ 1000 := by have := hsn.out; omega))
 have H3 : Hid (RowsAt w3 3 (pceP w3) ⟨sa,sn,sc⟩ ps ∧ sn = ps.length ∧ Below w1.heap.size w1 w3) := ⟨r3,hsn.out,belT b2 b3⟩
 clear r3 b2 b3 hsn hps
 have HI : Hid (OwB w3 w3 (.slice none 0 0) (flP (ps.take 0))) := ⟨by simpa [flP] using World.ownsRow_nil w3 _ _ _,Below.refl _ _⟩
 go_loopw [4,6,13] (fun v4 _ v13 wr => ∃ k : Nat,k ≤ sn ∧ v13 = I k ∧ Hid (OwB w3 wr v4 (flP (ps.take k)))) (fun _ _ v13 _ => sn - (intOf v13).toNat)
 case atStart => exact ⟨0,by omega,rfl,HI.out⟩
 case round =>
  clear HI
  obtain ⟨k,hk,rfl,HJ⟩ := hrel
  by_cases hlt : k < sn
  ·have hltI : (k : Int) < sn := by omega
   obtain ⟨x,hx⟩ : ∃ x,ps[k]? = some x := ⟨_,List.getElem?_eq_getElem (by rw [← H3.out.2.1]; exact hlt)⟩
   obtain ⟨g,off,ea,hg,hr⟩ := (H3.out.1).row k _ hx
   obtain ⟨y0,z0,e0⟩ := hr 0 (by omega)
   obtain ⟨y1,z1,e1⟩ := hr 1 (by omega)
   obtain ⟨y2,z2,e2⟩ := hr 2 (by omega)
   have e0' : y0 = I x.1 := e0
   have e1' : y1 = I x.2.1 := e1
   have e2' : rdV w3 1 y2 x.2.2.length (Bs8 x.2.2) := e2
   obtain ⟨xa,xc,rfl⟩ := qev e2'
   subst e0' e1'
   have q0 : wr.cell? ⟨g,off + k * 3,none⟩ = some (I x.1) := by rw [qa6 HJ.out.2 _ _ hg]; exact z0
   have q1 : wr.cell? ⟨g,off + k * 3 + 1,none⟩ = some (I x.2.1) := by rw [qa6 HJ.out.2 _ _ hg]; exact z1
   have q2 : wr.cell? ⟨g,off + k * 3 + 2,none⟩ = some (.slice xa x.2.2.length xc) := by rw [qa6 HJ.out.2 _ _ hg]; exact z2
   have hf := qgu hx
   have hle := Nat.le_trans (qjt ps (k + 1)) HL.out
   have hq1 : (flP (ps.take k)).length + x.2.2.length ≤ 1000000 := by rw [hf,List.length_append] at hle; exact hle
   have ha : sa = some ⟨g,off,none⟩ := ea
   have hb4 := qa0 wr (pcO x.1 x.2.1 (.slice xa x.2.2.length xc))
   have hv4 := heap_alloc_new wr (pcO x.1 x.2.1 (.slice xa x.2.2.length xc))
   have J1 : Hid (OwB w3 (wr.alloc (pcO x.1 x.2.1 (.slice xa x.2.2.length xc))) u4 (flP (ps.take k))) := ⟨qa2 HJ.out.1 hb4,belT HJ.out.2 hb4⟩
   have hx0 : rdV (wr.alloc (pcO x.1 x.2.1 (.slice xa x.2.2.length xc))) 1 (.slice xa x.2.2.length xc) x.2.2.length (Bs8 x.2.2) := qaq e2' J1.out.2
   have y0 : (wr.alloc (pcO x.1 x.2.1 (.slice xa x.2.2.length xc))).cell? ⟨wr.heap.size,2,none⟩ = some (.slice xa x.2.2.length xc) := by rw [cell_of_row _ _ _ _ _ (0,0) hv4]; rfl
   have HF : Hid (flP (ps.take (k + 1)) = flP (ps.take k) ++ x.2.2) := hf
   clear hr z0 z1 z2 hx ea hg e0 e1 e2 e2' hf hle hb4 hv4 HJ
   subst ha
   obtain ⟨xk,xn,xb⟩ := x
   dsimp only at *
   go_upto_region 7 with fail
   clear q0 q1 q2
   generalize wr.alloc (pcO xk xn (.slice xa xb.length xc)) = w5 at *
   generalize wr.heap.size = X5 at *
   have hown := J1.out.1
   have hbs := J1.out.2.size
   have HK : Hid (∀ v' w',w'.ownsRow w3.heap.size 5 1 v' ((flP (ps.take k)).length + xb.length) (Bs8 (flP (ps.take k)) ++ Bs8 xb) → w5.grownBy w' u4.ownBlock → OwB w3 w' v' (flP (ps.take (k + 1)))) := fun v' w' ho hg' => by
    refine ⟨?_,Below.grown J1.out.1 J1.out.2 hg'⟩
    rw [HF.out,List.length_append, ← qc3,List.flatMap_append,qc3,qc3]
    exact ho
   clear J1 HF
   go_wp2_with (at_builtin; refine qc2 rfl (.tmp 17) (.tmp 19) 31 rfl w3.heap.size 0 5 i0 (.int .u8 0 : Value) 1 1 Tryz.underlying31 hi0 hz0 hz1 hz2 rfl (by decide) u4 (.slice xa xb.length xc) _ _ _ _ rfl rfl hown hx0 (qia _) (by unfold maxLen; omega) (by omega) hbs ?_; intro v' w' ho hg'; have K2 : Hid _ := HK.out v' w' ho hg'; clear ho hg')
   go_roundw
   case rel => exact ⟨k + 1,by omega,by go_num,K2.out⟩
   case measure => simp [intOf]; omega
  ·obtain rfl : k = sn := by omega
   have hge : ¬ ((k : Int) < k) := by omega
   go_wp2
   refine bodyPost_ret (results_tmp2 Tryz.results9 _ _ _) rfl ?_
   have e := HJ.out
   rw [show ps.take k = ps by rw [H3.out.2.1]; exact List.take_length] at e
   have hb := HB.out
   exact ⟨_,rfl,qbd (belT (by have := HB.out; rw [← HX.out] at this; exact this) H3.out.2.2) e⟩
theorem qmz (w : World) (o : Obj) : (w.alloc o).heap.size = w.heap.size + 1 := by first | simp | (unfold World.alloc; simp)
theorem qhn {α : Type} (l : List α) (e : α → List UInt8) : (List.range l.length).map (fun j => ((l[j]?).map e).getD []) = l.map e := by
 apply List.ext_getElem?
 intro i
 rw [List.getElem?_map,List.getElem?_map]
 by_cases hi : i < l.length
 ·rw [List.getElem?_range hi,List.getElem?_eq_getElem hi]
  simp [List.getElem?_eq_getElem hi]
 ·rw [List.getElem?_eq_none (by simpa using hi),List.getElem?_eq_none (by simpa using hi)]
  rfl
theorem qcn {w : World} {tb : Tb} {v : Ts} {α : Type} (l : List α) (e : α → List UInt8) (n f : Nat) (hn : n = l.length) (hl : l.length ≤ 1000) (eg : ∀ args W,(callFunc f args).run Tryz.prog W = .ok (.enter f args) W)
  (hf : ∀ W,Below w.heap.size w W → ∀ (j : Nat) (x : α),l[j]? = some x → Calls Tryz.prog f #[.agg (tbC tb v),I j] W fun ee w' => ∃ u,ee = .returned u ∧ OwB W w' u (e x)) :
  ∀ W,Below w.heap.size w W → Calls Tryz.prog 58 #[I n, .func (.func f) #[.agg (tbC tb v)] #[]] W fun ee w' => ∃ s,ee = .returned (slT s) ∧ RowsAt w' 1 (segB w') s (l.map e) ∧ Below W.heap.size W w' := fun W hW => by
 subst hn
 refine (ql7 W l.length hl f #[.agg (tbC tb v)] #[] eg (fun j => ((l[j]?).map e).getD []) (fun W' hW' j hj => ?_)).mono ?_
 ·have hx : l[j]? = some l[j] := List.getElem?_eq_getElem hj
  rw [show (#[.agg (tbC tb v)] ++ #[I j] ++ #[] : Array Value) = #[.agg (tbC tb v),I j] from rfl]
  refine (hf W' (belT hW hW') j _ hx).mono ?_
  rintro ee w' ⟨u,rfl,o,b⟩
  rw [hx]
  exact ⟨u,rfl,qai o,b⟩
 ·rintro ee w' ⟨u,rfl,r,b⟩
  rw [qhn] at r
  obtain ⟨s,rfl,r2⟩ := r.rows
  exact ⟨s,rfl,r2,b⟩
end Go.Proofs.YtijgopkhdjaolaaGreat
namespace Go.Proofs.YtijgopkhdjaolaaGreat
open Go.RowKit Go.Shelf Go.Sort
set_option linter.unusedSimpArgs false
set_option linter.unusedVariables false
set_option maxHeartbeats 16000000
set_option maxRecDepth 100000
theorem qdo {P : Program} {md : Region.Mode} {ops : Array Oper} {Q : Exit → Act → World → Prop} {S : World → Prop} {fuel : Nat} {listed : Array Bool} {a : Act} {w : World}
  (h : ∀ G : Nat → Array Bool → Array Value → World → Prop,Hid (∀ f l t W,G f l t W = wpAnyH P md ops Q S f l ⟨t,a.defers⟩ W) → G fuel listed a.tmps w) : wpAnyH P md ops Q S fuel listed a w :=
 h (fun f l t W => wpAnyH P md ops Q S f l ⟨t,a.defers⟩ W) (fun _ _ _ _ => rfl)
theorem qfx {w : World} {k n : Nat} {u : Value} {xs : List Value} {o : Obj} (h : rdV w k u n xs) : rdV (w.alloc o) k u n xs := qaq h (qa0 w o)
theorem qoi (w : World) (o : Obj) : (w.alloc o).heap.size = w.heap.size + 1 := by first | simp | (unfold World.alloc; simp)
theorem qho {w : World} {base e size n : Nat} {v : Value} {xs : List Value} {o : Obj} (h : w.ownsRow base e size v n xs) : (w.alloc o).ownsRow base e size v n xs := h.alloc o
abbrev mkO : Obj := .cells #[.int .u8 84, .int .u8 80, .int .u8 84, .int .u8 49] 5
theorem qb4 {W : World} {M : Nat} (h : W.heap[M]? = some mkO) : (convert 31 31 (.slice (some ⟨M,0,none⟩) 4 4)).run Tryz.prog W = .ok (.slice (some ⟨M,0,none⟩) 4 4) (W.freeze ⟨M,4,none⟩ 1) := by
 have hsh : W.shape? M = some (5,4) := by unfold World.shape?; rw [h]; rfl
 simp [convert,run_underlying Tryz.underlying31,run_underlying Tryz.underlying5,markStringish,hsh]
theorem qdz (W : World) (M b : Nat) (h : b ≠ M) : (W.freeze ⟨M,4,none⟩ 1).heap[b]? = W.heap[b]? := by
 unfold World.freeze
 rw [if_neg (by decide)]
 show (W.heap.modify M _)[b]? = _
 rw [Array.getElem?_modify,if_neg (fun e => h e.symm)]
theorem qaj {a W : World} {M : Nat} (hb : Below a.heap.size a W) (hM : a.heap.size ≤ M) : Below a.heap.size a (W.freeze ⟨M,4,none⟩ 1) :=
 ⟨hb.os,hb.tape,hb.output,by have := hb.size; unfold World.freeze; rw [if_neg (by decide)]; simpa using this,fun i hi => (qdz W M i (by omega)).trans (hb.block i hi)⟩
theorem qbe {W : World} {M : Nat} (h : W.heap[M]? = some mkO) : rdV (W.freeze ⟨M,4,none⟩ 1) 1 (.slice (some ⟨M,0,none⟩) 4 4) mrk.length (Bs8 mrk) := by
 have q : (W.freeze ⟨M,4,none⟩ 1).heap[M]? = some (.cells #[.int .u8 84, .int .u8 80, .int .u8 84, .int .u8 49] 5 (4,5)) := by
  unfold World.freeze
  rw [if_neg (by decide)]
  show (W.heap.modify M _)[M]? = _
  rw [Array.getElem?_modify,if_pos rfl,h]
  rfl
 refine ⟨rfl, .inr ⟨M,4,rfl,qa4 q,fun j v hj => ?_⟩⟩
 rw [cell_of_row _ _ _ _ _ (4,5) q,Nat.zero_add]
 have e : (#[.int .u8 84, .int .u8 80, .int .u8 84, .int .u8 49] : Array Value) = (Bs8 mrk).toArray := by rfl
 rw [e,List.getElem?_toArray]
 exact hj
theorem qku {W : World} {M b : Nat} {o : Obj} (h : W.heap[b]? = some o) (hne : b ≠ M) : (W.freeze ⟨M,4,none⟩ 1).heap[b]? = some o := (qdz W M b hne).trans h
theorem qn0 {W : World} {M n : Nat} {a : Option Addr} {c : Nat} {l : List Value} (h : rdV W 1 (.slice a n c) n l) (hne : ∀ g o,a = some ⟨g,o,none⟩ → g ≠ M) : rdV (W.freeze ⟨M,4,none⟩ 1) 1 (.slice a n c) n l := by
 obtain ⟨h1,h2⟩ := h
 refine ⟨h1, ?_⟩
 rcases h2 with q | ⟨g,cap,q,hg,hc⟩
 ·exact .inl q
 ·refine .inr ⟨g,cap,q, ?_,fun j v hj => ?_⟩
  ·unfold World.freeze; rw [if_neg (by decide)]; simpa using hg
  ·cases q
   rw [World.cell?_of_block (qdz W M g (hne g 0 rfl))]
   exact hc j v hj
theorem qoj {W : World} {n c : Nat} {a : Option Addr} {l : List Value} (h : rdV W 1 (.slice a n c) n l) : ∀ g o,a = some ⟨g,o,none⟩ → g < W.heap.size := by
 intro g o e
 subst e
 rcases h.2 with ⟨q,_⟩ | ⟨g',cap,q,hg,_⟩
 ·cases q
 ·cases q; exact hg
theorem qn1 {W : World} {b e k n c : Nat} {a : Option Addr} {l : List Value} (h : W.ownsRow b e k (.slice a n c) n l) : ∀ g o,a = some ⟨g,o,none⟩ → b ≤ g := by
 intro g o e
 subst e
 rcases h.2 with ⟨q,_⟩ | ⟨g',cap,cur,q,hg,_⟩
 ·cases q
 ·cases q; exact hg
theorem qn2 {w W : World} {X : Nat} {u1 u2 : Value} {l1 l2 : List UInt8} (hb : Below w.heap.size w W) (h : W.heap[X]? = some (.cells #[u1,u2] 31)) (h1 : rdV W 1 u1 l1.length (Bs8 l1)) (h2 : rdV W 1 u2 l2.length (Bs8 l2)) (hl : l1.length + l2.length ≤ 1000000) : Calls Tryz.prog 66 #[.slice (some ⟨X,0,none⟩) 2 2] W fun e w' => ∃ u,e = .returned u ∧ OwB w w' u (l1 ++ l2) := by
 refine (catB W ⟨some ⟨X,0,none⟩,2,2⟩ [l1,l2] (qdm [u1,u2] [l1,l2] h rfl rfl (by simp) (fun j l v e1 e2 => ?_)) (by simpa using hl)).mono ?_
 ·match j,e1,e2 with
  | 0,e1,e2 => simp at e1 e2; subst e1 e2; exact h1
  | 1,e1,e2 => simp at e1 e2; subst e1 e2; exact h2
 ·rintro e w' ⟨u,rfl,o,b⟩
  refine ⟨u,rfl, ?_⟩
  have : OwB W w' u (l1 ++ l2) := ⟨by simpa [qc3] using o,b⟩
  exact qbd hb this
end Go.Proofs.YtijgopkhdjaolaaGreat
namespace Go.Proofs.YtijgopkhdjaolaaGreat
open Go.RowKit Go.Shelf Go.Sort
open Go.Proofs.YtijgopkhdjaolaaGreat.Ob (leB leV qac qam crc Rd RdAll qad)
set_option linter.unusedSimpArgs false
set_option linter.unusedVariables false
set_option maxHeartbeats 16000000
set_option maxRecDepth 100000
theorem qcb {W : World} {b e k n Y T : Nat} {u x : Value} {xs : List Value} {cs : Array Value} (h : W.ownsRow b e k u n xs) (hY : W.heap[Y]? = some (.cells cs T)) (he : T ≠ e) : (W.setCell ⟨Y,0,none⟩ x).ownsRow b e k u n xs := by
 refine ⟨h.1, ?_⟩
 rcases h.2 with q | ⟨g,cap,cur,q1,q2,q3,q4⟩
 ·exact .inl q
 ·refine .inr ⟨g,cap,cur,q1,q2, ?_,q4⟩
  rw [heap_setCell_other W ⟨Y,0,none⟩ g x (by rintro rfl; rw [hY] at q3; cases q3; exact he rfl)]
  exact q3
theorem qok {w : World} {Y Z n : Nat} (us : List Value) (Fs : List (List UInt8)) (hn : n = Fs.length) (hl : n ≤ 1000) (hu : us.length = n) (hY : w.cell? ⟨Y,0,none⟩ = some (.slice (some ⟨Z,0,none⟩) n n)) (hYl : Y < w.heap.size) (hZl : Z < w.heap.size)
  (hZ : ∀ j u,us[j]? = some u → w.cell? ⟨Z,0 + j * 3 + 2,none⟩ = some u) (ho : ∀ (j : Nat) (F : List UInt8) (u : Value),Fs[j]? = some F → us[j]? = some u → w.ownsRow 0 5 1 u F.length (Bs8 F)) :
  Calls Tryz.prog 58 #[I n, .func (.func 67) #[] #[.pointer (some ⟨Y,0,none⟩)]] w fun e w' => ∃ s,e = .returned (slT s) ∧ RowsAt w' 1 (segB w') s Fs ∧ Below w.heap.size w w' := by
 refine (ql7 w n hl 67 #[] #[.pointer (some ⟨Y,0,none⟩)] (fun _ _ => rfl) (fun j => (Fs[j]?).getD []) (fun W hW j hj => ?_)).mono ?_
 ·obtain ⟨u,hu1⟩ : ∃ u,us[j]? = some u := ⟨_,List.getElem?_eq_getElem (by omega)⟩
  obtain ⟨F,hF1⟩ : ∃ F,Fs[j]? = some F := ⟨_,List.getElem?_eq_getElem (by omega)⟩
  have o1 := ho j F u hF1 hu1
  obtain ⟨a,c,rfl⟩ := qan o1
  refine (qh9 (W := W) (X := Y) (g := Z) (off := 0) (n := n) (c := n) (j := j) (by rw [qa6 hW _ _ hYl]; exact hY) hj (by rw [qa6 hW _ _ hZl]; exact hZ j _ hu1)).mono ?_
  rintro e w' ⟨rfl,rfl⟩
  rw [hF1]
  exact ⟨_,rfl,qa2 o1 hW,Below.refl _ _⟩
 ·rintro ee w' ⟨u,rfl,r,b⟩
  have e : (List.range n).map (fun j => (Fs[j]?).getD []) = Fs := by
   have := qhn Fs (fun x => x)
   simp only [List.map_id',Option.map_id'] at this
   rw [hn]
   exact this
  rw [e] at r
  obtain ⟨s,rfl,r2⟩ := r.rows
  exact ⟨s,rfl,r2,b⟩
theorem qn3 {W : World} {X : Nat} {u1 u2 : Value} {l1 l2 : List UInt8} (h : W.heap[X]? = some (.cells #[u1,u2] 31)) (h1 : W.ownsRow 0 5 1 u1 l1.length (Bs8 l1)) (h2 : W.ownsRow 0 5 1 u2 l2.length (Bs8 l2)) (n1 : l1.length ≤ 1000000) (n2 : l2.length ≤ 1000000) : RdAll W (some ⟨X,0,none⟩) 2 2 [l1,l2] := by
 obtain ⟨a1,c1,rfl⟩ := qan h1
 obtain ⟨a2,c2,rfl⟩ := qan h2
 refine ⟨rfl,by omega,fun _ => ⟨X,0,rfl,fun i l hi => ?_⟩⟩
 match i,hi with
 | 0,hi => simp at hi; subst hi; exact ⟨a1,_,c1,by rw [cell_of_row _ _ _ _ _ (0,0) h]; rfl,qad h1 (by omega)⟩
 | 1,hi => simp at hi; subst hi; exact ⟨a2,_,c2,by rw [cell_of_row _ _ _ _ _ (0,0) h]; rfl,qad h2 (by omega)⟩
theorem qju {W : World} {X n : Nat} (us : List Value) (ls : List (List Pc)) (h : W.heap[X]? = some (.cells us.toArray 64)) (hn : n = ls.length) (hu : us.length = ls.length) (hl : ls.length ≤ 1000) (hs : ∀ (j : Nat) (l : List Pc) (v : Value),ls[j]? = some l → us[j]? = some v → rdV W 3 v l.length (l.flatMap pcC)) : RowsAt W 1 (segP W) ⟨some ⟨X,0,none⟩,n,n⟩ ls := by
 subst hn
 refine ⟨rfl,Nat.le_refl _,by show ls.length ≤ maxLen; unfold maxLen; omega,fun j x hj => ⟨X,0,rfl,(Array.getElem?_eq_some_iff.1 h).1,fun i hi => ?_⟩⟩
 obtain rfl : i = 0 := by omega
 have hlt : j < us.length := by rw [hu]; exact (List.getElem?_eq_some_iff.1 hj).1
 refine ⟨us[j], ?_,hs j x _ hj (List.getElem?_eq_getElem hlt)⟩
 rw [cell_of_row _ _ _ _ _ (0,0) h]
 simp [List.getElem?_eq_getElem hlt]
theorem qeg {W : World} {g T n c : Nat} (xs : List Value) (h : W.heap[g]? = some (.cells xs.toArray T)) (hn : xs.length = n * 3) : rdV W 3 (.slice (some ⟨g,0,none⟩) n c) n xs := by
 refine ⟨hn, .inr ⟨g,c,rfl,qa4 h,fun j v hj => ?_⟩⟩
 rw [cell_of_row _ _ _ _ _ (0,0) h,Nat.zero_add]
 simpa using hj
theorem qn4 (l : List Pc) {k : Nat} {x : Pc} (h : l[k]? = some x) : (l.flatMap pcC)[k * 3]? = some (I x.kind) ∧ (l.flatMap pcC)[k * 3 + 1]? = some (I x.rows) ∧ (l.flatMap pcC)[k * 3 + 2]? = some x.u := by
 induction l generalizing k with
 | nil => cases h
 | cons y l ih =>
  cases k with
  | zero => simp at h; subst h; exact ⟨rfl,rfl,rfl⟩
  | succ k =>
   have := ih (k := k) (by simpa using h)
   rw [List.flatMap_cons,show (k + 1) * 3 = k * 3 + 3 by omega]
   exact this
theorem qkv {w : World} {b : Nat} {u : Value} (pcs : List Pc) (ps : List Pce) (h : w.ownsRow b 67 3 u pcs.length (pcs.flatMap pcC)) (hl : pcs.length = ps.length) (hp : ∀ (j : Nat) (p : Pc) (x : Pce),pcs[j]? = some p → ps[j]? = some x → p.kind = x.1 ∧ p.rows = x.2.1 ∧ rdV w 1 p.u x.2.2.length (Bs8 x.2.2)) : ∃ s,u = slT s ∧ RowsAt w 3 (pceP w) s ps := by
 obtain ⟨a,c,rfl⟩ := qan h
 have hcm : ps.length ≤ c ∧ c ≤ maxLen := by
  rcases h.2 with ⟨q,q2⟩ | ⟨g,cap,cur,q,_,_,hle,hm,_⟩
  ·obtain ⟨_,q3,q4⟩ := Value.slice.inj q
   exact ⟨by omega,by unfold maxLen; omega⟩
  ·cases q
   exact ⟨by omega,hm⟩
 refine ⟨⟨a,pcs.length,c⟩,rfl,⟨hl,by rw [hl]; exact hcm.1,hcm.2,fun j x hj => ?_⟩⟩
 have hlt : j < pcs.length := by rw [hl]; exact (List.getElem?_eq_some_iff.1 hj).1
 obtain ⟨p,hpj⟩ : ∃ p,pcs[j]? = some p := ⟨_,List.getElem?_eq_getElem hlt⟩
 obtain ⟨e1,e2,e3⟩ := hp j p x hpj hj
 obtain ⟨f0,f1,f2⟩ := qn4 pcs hpj
 rcases h.2 with ⟨q,q2⟩ | ⟨g,cap,cur,q,_,hh,_⟩
 ·omega
 ·cases q
  refine ⟨g,0,rfl,qa4 hh,fun i hi => ?_⟩
  have cc := fun k v hv => h.cells rfl k v hv
  simp only [qc1] at cc
  match i,hi with
  | 0,_ => exact ⟨_,by simpa using cc _ _ f0,by show I p.kind = I x.1; rw [e1]⟩
  | 1,_ => exact ⟨_,by simpa using cc _ _ f1,by show I (p.rows : Nat) = I (x.2.1 : Nat); rw [e2]⟩
  | 2,_ => exact ⟨_,by simpa using cc _ _ f2,e3⟩
theorem qn5 {l : List Pc} (h : ∀ p ∈ l, ∃ a n c,p.u = .slice a n c) : ∀ y ∈ l.flatMap pcC,y.oneCell' = true := by
 intro y hy
 obtain ⟨p,hp,hy⟩ := List.mem_flatMap.1 hy
 obtain ⟨a,n,c,e⟩ := h p hp
 unfold pcC at hy
 simp only [List.mem_cons,List.not_mem_nil,or_false] at hy
 rcases hy with rfl | rfl | rfl
 ·rfl
 ·rfl
 ·rw [e]; rfl
theorem qbq {w : World} {b e k n : Nat} {v : Value} {xs : List Value} (h : w.ownsRow b e k v n xs) : ∃ a n c,v = .slice a n c := by
 obtain ⟨a,c,e⟩ := qan h
 exact ⟨a,n,c,e⟩
theorem seg1 {W : World} {X : Nat} {u : Value} {l : List UInt8} (h : W.heap[X]? = some (.cells #[u] 31)) (h1 : W.ownsRow 0 5 1 u l.length (Bs8 l)) : RowsAt W 1 (segB W) ⟨some ⟨X,0,none⟩,1,1⟩ [l] :=
 qdm [u] [l] h rfl rfl (by simp) (fun j x v e1 e2 => by
  match j,e1,e2 with
  | 0,e1,e2 => simp at e1 e2; subst e1 e2; exact qbc h1)
end Go.Proofs.YtijgopkhdjaolaaGreat
