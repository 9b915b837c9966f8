import Derived.Test.YtnmknnkpkkefoaaGreatDoorFlt
import Derived.Deep.RegionHeld3
import Derived.Test.YtnmknnkpkkefoaaGreatDoorScn
namespace Go.Proofs.YtnmknnkpkkefoaaGreatDoor
open Go.RowKit
set_option linter.unusedVariables false

/-- A fault, laid anew. -/
theorem res_flt {fn : Func} (hf : fn.results = #[.cell 2 27]) (tmps : Array Value) (b : Nat) (w : World) (v0 v1 v2 v3 v4 : Value)
    (h2 : tmps[2]? = some (.pointer (some ⟨b, 0, none⟩))) (hk : w.heap[b]? = some (.cells #[v0, v1, v2, v3, v4] 27 (0, 0))) :
    (results fn tmps).run Tryz.prog w = .ok (.agg #[v0, v1, v2, v3, v4]) w := by
  have a1 := fun i => cell_of_row w b i _ _ (0, 0) hk
  have z0 := a1 0; have z1 := a1 1; have z2 := a1 2; have z3 := a1 3; have z4 := a1 4
  simp at z0 z1 z2 z3 z4
  simp [results, hf, go_sem, h2, z0, z1, z2, z3, z4]
def set5 (w : World) (b : Nat) (v0 v1 v2 v3 v4 : Value) : World :=
  ((((w.setCell ⟨b, 0, none⟩ v0).setCell ⟨b, 1, none⟩ v1).setCell ⟨b, 2, none⟩ v2).setCell ⟨b, 3, none⟩ v3).setCell ⟨b, 4, none⟩ v4
theorem set5_at (w : World) (b : Nat) (t : TypeId) (o0 o1 o2 o3 o4 v0 v1 v2 v3 v4 : Value) (k : w.heap[b]? = some (.cells #[o0, o1, o2, o3, o4] t (0, 0))) :
    (set5 w b v0 v1 v2 v3 v4).heap[b]? = some (.cells #[v0, v1, v2, v3, v4] t (0, 0)) := by
  unfold set5
  have h0 : (w.setCell ⟨b, 0, none⟩ v0).heap[b]? = some (.cells #[v0, o1, o2, o3, o4] t (0, 0)) := heap_setCell_same _ b 0 _ t _ k
  generalize w.setCell ⟨b, 0, none⟩ v0 = w0 at *
  have h1 : (w0.setCell ⟨b, 1, none⟩ v1).heap[b]? = some (.cells #[v0, v1, o2, o3, o4] t (0, 0)) := heap_setCell_same _ b 1 _ t _ h0
  generalize w0.setCell ⟨b, 1, none⟩ v1 = w1 at *
  have h2 : (w1.setCell ⟨b, 2, none⟩ v2).heap[b]? = some (.cells #[v0, v1, v2, o3, o4] t (0, 0)) := heap_setCell_same _ b 2 _ t _ h1
  generalize w1.setCell ⟨b, 2, none⟩ v2 = w2 at *
  have h3 : (w2.setCell ⟨b, 3, none⟩ v3).heap[b]? = some (.cells #[v0, v1, v2, v3, o4] t (0, 0)) := heap_setCell_same _ b 3 _ t _ h2
  generalize w2.setCell ⟨b, 3, none⟩ v3 = w3 at *
  exact heap_setCell_same _ b 4 _ t _ h3
theorem set5_grown (w : World) (b : Nat) (v0 v1 v2 v3 v4 : Value) : w.grownBy (set5 w b v0 v1 v2 v3 v4) (some b) :=
  grown_trans (grown_set _ _ _ _) (grown_trans (grown_set _ _ _ _) (grown_trans (grown_set _ _ _ _) (grown_trans (grown_set _ _ _ _) (grown_set _ _ _ _))))
theorem fin_flt {fn : Func} (hf : fn.results = #[.cell 2 27]) (w w3 : World) (v0 v1 v2 v3 v4 : Value) (tmps : Array Value)
    (hv : w3.heap[w.heap.size]? = some (.cells zero5 27 (0, 0))) (hb : Below w.heap.size w w3)
    (h2 : tmps[2]? = some (.pointer (some ⟨w.heap.size, 0, none⟩))) :
    bodyPost Tryz.prog fn (fun e w' => e = .returned (.agg #[v0, v1, v2, v3, v4]) ∧ Below w.heap.size w w') .ret { tmps := tmps, defers := [] } (set5 w3 w.heap.size v0 v1 v2 v3 v4) := by
  refine bodyPost_ret (res_flt hf tmps w.heap.size _ _ _ _ _ _ h2 (set5_at w3 w.heap.size _ _ _ _ _ _ _ _ _ _ _ hv)) rfl ?_
  exact ⟨rfl, hb.trans (below_of_grown (set5_grown w3 w.heap.size v0 v1 v2 v3 v4) (Nat.le_refl _) hb.size)⟩
theorem as_nil_at {w : World} (v : Value) :
    Calls Tryz.prog 19 #[.nilIface, v] ((w.alloc (.cells zero5 27)).alloc (.cells #[.pointer none] 57)) fun e w' => e = .returned (.bool false) ∧ Below w.heap.size w w' ∧ w'.heap[w.heap.size]? = some (.cells zero5 27 (0, 0)) := by
  refine (as_nil _ _).mono ?_
  rintro e w' ⟨rfl, rfl⟩
  refine ⟨rfl, ((Below.refl _ _).alloc (Nat.le_refl _) _).alloc (by simp) _, ?_⟩
  show ((w.heap.push _).push _)[w.heap.size]? = _
  rw [push_lt _ _ _ (by simp)]
  exact push_at w.heap _
theorem as_at {w : World} {q : Nat} (hg : w.cell? ⟨2, 0, none⟩ = some (.iface 110 (.agg #[.pointer (some ⟨16, 38, none⟩)]))) (hs : 16 ≤ w.heap.size) :
    Calls Tryz.prog 19 #[.iface 57 (.pointer (some ⟨q, 0, none⟩)), .iface 59 (.pointer (some ⟨w.heap.size + 1, 0, none⟩))] ((w.alloc (.cells zero5 27)).alloc (.cells #[.pointer none] 57)) fun e w' => e = .returned (.bool true) ∧ Below w.heap.size w w' ∧ w'.heap[w.heap.size]? = some (.cells zero5 27 (0, 0)) ∧ w'.cell? ⟨w.heap.size + 1, 0, none⟩ = some (.pointer (some ⟨q, 0, none⟩)) := by
  have b2 : Below w.heap.size w ((w.alloc (.cells zero5 27)).alloc (.cells #[.pointer none] 57)) := ((Below.refl _ _).alloc (Nat.le_refl _) _).alloc (by simp) _
  have hv : ((w.alloc (.cells zero5 27)).alloc (.cells #[.pointer none] 57)).heap[w.heap.size]? = some (.cells zero5 27 (0, 0)) := by
    show ((w.heap.push _).push _)[w.heap.size]? = _
    rw [push_lt _ _ _ (by simp)]
    exact push_at w.heap _
  have ht : ((w.alloc (.cells zero5 27)).alloc (.cells #[.pointer none] 57)).heap[w.heap.size + 1]? = some (.cells #[.pointer none] 57 (0, 0)) := by
    have := push_at (w.heap.push (.cells zero5 27)) (.cells #[.pointer none] 57)
    rwa [Array.size_push] at this
  generalize ((w.alloc (.cells zero5 27)).alloc (.cells #[.pointer none] 57)) = w0 at *
  refine (as_hit ⟨q, 0, none⟩ ⟨w.heap.size + 1, 0, none⟩ (.pointer none) w0 (by rw [cell_below b2 _ _ (by omega)]; exact hg) (by rw [cell_of_row w0 _ 0 _ _ (0, 0) ht]; rfl) (frozen_of_row w0 _ 0 _ _ ht)).mono ?_
  rintro e w' ⟨rfl, rfl⟩
  have hl := heap_lt ht
  have b3 := ((((Below.refl w0.heap.size w0).alloc (Nat.le_refl _) (.cells #[.pointer (some ⟨w.heap.size + 1, 0, none⟩)] 59)).alloc (by simp) (.cells #[.pointer (some ⟨16, 59, none⟩), .pointer (some ⟨w0.heap.size, 0, none⟩), .int .u64 150] 83)).alloc (by simp; omega) (.cells #[.pointer (some ⟨16, 59, none⟩), .pointer (some ⟨w0.heap.size, 0, none⟩), .int .u64 150] 83)).alloc (by simp; omega) (.cells #[.pointer (some ⟨q, 0, none⟩)] 57)
  generalize ((((w0.alloc (.cells #[.pointer (some ⟨w.heap.size + 1, 0, none⟩)] 59)).alloc (.cells #[.pointer (some ⟨16, 59, none⟩), .pointer (some ⟨w0.heap.size, 0, none⟩), .int .u64 150] 83)).alloc (.cells #[.pointer (some ⟨16, 59, none⟩), .pointer (some ⟨w0.heap.size, 0, none⟩), .int .u64 150] 83)).alloc (.cells #[.pointer (some ⟨q, 0, none⟩)] 57)) = w4 at *
  have ht4 := (b3.block _ hl).trans ht
  have hv4 := (b3.block _ (heap_lt hv)).trans hv
  have g4 := grown_set w4 (w.heap.size + 1) 0 (.pointer (some ⟨q, 0, none⟩))
  have b4 : Below w.heap.size w w4 := b2.trans (b3.mono b2.size)
  refine ⟨rfl, b4.trans (below_of_grown g4 (by omega) b4.size), (g4.block _ (heap_lt hv4) (fun e => absurd (Option.some.inj e) (by omega))).trans hv4, ?_⟩
  rw [cell_of_row _ _ 0 _ _ (0, 0) (heap_setCell_same w4 (w.heap.size + 1) 0 _ _ _ ht4)]
  rfl
end Go.Proofs.YtnmknnkpkkefoaaGreatDoor
