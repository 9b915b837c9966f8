import Derived.Test.YtmidaeljeoifdaaGreatDoorTie9
namespace Go.Proofs.YtmidaeljeoifdaaGreatDoor
open Go.RowKit Go.Shelf Go.Sort Go.Maps
set_option linter.unusedVariables false
set_option linter.unusedSimpArgs false
set_option maxHeartbeats 8000000
set_option maxRecDepth 100000
theorem heap_n2 (w : World) (o o2 : Obj) : ((w.alloc o).alloc o2).heap[w.heap.size + 1]? = some o2 := by
 have := heap_alloc_new (w.alloc o) o2
 rw [World.size_alloc] at this
 exact this
theorem counterRow_any (w : World) (x : Ct) : Calls Tryz.prog 88 (#[.agg #[S x.name, .int .u32 (x.max : Int), .int .u32 (x.base : Int), .int .u32 (x.min : Int)]] ++ #[]) w fun e w' => e = .returned (.agg #[.int .u32 (x.max : Int), .int .u32 (x.base : Int), .int .u32 (x.min : Int)]) ∧ Below w.heap.size w w' := by
 have hb : ∀ o o2, Below w.heap.size w ((w.alloc o).alloc o2) := fun o o2 => (below_alloc w o).trans ((below_alloc _ o2).mono (by simp))
 have hi3 : (Tryz.prog.info? 91).map (·.size) = some 3 := by kernel_rfl
 go_enter Tryz.func88, Tryz.ntmps88
 go_wp2
 refine bodyPost_ret (results_cell_row rfl _ _ (w.heap.size + 1) 91 _ (0, 0) _ rfl (heap_n2 _ _ _) Tryz.underlying91 rfl hi3) rfl ?_
 exact ⟨rfl, hb _ _⟩
def actM (c : Cf) (a : Ac) : Nat := if a.kind = 2 then evM c a.event else 0
theorem heap_over9 (w : World) (o : Obj) {g : Nat} {x : Obj} (h : w.heap[g]? = some x) : (w.alloc o).heap[g]? = some x := by
 have hg : g < w.heap.size := by
  rcases Nat.lt_or_ge g w.heap.size with h' | h'
  ·exact h'
  ·rw [Array.getElem?_eq_none h'] at h; cases h
 rw [heap_alloc_old w o hg]; exact h
theorem heap_n3 (w : World) (o1 o2 o3 o4 : Obj) : ((((w.alloc o1).alloc o2).alloc o3).alloc o4).heap[w.heap.size + 1 + 1]? = some o3 := by
 have h := heap_alloc_new ((w.alloc o1).alloc o2) o3
 rw [World.size_alloc, World.size_alloc] at h
 exact heap_over9 _ o4 h
theorem below_n4 (w : World) (o1 o2 o3 o4 : Obj) : Below w.heap.size w ((((w.alloc o1).alloc o2).alloc o3).alloc o4) :=
 (((below_alloc w o1).trans ((below_alloc _ o2).mono (by simp))).trans ((below_alloc _ o3).mono (by simp; omega))).trans ((below_alloc _ o4).mono (by simp; omega))
theorem actRow_any9 (w : World) (c : Cf) (v : Vs) (h : CfAt w c v) (a : Ac) (hid : a.kind = 2 → 0 ≤ a.event ∧ a.event < c.evs.length) : Calls Tryz.prog 156 #[.agg (cfC c v), .agg #[I a.kind, I a.task, I a.event, S a.name]] w fun e w' => e = .returned (.agg #[I a.kind, I a.task, .int .u32 ((actM c a : Nat) : Int)]) ∧ Below w.heap.size w w' := by
 have hi3 : (Tryz.prog.info? 93).map (·.size) = some 3 := by kernel_rfl
 have hb := below_n4 w
 by_cases h2 : a.kind = 2
 ·obtain ⟨k0, k1⟩ := hid h2
  obtain ⟨k, hk⟩ := Int.eq_ofNat_of_zero_le k0
  have hkl : k < c.evs.length := by omega
  obtain ⟨y, hy⟩ : ∃ y, c.evs[k]? = some y := ⟨_, List.getElem?_eq_getElem hkl⟩
  have HR : Hid (actM c a = y.mask) := by show _ = _; unfold actM evM; rw [if_pos h2, hk, Int.toNat_natCast, hy]
  rw [HR.out]
  have HQ : Hid (∀ o2 o3 o4, ((((w.alloc (.cells (cfC c v) 47)).alloc o2).alloc o3).alloc o4).cell? ⟨w.heap.size, 13, none⟩ = some (.slice v.e.a v.e.n v.e.c)) := fun o2 o3 o4 => by
   rw [cell_of_row _ _ 13 _ _ (0, 0) (heap_over9 _ _ (heap_over9 _ _ (heap_over9 _ _ (heap_alloc_new w _))))]; rfl
  obtain ⟨g6, o6, e6, hg6, -, b6, -⟩ := ev_at h hy
  have q13 := HQ.out
  rw [e6] at q13
  have b6' : ∀ o1 o2 o3 o4, ((((w.alloc o1).alloc o2).alloc o3).alloc o4).cell? ⟨g6, o6 + k * 3 + 1, none⟩ = some (.int .u32 (y.mask : Int)) := fun o1 o2 o3 o4 => by
   rw [World.cell?_of_block ((hb o1 o2 o3 o4).block g6 hg6)]
   exact b6
  have hkI : (k : Int) < v.e.n := by have := h.e.n; omega
  have hec : v.e.n ≤ v.e.c := h.e.c
  have hem : v.e.c ≤ maxLen := h.e.m
  unfold maxLen at hem
  have hkd : a.kind = 2 := h2
  obtain ⟨ak, at', ae, an⟩ := a
  dsimp only at hk hkd k0 k1
  subst hk hkd
  clear h hid HQ hy hkl e6 hg6 b6 h2 HR k0 k1
  generalize cfC c v = C at *
  generalize y.mask = my at *
  go_enter Tryz.func156, Tryz.ntmps156
  go_wp2
  refine bodyPost_ret (results_cell_row rfl _ _ (w.heap.size + 1 + 1) 93 _ (0, 0) _ rfl (heap_n3 _ _ _ _ _) Tryz.underlying93 rfl hi3) rfl ?_
  exact ⟨rfl, hb _ _ _ _⟩
 ·have HR : Hid (actM c a = 0) := by show _ = _; unfold actM; rw [if_neg h2]
  rw [HR.out]
  have h2b : (a.kind == 2) = false := beq_eq_false_iff_ne.2 h2
  clear hid h
  generalize cfC c v = C at *
  go_enter Tryz.func156, Tryz.ntmps156
  go_wp2
  refine bodyPost_ret (results_cell_row rfl _ _ (w.heap.size + 1 + 1) 93 _ (0, 0) _ rfl (heap_n3 _ _ _ _ _) Tryz.underlying93 rfl hi3) rfl ?_
  exact ⟨rfl, hb _ _ _ _⟩
end Go.Proofs.YtmidaeljeoifdaaGreatDoor
