import Derived.Test.YtidhjajobacnaaaGreatDoorKvi
namespace Go.Proofs.YtidhjajobacnaaaGreatDoor
open Go.RowKit
set_option linter.unusedVariables false

/-! ### heads -/
/-- What heads has in memory: its configuration's variable, the modes, the tasks. -/
structure HS (w W : World) (bc bm g : Nat) (C cur : Array Value) : Prop where
  below : Below w.heap.size w W
  hc : W.heap[bc]? = some (.cells C 33 (0, 0))
  hm : W.heap[bm]? = some (.cells #[S [109]] 9 (0, 0))
  ht : W.heap[g]? = some (.cells cur 41 (0, 0))
  bge : w.heap.size ≤ bc
  gge : w.heap.size ≤ g
theorem apart_at {W : World} {a b : Nat} {x y : Obj} (ha : W.heap[a]? = some x) (hb : W.heap[b]? = some y) (h : x ≠ y) : a ≠ b := fun e => h (by subst e; exact Option.some.inj (ha.symm.trans hb))
theorem HS.step {w W W' : World} {bc bm g : Nat} {C cur : Array Value} (h : HS w W bc bm g C cur) (hb : Below W.heap.size W W') : HS w W' bc bm g C cur :=
  ⟨h.below.trans (hb.mono h.below.size), (hb.block _ (heap_lt h.hc)).trans h.hc, (hb.block _ (heap_lt h.hm)).trans h.hm, (hb.block _ (heap_lt h.ht)).trans h.ht, h.bge, h.gge⟩
def cS (bm g cap : Nat) (l : List UInt8) : Array Value := cfC (cfS (l.map tkS)) (vsS bm ⟨some ⟨g, 0, none⟩, l.length, cap⟩)
theorem info18 (C : Array Value) (h : C.size = 18) : (Tryz.prog.info? 33).map (·.size) = some C.size := by rw [h]; kernel_rfl
theorem cS_size (bm g cap : Nat) (l : List UInt8) : (cS bm g cap l).size = 18 := rfl
theorem HS.check {w W : World} {bc bm g cap : Nat} {cur : Array Value} {l : List UInt8} (h : HS w W bc bm g (cS bm g cap l) cur) (hE : EnvE w) (hl : l.length ≤ 2) (hc : l.length ≤ cap) (hm : cap ≤ maxLen) (htk : cur.toList.take (l.length * 8) = l.flatMap tkC) (o : Option (Int × List UInt8 × Int)) (ho : allF (cfS (l.map tkS)) = o) :
    Calls Tryz.prog 7 #[.agg (cS bm g cap l)] W fun e w' => VdPost W o e w' := by
  rw [← ho]
  exact check_any W _ _ (small_at h.hm h.ht l hc hm htk) (lens _ (by simpa using hl)) (hE.below h.below)
theorem HS.cls {w W : World} {bc bm g cap : Nat} {cur : Array Value} {l : List UInt8} (h : HS w W bc bm g (cS bm g cap l) cur) (hl : l.length ≤ 2) (hc : l.length ≤ cap) (hm : cap ≤ maxLen) (htk : cur.toList.take (l.length * 8) = l.flatMap tkC) (p : Int × Int) (hp : clsL (cfS (l.map tkS)) = p) :
    Calls Tryz.prog 11 #[.agg (cS bm g cap l)] W fun e w' => ClsPost W p e w' := by
  rw [← hp]
  exact class_any W _ _ (small_at h.hm h.ht l hc hm htk) (lens _ (by simpa using hl))
theorem HS.start {w w1 : World} {bm g : Nat} (hb : Below w.heap.size w w1) (hg : w.heap.size ≤ g) (hm : w1.heap[bm]? = some (.cells #[S [109]] 9 (0, 0))) (ht : w1.heap[g]? = some (.cells (tkC 116).toArray 41 (0, 0))) :
    HS w (w1.alloc (.cells (cS bm g 1 [116]) 33)) w1.heap.size bm g (cS bm g 1 [116]) (tkC 116).toArray := by
  have ha := below_alloc w1 (.cells (cS bm g 1 [116]) 33)
  exact ⟨hb.trans (ha.mono hb.size), heap_alloc_new w1 _, (ha.block _ (heap_lt hm)).trans hm, (ha.block _ (heap_lt ht)).trans ht, hb.size, hg⟩
theorem infoTk : ∃ i, Tryz.prog.info? 41 = some i ∧ i.zero = some (.agg #[.string ⟨#[]⟩, .int .i64 0, .bool false, .int .i64 0, .slice none 0 0, .slice none 0 0, .slice none 0 0, .slice none 0 0]) ∧ i.size = 8 ∧ i.bytes = 136 :=
  info_of (show (Tryz.prog.info? 41).map (fun i => (i.zero, i.size, i.bytes)) = some (some (.agg #[.string ⟨#[]⟩, .int .i64 0, .bool false, .int .i64 0, .slice none 0 0, .slice none 0 0, .slice none 0 0, .slice none 0 0]), 8, 136) by kernel_rfl)
theorem HS.own {w W : World} {bc bm g : Nat} {C : Array Value} (h : HS w W bc bm g C (tkC 116).toArray) : W.ownsRow w.heap.size 41 8 (.slice (some ⟨g, 0, none⟩) 1 1) 1 (tkC 116) :=
  ⟨rfl, .inr ⟨g, 1, _, rfl, h.gge, h.ht, Nat.le_refl _, by unfold maxLen; omega, rfl, rfl⟩⟩
theorem HS.app {w W W' : World} {bc bm g : Nat} {v : Value} (h : HS w W bc bm g (cS bm g 1 [116]) (tkC 116).toArray) (ho : W'.ownsRow w.heap.size 41 8 v 2 (tkC 116 ++ tkC 116)) (hg : W.grownBy W' (some g)) :
    ∃ g2 cap cur, v = .slice (some ⟨g2, 0, none⟩) 2 cap ∧ 2 ≤ cap ∧ cap ≤ maxLen ∧ 16 ≤ cur.size ∧ cur.toList.take 16 = [116, 116].flatMap tkC ∧ W'.heap[bc]? = some (.cells (cS bm g 1 [116]) 33 (0, 0)) ∧ HS w (W'.setCell ⟨bc, 11, none⟩ v) bc bm g2 (cS bm g2 cap [116, 116]) cur := by
  obtain ⟨_, ⟨_, h0⟩ | ⟨g2, cap, cur, rfl, hb1, hh, hnc, hcm, hcs, htk⟩⟩ := ho
  · omega
  · have n1 : bc ≠ g := apart_at h.hc h.ht (by simp)
    have n2 : bm ≠ g := apart_at h.hm h.ht (by simp)
    have n3 : bm ≠ bc := apart_at h.hm h.hc (by simp)
    have hc' : W'.heap[bc]? = some (.cells (cS bm g 1 [116]) 33 (0, 0)) := (hg.block _ (heap_lt h.hc) (fun e => n1 (Option.some.inj e))).trans h.hc
    have hm' : W'.heap[bm]? = some (.cells #[S [109]] 9 (0, 0)) := (hg.block _ (heap_lt h.hm) (fun e => n2 (Option.some.inj e))).trans h.hm
    have n4 : g2 ≠ bc := apart_at hh hc' (by simp)
    have hbl := h.below.grown hg h.below.size (fun k e => by cases e; exact h.gge)
    refine ⟨g2, cap, cur, rfl, hnc, hcm, by omega, htk, hc', below_set hbl h.bge hbl.size, heap_setCell_same _ _ 11 _ _ _ hc', ?_, ?_, h.bge, hb1⟩
    · rw [heap_setCell_other _ _ _ _ (fun e => n3 e)]; exact hm'
    · rw [heap_setCell_other _ _ _ _ (fun e => n4 e)]; exact hh
theorem HS.rename {w W : World} {bc bm g cap : Nat} {C cur : Array Value} {o : Obj} (h : HS w W bc bm g C cur) : HS w ((W.setCell ⟨g, 8, none⟩ (S [117])).alloc o) bc bm g C (cur.setIfInBounds 8 (S [117])) := by
  have n1 : bc ≠ g := apart_at h.hc h.ht (by simp)
  have n2 : bm ≠ g := apart_at h.hm h.ht (by simp)
  have hb := below_set (k := 8) (v := S [117]) h.below h.gge h.below.size
  have h1 : HS w (W.setCell ⟨g, 8, none⟩ (S [117])) bc bm g C (cur.setIfInBounds 8 (S [117])) := ⟨hb, by rw [heap_setCell_other _ _ _ _ (fun e => n1 e)]; exact h.hc, by rw [heap_setCell_other _ _ _ _ (fun e => n2 e)]; exact h.hm, heap_setCell_same _ _ 8 _ _ _ h.ht, h.bge, h.gge⟩
  exact h1.step (below_alloc _ _)
theorem take_ren {cur : Array Value} (hs : 16 ≤ cur.size) (h : cur.toList.take 16 = [116, 116].flatMap tkC) : (cur.setIfInBounds 8 (S [117])).toList.take 16 = [116, 117].flatMap tkC := by
  rw [Array.toList_setIfInBounds, List.take_set, h]
  rfl
end Go.Proofs.YtidhjajobacnaaaGreatDoor
