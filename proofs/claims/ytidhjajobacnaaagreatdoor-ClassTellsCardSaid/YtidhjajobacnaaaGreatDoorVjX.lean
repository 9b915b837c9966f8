import Derived.Test.YtidhjajobacnaaaGreatDoorVfX
import Derived.Laws.Tables
import Derived.Deep.DeepAppendWide
namespace Go.Proofs.YtidhjajobacnaaaGreatDoor
open Go.RowKit
set_option linter.unusedVariables false

/-! ### The small configurations of heads -/
def tkS (nm : UInt8) : Tk := ⟨[nm], 1, false, 1, [], [], [], []⟩
def cfS (ts : List Tk) : Cf := ⟨[99], [111], false, false, false, false, false, false, false, false, [[109]], ts, [], [], [], [], [], []⟩
def vsS (bm : Nat) (t : Sl) : Vs := ⟨⟨some ⟨bm, 0, none⟩, 1, 1⟩, t, noS, noS, noS, noS, noS, noS⟩
def tkC (nm : UInt8) : List Value := [S [nm], I 1, .bool false, I 1, .slice none 0 0, .slice none 0 0, .slice none 0 0, .slice none 0 0]
theorem all1 : allF (cfS [tkS 116]) = none := by rfl
theorem all2 : allF (cfS [tkS 116, tkS 116]) = some (72, [84, 65, 83, 75], 1) := by rfl
theorem all3 : allF (cfS [tkS 116, tkS 117]) = none := by rfl
theorem cls1 : clsL (cfS [tkS 116]) = (1, 0) := by rfl
theorem cls3 : clsL (cfS [tkS 116, tkS 117]) = (2, 0) := by rfl
theorem lens (ts : List Tk) (h : ts.length ≤ 2) : LensOK (cfS ts) := ⟨by show ts.length ≤ _; omega, Nat.zero_le _, Nat.zero_le _, Nat.zero_le _, Nat.zero_le _, Nat.zero_le _, Nat.zero_le _⟩
theorem none_at {α : Type} {w : World} {k : Nat} {P : α → Nat → Value → Prop} : RowsAt w k P noS [] := ⟨rfl, Nat.le_refl _, Nat.zero_le _, fun j x hj => by simp at hj⟩
theorem ints0 {w : World} : IntsV w [] (.slice none 0 0) := ⟨noS, rfl, none_at⟩
theorem tk_cell {w : World} {nm : UInt8} {i : Nat} (hi : i < 8) {u : Value} (h : (tkC nm)[i]? = some u) : tkP w (tkS nm) i u := by
  have h8 : i = 0 ∨ i = 1 ∨ i = 2 ∨ i = 3 ∨ i = 4 ∨ i = 5 ∨ i = 6 ∨ i = 7 := by omega
  rcases h8 with rfl | rfl | rfl | rfl | rfl | rfl | rfl | rfl <;> (obtain rfl := Option.some.inj h; first | rfl | exact ints0)
theorem flat8 (l : List UInt8) (j : Nat) (x : UInt8) (hj : l[j]? = some x) (i : Nat) (hi : i < 8) : (l.flatMap tkC)[j * 8 + i]? = (tkC x)[i]? := by
  induction l generalizing j with
  | nil => simp at hj
  | cons y r ih =>
    have e1 : (y :: r).flatMap tkC = tkC y ++ r.flatMap tkC := rfl
    have h2 : (tkC y).length = 8 := rfl
    rw [e1]
    cases j with
    | zero =>
      obtain rfl : y = x := by simpa using hj
      rw [List.getElem?_append_left (by omega)]
      simp
    | succ j =>
      rw [List.getElem?_append_right (by omega), h2, show (j + 1) * 8 + i - 8 = j * 8 + i by omega]
      exact ih j (by simpa using hj)
theorem rows_tk {w : World} {g cap : Nat} {cur : Array Value} (hg : w.heap[g]? = some (.cells cur 41 (0, 0))) (l : List UInt8) (hc : l.length ≤ cap) (hm : cap ≤ maxLen) (htk : cur.toList.take (l.length * 8) = l.flatMap tkC) :
    RowsAt w 8 (tkP w) ⟨some ⟨g, 0, none⟩, l.length, cap⟩ (l.map tkS) := by
  refine ⟨by simp, hc, hm, fun j x hj => ⟨g, 0, rfl, heap_lt hg, fun i hi => ?_⟩⟩
  rw [List.getElem?_map] at hj
  obtain ⟨y, hy, rfl⟩ := Option.map_eq_some_iff.1 hj
  have hjl := (List.getElem?_eq_some_iff.1 hy).1
  have hf := flat8 l j y hy i hi
  rw [← htk, List.getElem?_take, if_pos (by omega), Array.getElem?_toList] at hf
  have hl : i < (tkC y).length := hi
  refine ⟨(tkC y)[i], ?_, tk_cell hi (List.getElem?_eq_getElem hl)⟩
  rw [Nat.zero_add, cell_of_row w g _ _ _ (0, 0) hg, hf]
  exact List.getElem?_eq_getElem hl
theorem small_at {w : World} {bm g cap : Nat} {cur : Array Value} (hbm : w.heap[bm]? = some (.cells #[S [109]] 9 (0, 0))) (hg : w.heap[g]? = some (.cells cur 41 (0, 0))) (l : List UInt8) (hc : l.length ≤ cap) (hm : cap ≤ maxLen) (htk : cur.toList.take (l.length * 8) = l.flatMap tkC) :
    CfAt w (cfS (l.map tkS)) (vsS bm ⟨some ⟨g, 0, none⟩, l.length, cap⟩) :=
  ⟨rows_str hbm, rows_tk hg l hc hm htk, none_at, none_at, none_at, none_at, none_at, none_at⟩
theorem res_cf {fn : Func} {n : Nat} (hf : fn.results = #[.cell n 33]) (tmps : Array Value) (b : Nat) (w : World) (C : Array Value) (hi18 : (Tryz.prog.info? 33).map (·.size) = some C.size)
    (h2 : tmps[n]? = some (.pointer (some ⟨b, 0, none⟩))) (hk : w.heap[b]? = some (.cells C 33 (0, 0))) : (results fn tmps).run Tryz.prog w = .ok (.agg C) w := by
  have hr := run_loadVar_row w b 33 33 C (0, 0) _ hk Tryz.underlying33 rfl hi18
  simp [results, hf, h2, asAddr, hr]
def zero18 : Array Value := #[.string ⟨#[]⟩, .string ⟨#[]⟩, .bool false, .bool false, .bool false, .bool false, .bool false, .bool false, .bool false, .bool false, .slice none 0 0, .slice none 0 0, .slice none 0 0, .slice none 0 0, .slice none 0 0, .slice none 0 0, .slice none 0 0, .slice none 0 0]
theorem h3_0 (w : World) (a b c : Obj) : (((w.alloc a).alloc b).alloc c).heap[w.heap.size]? = some a := by
  rw [heap_alloc_old ((w.alloc a).alloc b) c (by simp; omega)]
  exact heap_two0 w a b
theorem h3_2 (w : World) (a b c : Obj) : (((w.alloc a).alloc b).alloc c).heap[w.heap.size + 1 + 1]? = some c := by
  have := heap_alloc_new ((w.alloc a).alloc b) c
  rwa [show ((w.alloc a).alloc b).heap.size = w.heap.size + 1 + 1 by simp] at this
theorem below3 (w : World) (a b c : Obj) : Below w.heap.size w (((w.alloc a).alloc b).alloc c) := by
  have h1 := below_alloc w a
  have h2 := h1.trans ((below_alloc (w.alloc a) b).mono h1.size)
  exact h2.trans ((below_alloc ((w.alloc a).alloc b) c).mono h2.size)
set_option maxHeartbeats 2000000 in
set_option maxRecDepth 100000 in
theorem small_any (w : World) : Calls Tryz.prog 18 #[] w fun e w' => ∃ bm g, e = .returned (.agg (cfC (cfS [tkS 116]) (vsS bm ⟨some ⟨g, 0, none⟩, 1, 1⟩))) ∧ Below w.heap.size w w' ∧ w.heap.size ≤ g ∧ w'.heap[bm]? = some (.cells #[S [109]] 9 (0, 0)) ∧ w'.heap[g]? = some (.cells (tkC 116).toArray 41 (0, 0)) := by
  go_enter Tryz.func18, Tryz.ntmps18
  go_wp2
  refine bodyPost_ret (v := .agg (cfC (cfS [tkS 116]) (vsS (w.heap.size + 1) ⟨some ⟨w.heap.size + 1 + 1, 0, none⟩, 1, 1⟩))) (res_cf Tryz.results18 _ w.heap.size _ _ (by kernel_rfl) rfl (h3_0 _ _ _ _)) rfl ?_
  exact ⟨w.heap.size + 1, w.heap.size + 1 + 1, rfl, below3 _ _ _ _, by omega, heap_three _ _ _ _, h3_2 _ _ _ _⟩
end Go.Proofs.YtidhjajobacnaaaGreatDoor

namespace Go.Proofs.YtidhjajobacnaaaGreatDoor
open Go.RowKit
set_option linter.unusedVariables false

/-! ### heads -/
/-- What heads has in memory: its configuration's variable, the modes, the tasks. -/
structure HS (w W : World) (bc bm g : Nat) (C cur : Array Value) : Prop where
  below : Below w.heap.size w W
  hc : W.heap[bc]? = some (.cells C 33 (0, 0))
  hm : W.heap[bm]? = some (.cells #[S [109]] 9 (0, 0))
  ht : W.heap[g]? = some (.cells cur 41 (0, 0))
  bge : w.heap.size ≤ bc
  gge : w.heap.size ≤ g
theorem apart_at {W : World} {a b : Nat} {x y : Obj} (ha : W.heap[a]? = some x) (hb : W.heap[b]? = some y) (h : x ≠ y) : a ≠ b := fun e => h (by subst e; exact Option.some.inj (ha.symm.trans hb))
theorem HS.step {w W W' : World} {bc bm g : Nat} {C cur : Array Value} (h : HS w W bc bm g C cur) (hb : Below W.heap.size W W') : HS w W' bc bm g C cur :=
  ⟨h.below.trans (hb.mono h.below.size), (hb.block _ (heap_lt h.hc)).trans h.hc, (hb.block _ (heap_lt h.hm)).trans h.hm, (hb.block _ (heap_lt h.ht)).trans h.ht, h.bge, h.gge⟩
def cS (bm g cap : Nat) (l : List UInt8) : Array Value := cfC (cfS (l.map tkS)) (vsS bm ⟨some ⟨g, 0, none⟩, l.length, cap⟩)
theorem info18 (C : Array Value) (h : C.size = 18) : (Tryz.prog.info? 33).map (·.size) = some C.size := by rw [h]; kernel_rfl
theorem cS_size (bm g cap : Nat) (l : List UInt8) : (cS bm g cap l).size = 18 := rfl
theorem HS.check {w W : World} {bc bm g cap : Nat} {cur : Array Value} {l : List UInt8} (h : HS w W bc bm g (cS bm g cap l) cur) (hE : EnvE w) (hl : l.length ≤ 2) (hc : l.length ≤ cap) (hm : cap ≤ maxLen) (htk : cur.toList.take (l.length * 8) = l.flatMap tkC) (o : Option (Int × List UInt8 × Int)) (ho : allF (cfS (l.map tkS)) = o) :
    Calls Tryz.prog 7 #[.agg (cS bm g cap l)] W fun e w' => VdPost W o e w' := by
  rw [← ho]
  exact check_any W _ _ (small_at h.hm h.ht l hc hm htk) (lens _ (by simpa using hl)) (hE.below h.below)
theorem HS.cls {w W : World} {bc bm g cap : Nat} {cur : Array Value} {l : List UInt8} (h : HS w W bc bm g (cS bm g cap l) cur) (hl : l.length ≤ 2) (hc : l.length ≤ cap) (hm : cap ≤ maxLen) (htk : cur.toList.take (l.length * 8) = l.flatMap tkC) (p : Int × Int) (hp : clsL (cfS (l.map tkS)) = p) :
    Calls Tryz.prog 11 #[.agg (cS bm g cap l)] W fun e w' => ClsPost W p e w' := by
  rw [← hp]
  exact class_any W _ _ (small_at h.hm h.ht l hc hm htk) (lens _ (by simpa using hl))
theorem HS.start {w w1 : World} {bm g : Nat} (hb : Below w.heap.size w w1) (hg : w.heap.size ≤ g) (hm : w1.heap[bm]? = some (.cells #[S [109]] 9 (0, 0))) (ht : w1.heap[g]? = some (.cells (tkC 116).toArray 41 (0, 0))) :
    HS w (w1.alloc (.cells (cS bm g 1 [116]) 33)) w1.heap.size bm g (cS bm g 1 [116]) (tkC 116).toArray := by
  have ha := below_alloc w1 (.cells (cS bm g 1 [116]) 33)
  exact ⟨hb.trans (ha.mono hb.size), heap_alloc_new w1 _, (ha.block _ (heap_lt hm)).trans hm, (ha.block _ (heap_lt ht)).trans ht, hb.size, hg⟩
theorem infoTk : ∃ i, Tryz.prog.info? 41 = some i ∧ i.zero = some (.agg #[.string ⟨#[]⟩, .int .i64 0, .bool false, .int .i64 0, .slice none 0 0, .slice none 0 0, .slice none 0 0, .slice none 0 0]) ∧ i.size = 8 ∧ i.bytes = 136 :=
  info_of (show (Tryz.prog.info? 41).map (fun i => (i.zero, i.size, i.bytes)) = some (some (.agg #[.string ⟨#[]⟩, .int .i64 0, .bool false, .int .i64 0, .slice none 0 0, .slice none 0 0, .slice none 0 0, .slice none 0 0]), 8, 136) by kernel_rfl)
theorem HS.own {w W : World} {bc bm g : Nat} {C : Array Value} (h : HS w W bc bm g C (tkC 116).toArray) : W.ownsRow w.heap.size 41 8 (.slice (some ⟨g, 0, none⟩) 1 1) 1 (tkC 116) :=
  ⟨rfl, .inr ⟨g, 1, _, rfl, h.gge, h.ht, Nat.le_refl _, by unfold maxLen; omega, rfl, rfl⟩⟩
theorem HS.app {w W W' : World} {bc bm g : Nat} {v : Value} (h : HS w W bc bm g (cS bm g 1 [116]) (tkC 116).toArray) (ho : W'.ownsRow w.heap.size 41 8 v 2 (tkC 116 ++ tkC 116)) (hg : W.grownBy W' (some g)) :
    ∃ g2 cap cur, v = .slice (some ⟨g2, 0, none⟩) 2 cap ∧ 2 ≤ cap ∧ cap ≤ maxLen ∧ 16 ≤ cur.size ∧ cur.toList.take 16 = [116, 116].flatMap tkC ∧ W'.heap[bc]? = some (.cells (cS bm g 1 [116]) 33 (0, 0)) ∧ HS w (W'.setCell ⟨bc, 11, none⟩ v) bc bm g2 (cS bm g2 cap [116, 116]) cur := by
  obtain ⟨_, ⟨_, h0⟩ | ⟨g2, cap, cur, rfl, hb1, hh, hnc, hcm, hcs, htk⟩⟩ := ho
  · omega
  · have n1 : bc ≠ g := apart_at h.hc h.ht (by simp)
    have n2 : bm ≠ g := apart_at h.hm h.ht (by simp)
    have n3 : bm ≠ bc := apart_at h.hm h.hc (by simp)
    have hc' : W'.heap[bc]? = some (.cells (cS bm g 1 [116]) 33 (0, 0)) := (hg.block _ (heap_lt h.hc) (fun e => n1 (Option.some.inj e))).trans h.hc
    have hm' : W'.heap[bm]? = some (.cells #[S [109]] 9 (0, 0)) := (hg.block _ (heap_lt h.hm) (fun e => n2 (Option.some.inj e))).trans h.hm
    have n4 : g2 ≠ bc := apart_at hh hc' (by simp)
    have hbl := h.below.grown hg h.below.size (fun k e => by cases e; exact h.gge)
    refine ⟨g2, cap, cur, rfl, hnc, hcm, by omega, htk, hc', below_set hbl h.bge hbl.size, heap_setCell_same _ _ 11 _ _ _ hc', ?_, ?_, h.bge, hb1⟩
    · rw [heap_setCell_other _ _ _ _ (fun e => n3 e)]; exact hm'
    · rw [heap_setCell_other _ _ _ _ (fun e => n4 e)]; exact hh
theorem HS.rename {w W : World} {bc bm g cap : Nat} {C cur : Array Value} {o : Obj} (h : HS w W bc bm g C cur) : HS w ((W.setCell ⟨g, 8, none⟩ (S [117])).alloc o) bc bm g C (cur.setIfInBounds 8 (S [117])) := by
  have n1 : bc ≠ g := apart_at h.hc h.ht (by simp)
  have n2 : bm ≠ g := apart_at h.hm h.ht (by simp)
  have hb := below_set (k := 8) (v := S [117]) h.below h.gge h.below.size
  have h1 : HS w (W.setCell ⟨g, 8, none⟩ (S [117])) bc bm g C (cur.setIfInBounds 8 (S [117])) := ⟨hb, by rw [heap_setCell_other _ _ _ _ (fun e => n1 e)]; exact h.hc, by rw [heap_setCell_other _ _ _ _ (fun e => n2 e)]; exact h.hm, heap_setCell_same _ _ 8 _ _ _ h.ht, h.bge, h.gge⟩
  exact h1.step (below_alloc _ _)
theorem take_ren {cur : Array Value} (hs : 16 ≤ cur.size) (h : cur.toList.take 16 = [116, 116].flatMap tkC) : (cur.setIfInBounds 8 (S [117])).toList.take 16 = [116, 117].flatMap tkC := by
  rw [Array.toList_setIfInBounds, List.take_set, h]
  rfl
end Go.Proofs.YtidhjajobacnaaaGreatDoor

