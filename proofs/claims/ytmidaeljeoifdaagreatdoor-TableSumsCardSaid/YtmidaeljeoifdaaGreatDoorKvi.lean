import Derived.Test.YtmidaeljeoifdaaGreatDoorKvh
import Derived.Laws.Tables
import Derived.Deep.DeepAppendWide
namespace Go.Proofs.YtmidaeljeoifdaaGreatDoor
set_option maxRecDepth 100000
set_option maxHeartbeats 16000000
open Go.RowKit
set_option linter.unusedVariables false
def tkS (nm : UInt8) : Tk := ⟨[nm], 1, false, 1, [], [], [], []⟩
def cfS (ts : List Tk) : Cf := ⟨[99], [111], false, false, false, false, false, false, false, false, [[109]], ts, [], [], [], [], [], []⟩
def vsS (bm : Nat) (t : Sl) : Vs := ⟨⟨some ⟨bm, 0, none⟩, 1, 1⟩, t, noS, noS, noS, noS, noS, noS⟩
def tkC (nm : UInt8) : List Value := [S [nm], I 1, .bool false, I 1, .slice none 0 0, .slice none 0 0, .slice none 0 0, .slice none 0 0]
theorem all1 : allF (cfS [tkS 116]) = none := by rfl
theorem lens (ts : List Tk) (h : ts.length ≤ 2) : LensOK (cfS ts) := ⟨by show ts.length ≤ _; omega, Nat.zero_le _, Nat.zero_le _, Nat.zero_le _, Nat.zero_le _, Nat.zero_le _, Nat.zero_le _⟩
theorem none_at {α : Type} {w : World} {k : Nat} {P : α → Nat → Value → Prop} : RowsAt w k P noS [] := ⟨rfl, Nat.le_refl _, Nat.zero_le _, fun j x hj => by simp at hj⟩
theorem ints0 {w : World} : IntsV w [] (.slice none 0 0) := ⟨noS, rfl, none_at⟩
theorem tk_cell {w : World} {nm : UInt8} {i : Nat} (hi : i < 8) {u : Value} (h : (tkC nm)[i]? = some u) : tkP w (tkS nm) i u := by
 have h8 : i = 0 ∨ i = 1 ∨ i = 2 ∨ i = 3 ∨ i = 4 ∨ i = 5 ∨ i = 6 ∨ i = 7 := by omega
 rcases h8 with rfl | rfl | rfl | rfl | rfl | rfl | rfl | rfl <;> (obtain rfl := Option.some.inj h; first | rfl | exact ints0)
theorem flat8 (l : List UInt8) (j : Nat) (x : UInt8) (hj : l[j]? = some x) (i : Nat) (hi : i < 8) : (l.flatMap tkC)[j * 8 + i]? = (tkC x)[i]? := by
 induction l generalizing j with
 | nil => simp at hj
 | cons y r ih =>
  have e1 : (y :: r).flatMap tkC = tkC y ++ r.flatMap tkC := rfl
  have h2 : (tkC y).length = 8 := rfl
  rw [e1]
  cases j with
  | zero =>
   obtain rfl : y = x := by simpa using hj
   rw [List.getElem?_append_left (by omega)]
   simp
  | succ j =>
   rw [List.getElem?_append_right (by omega), h2, show (j + 1) * 8 + i - 8 = j * 8 + i by omega]
   exact ih j (by simpa using hj)
theorem rows_tk {w : World} {g cap : Nat} {cur : Array Value} (hg : w.heap[g]? = some (.cells cur 58 (0, 0))) (l : List UInt8) (hc : l.length ≤ cap) (hm : cap ≤ maxLen) (htk : cur.toList.take (l.length * 8) = l.flatMap tkC) :
  RowsAt w 8 (tkP w) ⟨some ⟨g, 0, none⟩, l.length, cap⟩ (l.map tkS) := by
 refine ⟨by simp, hc, hm, fun j x hj => ⟨g, 0, rfl, heap_lt hg, fun i hi => ?_⟩⟩
 rw [List.getElem?_map] at hj
 obtain ⟨y, hy, rfl⟩ := Option.map_eq_some_iff.1 hj
 have hjl := (List.getElem?_eq_some_iff.1 hy).1
 have hf := flat8 l j y hy i hi
 rw [← htk, List.getElem?_take, if_pos (by omega), Array.getElem?_toList] at hf
 have hl : i < (tkC y).length := hi
 refine ⟨(tkC y)[i], ?_, tk_cell hi (List.getElem?_eq_getElem hl)⟩
 rw [Nat.zero_add, cell_of_row w g _ _ _ (0, 0) hg, hf]
 exact List.getElem?_eq_getElem hl
theorem small_at {w : World} {bm g cap : Nat} {cur : Array Value} (hbm : w.heap[bm]? = some (.cells #[S [109]] 9 (0, 0))) (hg : w.heap[g]? = some (.cells cur 58 (0, 0))) (l : List UInt8) (hc : l.length ≤ cap) (hm : cap ≤ maxLen) (htk : cur.toList.take (l.length * 8) = l.flatMap tkC) :
  CfAt w (cfS (l.map tkS)) (vsS bm ⟨some ⟨g, 0, none⟩, l.length, cap⟩) :=
 ⟨rows_str hbm, rows_tk hg l hc hm htk, none_at, none_at, none_at, none_at, none_at, none_at⟩
theorem res_cf {fn : Func} {n : Nat} (hf : fn.results = #[.cell n 47]) (tmps : Array Value) (b : Nat) (w : World) (C : Array Value) (hi18 : (Tryz.prog.info? 47).map (·.size) = some C.size)
  (h2 : tmps[n]? = some (.pointer (some ⟨b, 0, none⟩))) (hk : w.heap[b]? = some (.cells C 47 (0, 0))) : (results fn tmps).run Tryz.prog w = .ok (.agg C) w := by
 have hr := run_loadVar_row w b 47 47 C (0, 0) _ hk Tryz.underlying47 rfl hi18
 simp [results, hf, h2, asAddr, hr]
theorem h3_0 (w : World) (a b c : Obj) : (((w.alloc a).alloc b).alloc c).heap[w.heap.size]? = some a := by
 rw [heap_alloc_old ((w.alloc a).alloc b) c (by simp; omega)]
 exact heap_two0 w a b
theorem h3_2 (w : World) (a b c : Obj) : (((w.alloc a).alloc b).alloc c).heap[w.heap.size + 1 + 1]? = some c := by
 have := heap_alloc_new ((w.alloc a).alloc b) c
 rwa [show ((w.alloc a).alloc b).heap.size = w.heap.size + 1 + 1 by simp] at this
theorem below3 (w : World) (a b c : Obj) : Below w.heap.size w (((w.alloc a).alloc b).alloc c) := by
 have h1 := below_alloc w a
 have h2 := h1.trans ((below_alloc (w.alloc a) b).mono h1.size)
 exact h2.trans ((below_alloc ((w.alloc a).alloc b) c).mono h2.size)
theorem small_any (w : World) : Calls Tryz.prog 31 #[] w fun e w' => ∃ bm g, e = .returned (.agg (cfC (cfS [tkS 116]) (vsS bm ⟨some ⟨g, 0, none⟩, 1, 1⟩))) ∧ Below w.heap.size w w' ∧ w.heap.size ≤ g ∧ w'.heap[bm]? = some (.cells #[S [109]] 9 (0, 0)) ∧ w'.heap[g]? = some (.cells (tkC 116).toArray 58 (0, 0)) := by
 go_enter Tryz.func31, Tryz.ntmps31
 go_wp2
 refine bodyPost_ret (v := .agg (cfC (cfS [tkS 116]) (vsS (w.heap.size + 1) ⟨some ⟨w.heap.size + 1 + 1, 0, none⟩, 1, 1⟩))) (res_cf Tryz.results31 _ w.heap.size _ _ (by kernel_rfl) rfl (h3_0 _ _ _ _)) rfl ?_
 exact ⟨w.heap.size + 1, w.heap.size + 1 + 1, rfl, below3 _ _ _ _, by omega, heap_three _ _ _ _, h3_2 _ _ _ _⟩
end Go.Proofs.YtmidaeljeoifdaaGreatDoor
