import Derived.Test.YtnmknnkpkkefoaaGreatDoorLea
import Derived.Test.YtnmknnkpkkefoaaGreatDoorLsc
namespace Go.Proofs.YtnmknnkpkkefoaaGreatDoor
open Go.RowKit
set_option linter.unusedVariables false


def scV (s : ByteArray) (off line beg : Nat) : Array Value := #[.string s, .int .i64 (off : Int), .int .i64 (line : Int), .int .i64 (beg : Int)]
/-- A block that holds a scanner. -/
structure Sc4 (w : World) (r : Nat) (s : ByteArray) (off line beg : Nat) : Prop where
  hheap : w.heap[r]? = some (.cells (scV s off line beg) 53 (0, 0))
def Sc (w : World) (r : Nat) (s : ByteArray) (off : Nat) : Prop := Sc4 w r s off (lineN s.data.toList off) (begN s.data.toList off)
theorem Sc4.c0 {w : World} {r : Nat} {s : ByteArray} {off line beg : Nat} (h : Sc4 w r s off line beg) : w.cell? ⟨r, 0, none⟩ = some (.string s) := by
  rw [cell_of_row w r 0 _ _ (0, 0) h.hheap]; rfl
theorem Sc4.c1 {w : World} {r : Nat} {s : ByteArray} {off line beg : Nat} (h : Sc4 w r s off line beg) : w.cell? ⟨r, 1, none⟩ = some (.int .i64 (off : Int)) := by
  rw [cell_of_row w r 1 _ _ (0, 0) h.hheap]; rfl
theorem Sc4.c2 {w : World} {r : Nat} {s : ByteArray} {off line beg : Nat} (h : Sc4 w r s off line beg) : w.cell? ⟨r, 2, none⟩ = some (.int .i64 (line : Int)) := by
  rw [cell_of_row w r 2 _ _ (0, 0) h.hheap]; rfl
theorem Sc4.c3 {w : World} {r : Nat} {s : ByteArray} {off line beg : Nat} (h : Sc4 w r s off line beg) : w.cell? ⟨r, 3, none⟩ = some (.int .i64 (beg : Int)) := by
  rw [cell_of_row w r 3 _ _ (0, 0) h.hheap]; rfl
theorem Sc4.fz {w : World} {r : Nat} {s : ByteArray} {off line beg : Nat} (h : Sc4 w r s off line beg) (k : Nat) : w.frozen? ⟨r, k, none⟩ = false :=
  frozen_of_row w r k _ _ h.hheap
theorem Sc4.lt {w : World} {r : Nat} {s : ByteArray} {off line beg : Nat} (h : Sc4 w r s off line beg) : r < w.heap.size := by
  rcases Nat.lt_or_ge r w.heap.size with h' | h'
  · exact h'
  · have := h.hheap; rw [Array.getElem?_eq_none h'] at this; cases this
theorem Sc4.below {w w' : World} {r : Nat} {s : ByteArray} {off line beg : Nat} (h : Sc4 w r s off line beg) (hb : Below w.heap.size w w') : Sc4 w' r s off line beg :=
  ⟨(hb.block r h.lt).trans h.hheap⟩
theorem grown_refl (w : World) (r : Option Nat) : w.grownBy w r := ⟨rfl, rfl, rfl, Nat.le_refl _, fun _ _ _ => rfl⟩
theorem Sc4.alloc {w : World} {r : Nat} {s : ByteArray} {off line beg : Nat} (h : Sc4 w r s off line beg) (o : Obj) : Sc4 (w.alloc o) r s off line beg := h.below ((Below.refl _ _).alloc (Nat.le_refl _) _)
theorem grown_trans {a b c : World} {r : Option Nat} (h : a.grownBy b r) (k : b.grownBy c r) : a.grownBy c r :=
  ⟨k.os.trans h.os, k.tape.trans h.tape, k.output.trans h.output, Nat.le_trans h.size k.size, fun i hi hr => (k.block i (Nat.lt_of_lt_of_le hi h.size) hr).trans (h.block i hi hr)⟩
theorem grown_of_below {a b : World} {r : Option Nat} (h : Below a.heap.size a b) : a.grownBy b r := ⟨h.os, h.tape, h.output, h.size, fun i hi _ => h.block i hi⟩
theorem below_of_grown {a b : World} {r B : Nat} (h : a.grownBy b (some r)) (hB : B ≤ r) (hs : B ≤ a.heap.size) : Below B a b := (Below.refl _ _).grown h hs (fun k e => by cases e; exact hB)
theorem grown_set (w : World) (r k : Nat) (v : Value) : w.grownBy (w.setCell ⟨r, k, none⟩ v) (some r) :=
  ⟨rfl, rfl, rfl, by simp, fun j _ hj => heap_setCell_other w ⟨r, k, none⟩ j _ (fun e => hj (by simp [e]))⟩
theorem Sc4.set1 {w : World} {r : Nat} {s : ByteArray} {off line beg : Nat} (h : Sc4 w r s off line beg) (p : Nat) : Sc4 (w.setCell ⟨r, 1, none⟩ (.int .i64 (p : Int))) r s p line beg :=
  ⟨heap_setCell_same w r 1 _ _ _ h.hheap⟩
theorem Sc4.set2 {w : World} {r : Nat} {s : ByteArray} {off line beg : Nat} (h : Sc4 w r s off line beg) (p : Nat) : Sc4 (w.setCell ⟨r, 2, none⟩ (.int .i64 (p : Int))) r s off p beg :=
  ⟨heap_setCell_same w r 2 _ _ _ h.hheap⟩
theorem Sc4.set3 {w : World} {r : Nat} {s : ByteArray} {off line beg : Nat} (h : Sc4 w r s off line beg) (p : Nat) : Sc4 (w.setCell ⟨r, 3, none⟩ (.int .i64 (p : Int))) r s off line p :=
  ⟨heap_setCell_same w r 3 _ _ _ h.hheap⟩

/-- What is left of a text behind off bytes. -/
def rst (s : ByteArray) (off : Nat) : ByteArray := s.extract off s.size
theorem rst_list (s : ByteArray) (off : Nat) : (rst s off).data.toList = s.data.toList.drop off := by
  unfold rst
  rw [Lib.extract_data, ← len_all s, List.take_of_length_le (by rw [List.length_drop]; exact Nat.le_refl _)]
theorem rst_size (s : ByteArray) (off : Nat) : (rst s off).size = s.size - off := by
  rw [← len_all, rst_list, List.length_drop, len_all]

set_option maxHeartbeats 1000000 in
theorem rest_any (r off line beg : Nat) (s : ByteArray) (w : World) (h : Sc4 w r s off line beg) (ho : off ≤ s.size) (hs : s.size < 4294967281) :
    Calls Tryz.prog 33 #[.pointer (some ⟨r, 0, none⟩)] w fun e w' => e = .returned (.string (rst s off)) ∧ Below w.heap.size w w' := by
  have c0 := h.c0
  have c1 := h.c1
  have hsl : ∀ w, (Instr.slice 9 (.string s) (some (.int .i64 (off : Int))) none none).run Tryz.prog w = .ok (.string (rst s off)) w := fun w => by
    have h1 : (0 : Int) ≤ off ∧ (off : Int) ≤ s.size := by omega
    rw [run_slice_string_from_if w _ _ _ _ Tryz.underlying9, if_pos h1]
    rfl
  go_enter Tryz.func33, Tryz.ntmps33
  go_wp2
  go_quiet (fail)
  go_wp2
  go_ret
  exact ⟨rfl, below_drewN (Below.refl _ _) _⟩

set_option maxHeartbeats 1000000 in
theorem spot_any (r off line beg : Nat) (s : ByteArray) (n : Nat) (w : World) (h : Sc4 w r s off line beg) (ho : off + n ≤ 4294967281) (hb : beg ≤ off) :
    Calls Tryz.prog 30 #[.pointer (some ⟨r, 0, none⟩), .int .i64 (n : Int)] w fun e w' => e = .returned (.agg #[.int .i64 ((off + n : Nat) : Int), .int .i64 (line : Int), .int .i64 ((off + n - beg + 1 : Nat) : Int)]) ∧ w' = (w.alloc (.cells #[.int .i64 ((off + n : Nat) : Int), .int .i64 (line : Int), .int .i64 ((off + n - beg + 1 : Nat) : Int)] 25)).drew := by
  have c1 : ∀ o, (w.alloc o).cell? ⟨r, 1, none⟩ = _ := fun o => (h.alloc o).c1
  have c2 : ∀ o, (w.alloc o).cell? ⟨r, 2, none⟩ = _ := fun o => (h.alloc o).c2
  have c3 : ∀ o, (w.alloc o).cell? ⟨r, 3, none⟩ = _ := fun o => (h.alloc o).c3
  go_enter Tryz.func30, Tryz.ntmps30
  go_wp2
  go_region
  go_wp2
  refine bodyPost_ret (v := .agg #[.int .i64 ((off : Int) + n), .int .i64 (line : Int), .int .i64 ((off : Int) + n - beg + 1)]) (by simp [results, Tryz.results30, go_sem]) rfl ⟨?_, ?_⟩
  · have e1 : ((off + n : Nat) : Int) = (off : Int) + n := by omega
    have e2 : ((off + n - beg + 1 : Nat) : Int) = (off : Int) + n - beg + 1 := by omega
    rw [e1, e2]
  · have e1 : ((off + n : Nat) : Int) = (off : Int) + n := by omega
    have e2 : ((off + n - beg + 1 : Nat) : Int) = (off : Int) + n - beg + 1 := by omega
    rw [e1, e2]
set_option maxHeartbeats 1000000 in
theorem pass_any (r off n : Nat) (s : ByteArray) (w : World) (h : Sc w r s off) (ho : off + n ≤ s.size) (hs : s.size < 4294967281) :
    Calls Tryz.prog 31 #[.pointer (some ⟨r, 0, none⟩), .int .i64 (n : Int)] w fun e w' => e = .returned (.tuple #[]) ∧ Sc w' r s (off + n) ∧ w.grownBy w' (some r) := by
  go_enter Tryz.func31, Tryz.ntmps31
  go_wp2
  go_loopw [5] (fun i wr => ∃ j : Nat, j ≤ n ∧ i = .int .i64 j ∧ Sc wr r s (off + j) ∧ w.grownBy wr (some r)) (fun i _ => n - (intOf i).toNat)
  case atStart => exact ⟨0, by omega, rfl, h, grown_refl _ _⟩
  case round =>
    obtain ⟨j, hj, rfl, hS, hg⟩ := hrel
    by_cases hlt : j < n
    · have hlt' : (j : Int) < n := by omega
      obtain ⟨q, hq⟩ : ∃ q, off + j = q := ⟨_, rfl⟩
      rw [hq] at hS
      have hq2 : q < s.size := by omega
      obtain ⟨x, hx⟩ : ∃ c, s[q] = c := ⟨_, rfl⟩
      have hS4 : Sc4 wr r s q (lineN s.data.toList q) (begN s.data.toList q) := hS
      obtain ⟨hL1, hL2⟩ := lineN_le s.data.toList q
      generalize hLn : lineN s.data.toList q = ln at *
      generalize hBn : begN s.data.toList q = bg at *
      have c1 := hS4.c1
      have f1 := hS4.fz 1
      have hS5 := hS4.set1 (q + 1)
      have e1 : ((q + 1 : Nat) : Int) = (q : Int) + 1 := by omega
      rw [e1] at hS5
      have hix : ∀ w, (Instr.index 9 (.string s) (.int .i64 (q : Int))).run Tryz.prog w = .ok (.int .u8 (x.toNat : Int)) w := fun w => by
        rw [← hx]; exact index_at s q _ w hq2 rfl
      have d0 := hS5.c0
      have d1 := hS5.c1
      have d2 := hS5.c2
      have g2 := hS5.fz 2
      have e2 : (q : Int) + 1 - 1 = q := by omega
      rw [e1] at d1
      have HX : Hid (s.data.toList[q]? = some x) := by show _ = _; rw [snoc_all s q hq2, hx]
      clear hx
      by_cases h10 : x = 10
      · subst h10
        go_wp2
        go_quiet (fail)
        have hS6 : Sc4 ((wr.setCell ⟨r, 1, none⟩ (.int .i64 ((q : Int) + 1))).drewN nq) r s (q + 1) ln bg := ⟨hS5.hheap⟩
        have hg6 : w.grownBy ((wr.setCell ⟨r, 1, none⟩ (.int .i64 ((q : Int) + 1))).drewN nq) (some r) := grown_trans hg (grown_trans (grown_set wr r 1 _) (grown_of_below (below_drewN (Below.refl _ _) _)))
        generalize ((wr.setCell ⟨r, 1, none⟩ (.int .i64 ((q : Int) + 1))).drewN nq) = w5 at *
        clear d0 d1 d2 g2 hS5
        have c2 := hS6.c2
        have g2 := hS6.fz 2
        have hS7 := hS6.set2 (ln + 1)
        have e3 : ((ln + 1 : Nat) : Int) = (ln : Int) + 1 := by omega
        rw [e3] at hS7
        have d1 := hS7.c1
        have d3 := hS7.c3
        have g3 := hS7.fz 3
        rw [e1] at d1
        have hS8 := hS7.set3 (q + 1)
        rw [e1] at hS8
        have hg8 := grown_trans hg6 (grown_trans (grown_set w5 r 2 (.int .i64 ((ln : Int) + 1))) (grown_set _ r 3 (.int .i64 ((q : Int) + 1))))
        have HF : Hid (Sc ((w5.setCell ⟨r, 2, none⟩ (.int .i64 ((ln : Int) + 1))).setCell ⟨r, 3, none⟩ (.int .i64 ((q : Int) + 1))) r s (off + (j + 1))) := by
          show Sc4 _ _ _ _ _ _
          have a1 : lineN s.data.toList (q + 1) = ln + 1 := by show (if _ then _ else _) = _; rw [if_pos HX.out, hLn]
          have a2 : begN s.data.toList (q + 1) = q + 1 := by show (if _ then _ else _) = _; rw [if_pos HX.out]
          rw [← Nat.add_assoc, hq, a1, a2]
          exact hS8
        clear hS8 hS7 hS6 hS hS4
        go_wp2
        go_roundw
        case rel => exact ⟨j + 1, by omega, by go_num, HF.out, hg8⟩
        case measure => simp [intOf]; omega
      · have hx10 : ((x.toNat : Int) == 10) = false := by
          rw [beq_eq_false_iff_ne]; intro e; exact h10 (UInt8.toNat_inj.1 (by show x.toNat = 10; omega))
        go_wp2
        go_quiet (fail)
        have hg6 : w.grownBy ((wr.setCell ⟨r, 1, none⟩ (.int .i64 ((q : Int) + 1))).drewN nq) (some r) := grown_trans hg (grown_trans (grown_set wr r 1 _) (grown_of_below (below_drewN (Below.refl _ _) _)))
        have HF : Hid (Sc ((wr.setCell ⟨r, 1, none⟩ (.int .i64 ((q : Int) + 1))).drewN nq) r s (off + (j + 1))) := by
          show Sc4 _ _ _ _ _ _
          have hne : ¬ s.data.toList[q]? = some 10 := by rw [HX.out]; exact fun e => h10 (Option.some.inj e)
          have a1 : lineN s.data.toList (q + 1) = ln := by show (if _ then _ else _) = _; rw [if_neg hne, hLn]
          have a2 : begN s.data.toList (q + 1) = bg := by show (if _ then _ else _) = _; rw [if_neg hne, hBn]
          rw [← Nat.add_assoc, hq, a1, a2]
          exact ⟨hS5.hheap⟩
        generalize ((wr.setCell ⟨r, 1, none⟩ (.int .i64 ((q : Int) + 1))).drewN nq) = w5 at *
        clear d0 d1 d2 g2 hS5 hS hS4
        go_wp2
        go_roundw
        case rel => exact ⟨j + 1, by omega, by go_num, HF.out, hg6⟩
        case measure => simp [intOf]; omega
    · have hjn : j = n := by omega
      subst hjn
      have hlt' : ¬ (j : Int) < j := by omega
      go_wp2
      refine bodyPost_end (v := .tuple #[]) (by simp [results, Tryz.results31, go_sem]) rfl ?_
      exact ⟨rfl, hS, hg⟩

/-- A spot, as a value. -/
def spV (t : List UInt8) (k : Nat) : Value := .agg #[.int .i64 (k : Int), .int .i64 (lineN t k : Int), .int .i64 (colN t k : Int)]
set_option maxHeartbeats 1000000 in
theorem spot_at (r off : Nat) (s : ByteArray) (n : Nat) (w : World) (h : Sc w r s off) (ho : off + n ≤ 4294967281) (hn : ∀ i, i < n → s.data.toList[off + i]? ≠ some 10) :
    Calls Tryz.prog 30 #[.pointer (some ⟨r, 0, none⟩), .int .i64 (n : Int)] w fun e w' => e = .returned (spV s.data.toList (off + n)) ∧ w' = (w.alloc (.cells #[.int .i64 ((off + n : Nat) : Int), .int .i64 (lineN s.data.toList (off + n) : Int), .int .i64 (colN s.data.toList (off + n) : Int)] 25)).drew := by
  obtain ⟨h1, h2⟩ := line_same _ _ _ hn
  have := spot_any r off _ _ s n w h ho (begN_le _ _)
  unfold spV colN
  rw [h1, h2]
  exact this
theorem push_at {α : Type} (x : Array α) (a : α) : (x.push a)[x.size]? = some a := by simp
theorem push_lt {α : Type} (x : Array α) (a : α) (i : Nat) (h : i < x.size) : (x.push a)[i]? = x[i]? := by rw [Array.getElem?_push, if_neg (by omega)]
theorem heap2_1 (w : World) (a b : Obj) : ((w.alloc a).alloc b).drew.heap[w.heap.size + 1]? = some b := by
  show ((w.heap.push a).push b)[w.heap.size + 1]? = some b
  have := push_at (w.heap.push a) b
  rwa [Array.size_push] at this
theorem heap3_0 (w : World) (a b c : Obj) : (((w.alloc a).alloc b).alloc c).drew.heap[w.heap.size]? = some a := by
  show (((w.heap.push a).push b).push c)[w.heap.size]? = some a
  rw [push_lt _ _ _ (by simp; omega), push_lt _ _ _ (by simp), push_at]
theorem heap3_1 (w : World) (a b c : Obj) : (((w.alloc a).alloc b).alloc c).drew.heap[w.heap.size + 1]? = some b := by
  show (((w.heap.push a).push b).push c)[w.heap.size + 1]? = some b
  rw [push_lt _ _ _ (by simp)]
  have := push_at (w.heap.push a) b
  rwa [Array.size_push] at this
theorem heap3_s (w : World) (a b c : Obj) : (((w.alloc a).alloc b).alloc c).drew.heap.size = w.heap.size + 3 := by
  show (((w.heap.push a).push b).push c).size = _
  simp
/-- Seven cells, written one after another. -/
def set7 (w : World) (b : Nat) (v0 v1 v2 v3 v4 v5 v6 : Value) : World :=
  ((((((w.setCell ⟨b, 0, none⟩ v0).setCell ⟨b, 1, none⟩ v1).setCell ⟨b, 2, none⟩ v2).setCell ⟨b, 3, none⟩ v3).setCell ⟨b, 4, none⟩ v4).setCell ⟨b, 5, none⟩ v5).setCell ⟨b, 6, none⟩ v6
theorem set7_at (w : World) (b : Nat) (t : TypeId) (o0 o1 o2 o3 o4 o5 o6 v0 v1 v2 v3 v4 v5 v6 : Value) (k : w.heap[b]? = some (.cells #[o0, o1, o2, o3, o4, o5, o6] t (0, 0))) :
    (set7 w b v0 v1 v2 v3 v4 v5 v6).heap[b]? = some (.cells #[v0, v1, v2, v3, v4, v5, v6] t (0, 0)) := by
  have h0 : (w.setCell ⟨b, 0, none⟩ v0).heap[b]? = some (.cells #[v0, o1, o2, o3, o4, o5, o6] t (0, 0)) := heap_setCell_same _ b 0 _ t _ k
  generalize w.setCell ⟨b, 0, none⟩ v0 = w0 at h0
  have : ∀ w0 : World, w0.heap[b]? = some (.cells #[v0, o1, o2, o3, o4, o5, o6] t (0, 0)) → ((((((w0.setCell ⟨b, 1, none⟩ v1).setCell ⟨b, 2, none⟩ v2).setCell ⟨b, 3, none⟩ v3).setCell ⟨b, 4, none⟩ v4).setCell ⟨b, 5, none⟩ v5).setCell ⟨b, 6, none⟩ v6).heap[b]? = some (.cells #[v0, v1, v2, v3, v4, v5, v6] t (0, 0)) := by
    intro w0 h0
    have h1 : (w0.setCell ⟨b, 1, none⟩ v1).heap[b]? = some (.cells #[v0, v1, o2, o3, o4, o5, o6] t (0, 0)) := heap_setCell_same _ b 1 _ t _ h0
    generalize w0.setCell ⟨b, 1, none⟩ v1 = w1 at *
    have h2 : (w1.setCell ⟨b, 2, none⟩ v2).heap[b]? = some (.cells #[v0, v1, v2, o3, o4, o5, o6] t (0, 0)) := heap_setCell_same _ b 2 _ t _ h1
    generalize w1.setCell ⟨b, 2, none⟩ v2 = w2 at *
    have h3 : (w2.setCell ⟨b, 3, none⟩ v3).heap[b]? = some (.cells #[v0, v1, v2, v3, o4, o5, o6] t (0, 0)) := heap_setCell_same _ b 3 _ t _ h2
    generalize w2.setCell ⟨b, 3, none⟩ v3 = w3 at *
    have h4 : (w3.setCell ⟨b, 4, none⟩ v4).heap[b]? = some (.cells #[v0, v1, v2, v3, v4, o5, o6] t (0, 0)) := heap_setCell_same _ b 4 _ t _ h3
    generalize w3.setCell ⟨b, 4, none⟩ v4 = w4 at *
    have h5 : (w4.setCell ⟨b, 5, none⟩ v5).heap[b]? = some (.cells #[v0, v1, v2, v3, v4, v5, o6] t (0, 0)) := heap_setCell_same _ b 5 _ t _ h4
    generalize w4.setCell ⟨b, 5, none⟩ v5 = w5 at *
    exact heap_setCell_same _ b 6 _ t _ h5
  exact this _ (heap_setCell_same _ b 0 _ t _ k)
theorem set7_grown (w : World) (b : Nat) (v0 v1 v2 v3 v4 v5 v6 : Value) : w.grownBy (set7 w b v0 v1 v2 v3 v4 v5 v6) (some b) :=
  grown_trans (grown_set _ _ _ _) (grown_trans (grown_set _ _ _ _) (grown_trans (grown_set _ _ _ _) (grown_trans (grown_set _ _ _ _) (grown_trans (grown_set _ _ _ _) (grown_trans (grown_set _ _ _ _) (grown_set _ _ _ _))))))
theorem grown_new {w w3 w4 : World} {r : Option Nat} {b : Nat} (h : w.grownBy w3 r) (k : w3.grownBy w4 (some b)) (hb : w.heap.size ≤ b) : w.grownBy w4 r :=
  ⟨k.os.trans h.os, k.tape.trans h.tape, k.output.trans h.output, Nat.le_trans h.size k.size, fun i hi hr => (k.block i (Nat.lt_of_lt_of_le hi h.size) (fun e => by cases e; omega)).trans (h.block i hi hr)⟩
theorem Sc.grown {w w' : World} {r b : Nat} {s : ByteArray} {off : Nat} (h : Sc w r s off) (k : w.grownBy w' (some b)) (hne : r ≠ b) : Sc w' r s off :=
  ⟨(k.block r (Sc4.lt h) (fun e => by cases e; exact hne rfl)).trans (Sc4.hheap h)⟩
/-- An error: the reason, and where. -/
def ErrAt (w : World) (p : Nat) (reason : Value) (t : List UInt8) (k : Nat) : Prop :=
  w.heap[p]? = some (.cells #[reason, .int .i64 (k : Int), .int .i64 (lineN t k : Int), .int .i64 (colN t k : Int)] 62 (0, 0))
set_option maxHeartbeats 1000000 in
theorem wrong_any (r off : Nat) (s : ByteArray) (n : Nat) (w : World) (h : Sc w r s off) (ho : off + n ≤ 4294967281) (hn : ∀ i, i < n → s.data.toList[off + i]? ≠ some 10) (te : TypeId) (x : Option Addr) :
    Calls Tryz.prog 17 #[.pointer (some ⟨r, 0, none⟩), .iface te (.pointer x), .int .i64 (n : Int)] w fun e w' => ∃ p, e = .returned (.iface 57 (.pointer (some ⟨p, 0, none⟩))) ∧ w.heap.size ≤ p ∧ ErrAt w' p (.iface te (.pointer x)) s.data.toList (off + n) ∧ Below w.heap.size w w' := by
  have c := spot_at r off s n w h ho hn
  unfold spV at c
  go_enter Tryz.func17, Tryz.ntmps17
  go_wp2_with (go_at_call 30; refine c.mono ?_; rintro e w' ⟨rfl, rfl⟩)
  go_ret
  have e1 : ((off + n : Nat) : Int) = (off : Int) + n := by omega
  refine ⟨w.heap.size + 1, rfl, by omega, ?_, ((((Below.refl _ _).alloc (Nat.le_refl _) _).alloc (by simp) _)).drew⟩
  unfold ErrAt
  rw [e1]
  exact heap2_1 w _ _

/-- A token, as a value; with its spot. -/
def tkC (k : Tk) (a b c : Nat) : Array Value := #[.int .i64 (k.kind : Int), .int .i64 (a : Int), .int .i64 (b : Int), .int .i64 (c : Int), .string ⟨k.text.toArray⟩, .int .u32 (k.val : Int), .bool k.hex]
def tkV (k : Tk) (t : List UInt8) (p : Nat) : Value := .agg (tkC k p (lineN t p) (colN t p))
set_option maxHeartbeats 1000000 in
theorem take_any (r off : Nat) (s : ByteArray) (n : Nat) (k : Tk) (w : World) (h : Sc w r s off) (ho : off + n ≤ s.size) (hs : s.size < 4294967281) :
    Calls Tryz.prog 36 #[.pointer (some ⟨r, 0, none⟩), .agg (tkC k 0 0 0), .int .i64 (n : Int)] w fun e w' => e = .returned (tkV k s.data.toList off) ∧ Sc w' r s (off + n) ∧ w.grownBy w' (some r) := by
  obtain ⟨kk, kt, kv, kh⟩ := k
  unfold tkV tkC
  simp only
  have hr := Sc4.lt h
  have c := fun o1 o2 => spot_at r off s 0 _ (Sc4.alloc (Sc4.alloc h o1) o2) (by omega) (fun i hi => absurd hi (Nat.not_lt_zero _))
  simp only [spV, Nat.add_zero] at c
  go_enter Tryz.func36, Tryz.ntmps36
  go_wp2_with (go_at_call 30; refine (c _ _).mono ?_; rintro e w' ⟨rfl, rfl⟩)
  refine (pass_any r off n s _ (Sc4.below (Sc4.alloc (Sc4.alloc (Sc4.alloc h _) _) _) ((Below.refl _ _).drew)) ho hs).mono ?_
  rintro e w3 ⟨rfl, hS3, hg3⟩
  have k0 := (hg3.block w.heap.size (by rw [heap3_s]; omega) (by simp; omega)).trans (heap3_0 w _ _ _)
  have k1 := (hg3.block (w.heap.size + 1) (by rw [heap3_s]; omega) (by simp; omega)).trans (heap3_1 w _ _ _)
  have hg4 : w.grownBy w3 (some r) := grown_trans (grown_of_below ((((Below.refl _ _).alloc (Nat.le_refl _) _).alloc (by simp) _).alloc (by simp; omega) _).drew) hg3
  have hs3 := hg4.size
  have a0 := fun i => cell_of_row w3 w.heap.size i _ _ (0, 0) k0
  have a1 := fun i => cell_of_row w3 (w.heap.size + 1) i _ _ (0, 0) k1
  have f1 := fun i => frozen_of_row w3 (w.heap.size + 1) i _ _ k1
  have x0 := a0 0; have x1 := a0 1; have x2 := a0 2; have x3 := a0 3; have x4 := a0 4; have x5 := a0 5; have x6 := a0 6
  have y0 := a1 0; have y1 := a1 1; have y2 := a1 2; have y3 := a1 3; have y4 := a1 4; have y5 := a1 5; have y6 := a1 6
  simp at x0 x1 x2 x3 x4 x5 x6 y0 y1 y2 y3 y4 y5 y6
  clear a0 a1 hg3
  have k4 := set7_at w3 (w.heap.size + 1) _ _ _ _ _ _ _ _ (.int .i64 (kk : Int)) (.int .i64 (off : Int)) (.int .i64 (lineN s.data.toList off : Int)) (.int .i64 (colN s.data.toList off : Int)) (.string ⟨kt.toArray⟩) (.int .u32 (kv : Int)) (.bool kh) k1
  have g4 := set7_grown w3 (w.heap.size + 1) (.int .i64 (kk : Int)) (.int .i64 (off : Int)) (.int .i64 (lineN s.data.toList off : Int)) (.int .i64 (colN s.data.toList off : Int)) (.string ⟨kt.toArray⟩) (.int .u32 (kv : Int)) (.bool kh)
  have HK : Hid (_ = _) := k4
  clear k4 k0 k1
  go_wp2
  refine bodyPost_ret (v := .agg #[.int .i64 (kk : Int), .int .i64 (off : Int), .int .i64 (lineN s.data.toList off : Int), .int .i64 (colN s.data.toList off : Int), .string ⟨kt.toArray⟩, .int .u32 (kv : Int), .bool kh]) (by
    have a1 := fun i => cell_of_row _ (w.heap.size + 1) i _ _ (0, 0) HK.out
    have z0 := a1 0; have z1 := a1 1; have z2 := a1 2; have z3 := a1 3; have z4 := a1 4; have z5 := a1 5; have z6 := a1 6
    unfold set7 at z0 z1 z2 z3 z4 z5 z6
    simp [results, Tryz.results36, go_sem, z0, z1, z2, z3, z4, z5, z6]) rfl ⟨rfl, ?_, ?_⟩
  · exact Sc.grown hS3 g4 (by omega)
  · exact grown_new hg4 g4 (by omega)
end Go.Proofs.YtnmknnkpkkefoaaGreatDoor
