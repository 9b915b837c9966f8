import Derived.Test.YtlbgppijeoonjaaGreatDoorProg
import Derived.Test.YtlbgppijeoonjaaGreatDoorListX
import Derived.WalkKit
import Derived.WalkSpells
import Derived.WalkLawsBesides
import Derived.BigQuiet
import Derived.OwnWalk
import Derived.Lib.ItoaMem
import Derived.Test.YtlbgppijeoonjaaGreatDoorShelf
namespace Go.Proofs.YtlbgppijeoonjaaGreatDoor
open Go.RowKit
set_option linter.unusedVariables false

theorem ret_int {k : IntKind} {a b : Int} (h : a = b) : Ending.returned (.int k a) = .returned (.int k b) := by rw [h]
theorem ret_bool {a b : Bool} (h : a = b) : Ending.returned (.bool a) = .returned (.bool b) := by rw [h]
theorem tup2 {a b c d : Value} (h1 : a = c) (h2 : b = d) : Ending.returned (.tuple #[a, b]) = .returned (.tuple #[c, d]) := by rw [h1, h2]
theorem tup3 {a b c d e f : Value} (h1 : a = d) (h2 : b = e) (h3 : c = f) : Ending.returned (.tuple #[a, b, c]) = .returned (.tuple #[d, e, f]) := by rw [h1, h2, h3]
theorem index_at (s : ByteArray) (k : Nat) (z : Int) (w : World) (h : k < s.size) (hz : z = k) : (Instr.index 9 (.string s) (.int .i64 z)).run Tryz.prog w = .ok (.int .u8 (s[k].toNat : Int)) w := by
  subst hz
  have h1 : (0 : Int) ≤ k ∧ (k : Int) < s.size := by omega
  simp [go_sem, h1]
theorem snoc_all (s : ByteArray) (k : Nat) (h : k < s.size) : s.data.toList[k]? = some s[k] := by
  rw [List.getElem?_eq_getElem (by simpa using h)]
  rfl
theorem len_all (s : ByteArray) : s.data.toList.length = s.size := by simp
theorem getl (s : ByteArray) (k : Nat) (h : k < s.size) (hl : k < s.data.toList.length) : s.data.toList[k] = s[k] := by
  have := snoc_all s k h
  rw [List.getElem?_eq_getElem hl] at this
  exact Option.some.inj this

set_option maxHeartbeats 1000000 in
theorem letter_any (c : UInt8) (w : World) : Calls Tryz.prog 96 #[.int .u8 c.toNat] w fun e w' => e = .returned (.bool (isL c)) ∧ w' = w := by
  by_cases h1 : 65 ≤ c.toNat
  · by_cases h2 : c.toNat ≤ 90
    · have i1 : (65 : Int) ≤ c.toNat := by omega
      have i2 : (c.toNat : Int) ≤ 90 := by omega
      go_enter Tryz.func96, Tryz.ntmps96
      go_wp2
      go_ret
      exact ⟨ret_bool (decide_eq_true (Or.inl ⟨h1, h2⟩)).symm, rfl⟩
    · by_cases h3 : 97 ≤ c.toNat
      · by_cases h4 : c.toNat ≤ 122
        · have i1 : (65 : Int) ≤ c.toNat := by omega
          have i2 : ¬ (c.toNat : Int) ≤ 90 := by omega
          have i3 : (97 : Int) ≤ c.toNat := by omega
          have i4 : (c.toNat : Int) ≤ 122 := by omega
          go_enter Tryz.func96, Tryz.ntmps96
          go_wp2
          go_ret
          exact ⟨ret_bool (decide_eq_true (Or.inr (Or.inl ⟨h3, h4⟩))).symm, rfl⟩
        · have i1 : (65 : Int) ≤ c.toNat := by omega
          have i2 : ¬ (c.toNat : Int) ≤ 90 := by omega
          have i3 : (97 : Int) ≤ c.toNat := by omega
          have i4 : ¬ (c.toNat : Int) ≤ 122 := by omega
          have i5 : ((c.toNat : Int) == 95) = false := by rw [beq_eq_false_iff_ne]; omega
          go_enter Tryz.func96, Tryz.ntmps96
          go_wp2
          go_ret
          refine ⟨ret_bool ?_, rfl⟩
          unfold isL
          rw [decide_eq_false (by omega)]
      · have i1 : (65 : Int) ≤ c.toNat := by omega
        have i2 : ¬ (c.toNat : Int) ≤ 90 := by omega
        have i3 : ¬ (97 : Int) ≤ c.toNat := by omega
        have i5 : ((c.toNat : Int) == 95) = decide (c.toNat = 95) := by
          by_cases h : c.toNat = 95
          · rw [h]; rfl
          · rw [decide_eq_false h, beq_eq_false_iff_ne]; omega
        go_enter Tryz.func96, Tryz.ntmps96
        go_wp2
        go_ret
        refine ⟨ret_bool ?_, rfl⟩
        unfold isL
        first | (rw [i5]; congr 1; apply propext; constructor <;> omega) | (congr 1; apply propext; constructor <;> omega)
  · have i1 : ¬ (65 : Int) ≤ c.toNat := by omega
    have i3 : ¬ (97 : Int) ≤ c.toNat := by omega
    have i5 : ((c.toNat : Int) == 95) = false := by rw [beq_eq_false_iff_ne]; omega
    go_enter Tryz.func96, Tryz.ntmps96
    go_wp2
    go_ret
    refine ⟨ret_bool ?_, rfl⟩
    unfold isL
    rw [decide_eq_false (by omega)]
set_option maxHeartbeats 400000 in
theorem digit_any (c : UInt8) (w : World) : Calls Tryz.prog 98 #[.int .u8 c.toNat] w fun e w' => e = .returned (.bool (isG c)) ∧ w' = w := by
  by_cases h1 : 48 ≤ c.toNat
  · have i1 : (48 : Int) ≤ c.toNat := by omega
    go_enter Tryz.func98, Tryz.ntmps98
    go_wp2
    go_ret
    refine ⟨ret_bool ?_, rfl⟩
    unfold isG
    congr 1
    apply propext
    constructor <;> omega
  · have i1 : ¬ (48 : Int) ≤ c.toNat := by omega
    go_enter Tryz.func98, Tryz.ntmps98
    go_wp2
    go_ret
    refine ⟨ret_bool ?_, rfl⟩
    unfold isG
    rw [decide_eq_false (by omega)]
set_option maxHeartbeats 400000 in
theorem sayable_any (r : Int) (w : World) : Calls Tryz.prog 115 #[.int .i32 r] w fun e w' => e = .returned (.bool (decide (32 ≤ r ∧ r ≤ 126))) ∧ w' = w := by
  by_cases h1 : 32 ≤ r
  · go_enter Tryz.func115, Tryz.ntmps115
    go_wp2
    go_ret
    refine ⟨ret_bool ?_, rfl⟩
    congr 1
    apply propext
    constructor <;> omega
  · go_enter Tryz.func115, Tryz.ntmps115
    go_wp2
    go_ret
    refine ⟨ret_bool ?_, rfl⟩
    rw [decide_eq_false (by omega)]
    rfl
set_option maxHeartbeats 400000 in
theorem escaped_any (r : Int) (w : World) : Calls Tryz.prog 114 #[.int .i32 r] w fun e w' => e = .returned (.bool (decide (r = 34 ∨ r = 92))) ∧ w' = w := by
  by_cases h1 : r = 34
  · subst h1
    go_enter Tryz.func114, Tryz.ntmps114
    go_wp2
    go_ret
    exact ⟨rfl, rfl⟩
  · have i1 : (r == 34) = false := by rw [beq_eq_false_iff_ne]; exact h1
    have i2 : (r == 92) = decide (r = 92) := rfl
    go_enter Tryz.func114, Tryz.ntmps114
    go_wp2
    go_ret
    refine ⟨ret_bool ?_, rfl⟩
    show (r == 92) = _
    rw [i2]
    congr 1
    apply propext
    constructor <;> omega

theorem tw_take {α : Type} (p : α → Bool) (l : List α) (j : Nat) (hj : j ≤ l.length) (ha : ∀ i (h : i < j), p (l[i]'(by omega)) = true) (hn : j = l.length ∨ ∃ h : j < l.length, p l[j] = false) : (l.takeWhile p).length = j := by
  induction l generalizing j with
  | nil => simp at hj; subst hj; rfl
  | cons x t ih =>
    cases j with
    | zero =>
      rcases hn with h | ⟨h, h2⟩
      · simp at h
      · have h3 : p x = false := h2
        simp [List.takeWhile, h3]
    | succ j =>
      have h0 : p x = true := ha 0 (by omega)
      have := ih j (by simpa using hj) (fun i h => ha (i + 1) (by omega)) (by
        rcases hn with h | ⟨h, h2⟩
        · left; simpa using h
        · right; exact ⟨by simpa using h, h2⟩)
      simp [List.takeWhile, h0, this]

set_option maxHeartbeats 1000000 in
theorem wordLength_any (s : ByteArray) (w : World) (hs : s.size < 4294967281) :
    Calls Tryz.prog 111 #[.string s] w fun e w' => e = .returned (.int .i64 (wlen s.data.toList)) ∧ w' = w := by
  have HL : Hid (s.data.toList.length = s.size) := len_all s
  go_enter Tryz.func111, Tryz.ntmps111
  go_wp2
  go_loop [3] (fun i => ∃ j : Nat, j ≤ s.size ∧ i = .int .i64 j ∧ ∀ k (h : k < j) (h' : k < s.data.toList.length), isW s.data.toList[k] = true) (fun i => s.size - (intOf i).toNat)
  case atStart => exact ⟨0, by omega, rfl, fun k h => absurd h (Nat.not_lt_zero _)⟩
  case round =>
    obtain ⟨j, hj, rfl, ha⟩ := hrel
    have HA : Hid (∀ k (h : k < j) (h' : k < s.data.toList.length), isW s.data.toList[k] = true) := ha
    clear ha
    have HT : Hid ((j = s.size ∨ ∃ h : j < s.data.toList.length, isW s.data.toList[j] = false) → wlen s.data.toList = j) := fun h =>
      tw_take isW _ j (by rw [HL.out]; exact hj) (fun i h => HA.out i h _) (by rcases h with h | h; exact Or.inl (by rw [HL.out]; exact h); exact Or.inr h)
    by_cases hlt : j < s.size
    · have hlt' : (j : Int) < s.size := by omega
      obtain ⟨x, hx⟩ : ∃ c, s[j] = c := ⟨_, rfl⟩
      have hl : j < s.data.toList.length := by rw [HL.out]; exact hlt
      have hxl : s.data.toList[j] = x := by rw [getl s j hlt hl, hx]
      have hix : ∀ w, (Instr.index 9 (.string s) (.int .i64 (j : Int))).run Tryz.prog w = .ok (.int .u8 (x.toNat : Int)) w := fun w => by
        rw [← hx]; exact index_at s j _ w hlt rfl
      have HY : Hid (isW x = true → ∀ k (h : k < j + 1) (h' : k < s.data.toList.length), isW s.data.toList[k] = true) := fun hw k h h' => by
        by_cases e : k < j
        · exact HA.out k e h'
        · have : k = j := by omega
          subst this
          rw [hxl]; exact hw
      have HN : Hid (isW x = false → wlen s.data.toList = j) := fun hw => HT.out (Or.inr ⟨hl, by rw [hxl]; exact hw⟩)
      clear hxl hx hl
      have c1 := letter_any x
      have c2 := digit_any x
      have hW : isW x = (isL x || isG x) := rfl
      have HW : Hid (isW x = (isL x || isG x)) := hW
      clear hW
      generalize isL x = a at *
      generalize isG x = b at *
      cases a with
      | true =>
        go_wp2_with (first | (go_at_call 96; refine (c1 _).mono ?_; rintro e w' ⟨rfl, rfl⟩) | (go_at_call 98; refine (c2 _).mono ?_; rintro e w' ⟨rfl, rfl⟩))
        go_round
        case rel => exact ⟨j + 1, by omega, by go_num, HY.out (by rw [HW.out]; rfl)⟩
        case measure => simp [intOf]; omega
      | false =>
        cases b with
        | true =>
          go_wp2_with (first | (go_at_call 96; refine (c1 _).mono ?_; rintro e w' ⟨rfl, rfl⟩) | (go_at_call 98; refine (c2 _).mono ?_; rintro e w' ⟨rfl, rfl⟩))
          go_round
          case rel => exact ⟨j + 1, by omega, by go_num, HY.out (by rw [HW.out]; rfl)⟩
          case measure => simp [intOf]; omega
        | false =>
          go_wp2_with (first | (go_at_call 96; refine (c1 _).mono ?_; rintro e w' ⟨rfl, rfl⟩) | (go_at_call 98; refine (c2 _).mono ?_; rintro e w' ⟨rfl, rfl⟩))
          go_ret
          exact ⟨by rw [HN.out (by rw [HW.out]; rfl)]; rfl, rfl⟩
    · have hjn : j = s.size := by omega
      have HE : Hid (wlen s.data.toList = j) := HT.out (Or.inl hjn)
      have hlt' : ¬ (j : Int) < s.size := by omega
      clear HT HA hjn
      go_wp2_with fail
      go_ret
      exact ⟨by rw [HE.out]; rfl, rfl⟩
end Go.Proofs.YtlbgppijeoonjaaGreatDoor

namespace Go.Proofs.YtlbgppijeoonjaaGreatDoor
open Go.RowKit
set_option linter.unusedVariables false


def scV (s : ByteArray) (off line beg : Nat) : Array Value := #[.string s, .int .i64 (off : Int), .int .i64 (line : Int), .int .i64 (beg : Int)]
/-- A block that holds a scanner. -/
structure Sc4 (w : World) (r : Nat) (s : ByteArray) (off line beg : Nat) : Prop where
  hheap : w.heap[r]? = some (.cells (scV s off line beg) 135 (0, 0))
def Sc (w : World) (r : Nat) (s : ByteArray) (off : Nat) : Prop := Sc4 w r s off (lineN s.data.toList off) (begN s.data.toList off)
theorem Sc4.c0 {w : World} {r : Nat} {s : ByteArray} {off line beg : Nat} (h : Sc4 w r s off line beg) : w.cell? ⟨r, 0, none⟩ = some (.string s) := by
  rw [cell_of_row w r 0 _ _ (0, 0) h.hheap]; rfl
theorem Sc4.c1 {w : World} {r : Nat} {s : ByteArray} {off line beg : Nat} (h : Sc4 w r s off line beg) : w.cell? ⟨r, 1, none⟩ = some (.int .i64 (off : Int)) := by
  rw [cell_of_row w r 1 _ _ (0, 0) h.hheap]; rfl
theorem Sc4.c2 {w : World} {r : Nat} {s : ByteArray} {off line beg : Nat} (h : Sc4 w r s off line beg) : w.cell? ⟨r, 2, none⟩ = some (.int .i64 (line : Int)) := by
  rw [cell_of_row w r 2 _ _ (0, 0) h.hheap]; rfl
theorem Sc4.c3 {w : World} {r : Nat} {s : ByteArray} {off line beg : Nat} (h : Sc4 w r s off line beg) : w.cell? ⟨r, 3, none⟩ = some (.int .i64 (beg : Int)) := by
  rw [cell_of_row w r 3 _ _ (0, 0) h.hheap]; rfl
theorem Sc4.fz {w : World} {r : Nat} {s : ByteArray} {off line beg : Nat} (h : Sc4 w r s off line beg) (k : Nat) : w.frozen? ⟨r, k, none⟩ = false :=
  frozen_of_row w r k _ _ h.hheap
theorem Sc4.lt {w : World} {r : Nat} {s : ByteArray} {off line beg : Nat} (h : Sc4 w r s off line beg) : r < w.heap.size := by
  rcases Nat.lt_or_ge r w.heap.size with h' | h'
  · exact h'
  · have := h.hheap; rw [Array.getElem?_eq_none h'] at this; cases this
theorem Sc4.below {w w' : World} {r : Nat} {s : ByteArray} {off line beg : Nat} (h : Sc4 w r s off line beg) (hb : Below w.heap.size w w') : Sc4 w' r s off line beg :=
  ⟨(hb.block r h.lt).trans h.hheap⟩
theorem grown_refl (w : World) (r : Option Nat) : w.grownBy w r := ⟨rfl, rfl, rfl, Nat.le_refl _, fun _ _ _ => rfl⟩
theorem Sc4.alloc {w : World} {r : Nat} {s : ByteArray} {off line beg : Nat} (h : Sc4 w r s off line beg) (o : Obj) : Sc4 (w.alloc o) r s off line beg := h.below ((Below.refl _ _).alloc (Nat.le_refl _) _)
theorem grown_trans {a b c : World} {r : Option Nat} (h : a.grownBy b r) (k : b.grownBy c r) : a.grownBy c r :=
  ⟨k.os.trans h.os, k.tape.trans h.tape, k.output.trans h.output, Nat.le_trans h.size k.size, fun i hi hr => (k.block i (Nat.lt_of_lt_of_le hi h.size) hr).trans (h.block i hi hr)⟩
theorem grown_of_below {a b : World} {r : Option Nat} (h : Below a.heap.size a b) : a.grownBy b r := ⟨h.os, h.tape, h.output, h.size, fun i hi _ => h.block i hi⟩
theorem below_of_grown {a b : World} {r B : Nat} (h : a.grownBy b (some r)) (hB : B ≤ r) (hs : B ≤ a.heap.size) : Below B a b := (Below.refl _ _).grown h hs (fun k e => by cases e; exact hB)
theorem grown_set (w : World) (r k : Nat) (v : Value) : w.grownBy (w.setCell ⟨r, k, none⟩ v) (some r) :=
  ⟨rfl, rfl, rfl, by simp, fun j _ hj => heap_setCell_other w ⟨r, k, none⟩ j _ (fun e => hj (by simp [e]))⟩
theorem Sc4.set1 {w : World} {r : Nat} {s : ByteArray} {off line beg : Nat} (h : Sc4 w r s off line beg) (p : Nat) : Sc4 (w.setCell ⟨r, 1, none⟩ (.int .i64 (p : Int))) r s p line beg :=
  ⟨heap_setCell_same w r 1 _ _ _ h.hheap⟩
theorem Sc4.set2 {w : World} {r : Nat} {s : ByteArray} {off line beg : Nat} (h : Sc4 w r s off line beg) (p : Nat) : Sc4 (w.setCell ⟨r, 2, none⟩ (.int .i64 (p : Int))) r s off p beg :=
  ⟨heap_setCell_same w r 2 _ _ _ h.hheap⟩
theorem Sc4.set3 {w : World} {r : Nat} {s : ByteArray} {off line beg : Nat} (h : Sc4 w r s off line beg) (p : Nat) : Sc4 (w.setCell ⟨r, 3, none⟩ (.int .i64 (p : Int))) r s off line p :=
  ⟨heap_setCell_same w r 3 _ _ _ h.hheap⟩

/-- What is left of a text behind off bytes. -/
def rst (s : ByteArray) (off : Nat) : ByteArray := s.extract off s.size
theorem rst_list (s : ByteArray) (off : Nat) : (rst s off).data.toList = s.data.toList.drop off := by
  unfold rst
  rw [Lib.extract_data, ← len_all s, List.take_of_length_le (by rw [List.length_drop]; exact Nat.le_refl _)]
theorem rst_size (s : ByteArray) (off : Nat) : (rst s off).size = s.size - off := by
  rw [← len_all, rst_list, List.length_drop, len_all]

set_option maxHeartbeats 1000000 in
theorem rest_any (r off line beg : Nat) (s : ByteArray) (w : World) (h : Sc4 w r s off line beg) (ho : off ≤ s.size) (hs : s.size < 4294967281) :
    Calls Tryz.prog 92 #[.pointer (some ⟨r, 0, none⟩)] w fun e w' => e = .returned (.string (rst s off)) ∧ Below w.heap.size w w' := by
  have c0 := h.c0
  have c1 := h.c1
  have hsl : ∀ w, (Instr.slice 9 (.string s) (some (.int .i64 (off : Int))) none none).run Tryz.prog w = .ok (.string (rst s off)) w := fun w => by
    have h1 : (0 : Int) ≤ off ∧ (off : Int) ≤ s.size := by omega
    rw [run_slice_string_from_if w _ _ _ _ Tryz.underlying9, if_pos h1]
    rfl
  go_enter Tryz.func92, Tryz.ntmps92
  go_wp2
  go_quiet (fail)
  go_wp2
  go_ret
  exact ⟨rfl, below_drewN (Below.refl _ _) _⟩

set_option maxHeartbeats 1000000 in
theorem spot_any (r off line beg : Nat) (s : ByteArray) (n : Nat) (w : World) (h : Sc4 w r s off line beg) (ho : off + n ≤ 4294967281) (hb : beg ≤ off) :
    Calls Tryz.prog 89 #[.pointer (some ⟨r, 0, none⟩), .int .i64 (n : Int)] w fun e w' => e = .returned (.agg #[.int .i64 ((off + n : Nat) : Int), .int .i64 (line : Int), .int .i64 ((off + n - beg + 1 : Nat) : Int)]) ∧ w' = (w.alloc (.cells #[.int .i64 ((off + n : Nat) : Int), .int .i64 (line : Int), .int .i64 ((off + n - beg + 1 : Nat) : Int)] 27)).drew := by
  have c1 : ∀ o, (w.alloc o).cell? ⟨r, 1, none⟩ = _ := fun o => (h.alloc o).c1
  have c2 : ∀ o, (w.alloc o).cell? ⟨r, 2, none⟩ = _ := fun o => (h.alloc o).c2
  have c3 : ∀ o, (w.alloc o).cell? ⟨r, 3, none⟩ = _ := fun o => (h.alloc o).c3
  go_enter Tryz.func89, Tryz.ntmps89
  go_wp2
  go_region
  go_wp2
  refine bodyPost_ret (v := .agg #[.int .i64 ((off : Int) + n), .int .i64 (line : Int), .int .i64 ((off : Int) + n - beg + 1)]) (by simp [results, Tryz.results89, go_sem]) rfl ⟨?_, ?_⟩
  · have e1 : ((off + n : Nat) : Int) = (off : Int) + n := by omega
    have e2 : ((off + n - beg + 1 : Nat) : Int) = (off : Int) + n - beg + 1 := by omega
    rw [e1, e2]
  · have e1 : ((off + n : Nat) : Int) = (off : Int) + n := by omega
    have e2 : ((off + n - beg + 1 : Nat) : Int) = (off : Int) + n - beg + 1 := by omega
    rw [e1, e2]
set_option maxHeartbeats 1000000 in
theorem pass_any (r off n : Nat) (s : ByteArray) (w : World) (h : Sc w r s off) (ho : off + n ≤ s.size) (hs : s.size < 4294967281) :
    Calls Tryz.prog 90 #[.pointer (some ⟨r, 0, none⟩), .int .i64 (n : Int)] w fun e w' => e = .returned (.tuple #[]) ∧ Sc w' r s (off + n) ∧ w.grownBy w' (some r) := by
  go_enter Tryz.func90, Tryz.ntmps90
  go_wp2
  go_loopw [5] (fun i wr => ∃ j : Nat, j ≤ n ∧ i = .int .i64 j ∧ Sc wr r s (off + j) ∧ w.grownBy wr (some r)) (fun i _ => n - (intOf i).toNat)
  case atStart => exact ⟨0, by omega, rfl, h, grown_refl _ _⟩
  case round =>
    obtain ⟨j, hj, rfl, hS, hg⟩ := hrel
    by_cases hlt : j < n
    · have hlt' : (j : Int) < n := by omega
      obtain ⟨q, hq⟩ : ∃ q, off + j = q := ⟨_, rfl⟩
      rw [hq] at hS
      have hq2 : q < s.size := by omega
      obtain ⟨x, hx⟩ : ∃ c, s[q] = c := ⟨_, rfl⟩
      have hS4 : Sc4 wr r s q (lineN s.data.toList q) (begN s.data.toList q) := hS
      obtain ⟨hL1, hL2⟩ := lineN_le s.data.toList q
      generalize hLn : lineN s.data.toList q = ln at *
      generalize hBn : begN s.data.toList q = bg at *
      have c1 := hS4.c1
      have f1 := hS4.fz 1
      have hS5 := hS4.set1 (q + 1)
      have e1 : ((q + 1 : Nat) : Int) = (q : Int) + 1 := by omega
      rw [e1] at hS5
      have hix : ∀ w, (Instr.index 9 (.string s) (.int .i64 (q : Int))).run Tryz.prog w = .ok (.int .u8 (x.toNat : Int)) w := fun w => by
        rw [← hx]; exact index_at s q _ w hq2 rfl
      have d0 := hS5.c0
      have d1 := hS5.c1
      have d2 := hS5.c2
      have g2 := hS5.fz 2
      have e2 : (q : Int) + 1 - 1 = q := by omega
      rw [e1] at d1
      have HX : Hid (s.data.toList[q]? = some x) := by show _ = _; rw [snoc_all s q hq2, hx]
      clear hx
      by_cases h10 : x = 10
      · subst h10
        go_wp2
        go_quiet (fail)
        have hS6 : Sc4 ((wr.setCell ⟨r, 1, none⟩ (.int .i64 ((q : Int) + 1))).drewN nq) r s (q + 1) ln bg := ⟨hS5.hheap⟩
        have hg6 : w.grownBy ((wr.setCell ⟨r, 1, none⟩ (.int .i64 ((q : Int) + 1))).drewN nq) (some r) := grown_trans hg (grown_trans (grown_set wr r 1 _) (grown_of_below (below_drewN (Below.refl _ _) _)))
        generalize ((wr.setCell ⟨r, 1, none⟩ (.int .i64 ((q : Int) + 1))).drewN nq) = w5 at *
        clear d0 d1 d2 g2 hS5
        have c2 := hS6.c2
        have g2 := hS6.fz 2
        have hS7 := hS6.set2 (ln + 1)
        have e3 : ((ln + 1 : Nat) : Int) = (ln : Int) + 1 := by omega
        rw [e3] at hS7
        have d1 := hS7.c1
        have d3 := hS7.c3
        have g3 := hS7.fz 3
        rw [e1] at d1
        have hS8 := hS7.set3 (q + 1)
        rw [e1] at hS8
        have hg8 := grown_trans hg6 (grown_trans (grown_set w5 r 2 (.int .i64 ((ln : Int) + 1))) (grown_set _ r 3 (.int .i64 ((q : Int) + 1))))
        have HF : Hid (Sc ((w5.setCell ⟨r, 2, none⟩ (.int .i64 ((ln : Int) + 1))).setCell ⟨r, 3, none⟩ (.int .i64 ((q : Int) + 1))) r s (off + (j + 1))) := by
          show Sc4 _ _ _ _ _ _
          have a1 : lineN s.data.toList (q + 1) = ln + 1 := by show (if _ then _ else _) = _; rw [if_pos HX.out, hLn]
          have a2 : begN s.data.toList (q + 1) = q + 1 := by show (if _ then _ else _) = _; rw [if_pos HX.out]
          rw [← Nat.add_assoc, hq, a1, a2]
          exact hS8
        clear hS8 hS7 hS6 hS hS4
        go_wp2
        go_roundw
        case rel => exact ⟨j + 1, by omega, by go_num, HF.out, hg8⟩
        case measure => simp [intOf]; omega
      · have hx10 : ((x.toNat : Int) == 10) = false := by
          rw [beq_eq_false_iff_ne]; intro e; exact h10 (UInt8.toNat_inj.1 (by show x.toNat = 10; omega))
        go_wp2
        go_quiet (fail)
        have hg6 : w.grownBy ((wr.setCell ⟨r, 1, none⟩ (.int .i64 ((q : Int) + 1))).drewN nq) (some r) := grown_trans hg (grown_trans (grown_set wr r 1 _) (grown_of_below (below_drewN (Below.refl _ _) _)))
        have HF : Hid (Sc ((wr.setCell ⟨r, 1, none⟩ (.int .i64 ((q : Int) + 1))).drewN nq) r s (off + (j + 1))) := by
          show Sc4 _ _ _ _ _ _
          have hne : ¬ s.data.toList[q]? = some 10 := by rw [HX.out]; exact fun e => h10 (Option.some.inj e)
          have a1 : lineN s.data.toList (q + 1) = ln := by show (if _ then _ else _) = _; rw [if_neg hne, hLn]
          have a2 : begN s.data.toList (q + 1) = bg := by show (if _ then _ else _) = _; rw [if_neg hne, hBn]
          rw [← Nat.add_assoc, hq, a1, a2]
          exact ⟨hS5.hheap⟩
        generalize ((wr.setCell ⟨r, 1, none⟩ (.int .i64 ((q : Int) + 1))).drewN nq) = w5 at *
        clear d0 d1 d2 g2 hS5 hS hS4
        go_wp2
        go_roundw
        case rel => exact ⟨j + 1, by omega, by go_num, HF.out, hg6⟩
        case measure => simp [intOf]; omega
    · have hjn : j = n := by omega
      subst hjn
      have hlt' : ¬ (j : Int) < j := by omega
      go_wp2
      refine bodyPost_end (v := .tuple #[]) (by simp [results, Tryz.results90, go_sem]) rfl ?_
      exact ⟨rfl, hS, hg⟩

/-- A spot, as a value. -/
def spV (t : List UInt8) (k : Nat) : Value := .agg #[.int .i64 (k : Int), .int .i64 (lineN t k : Int), .int .i64 (colN t k : Int)]
set_option maxHeartbeats 1000000 in
theorem spot_at (r off : Nat) (s : ByteArray) (n : Nat) (w : World) (h : Sc w r s off) (ho : off + n ≤ 4294967281) (hn : ∀ i, i < n → s.data.toList[off + i]? ≠ some 10) :
    Calls Tryz.prog 89 #[.pointer (some ⟨r, 0, none⟩), .int .i64 (n : Int)] w fun e w' => e = .returned (spV s.data.toList (off + n)) ∧ w' = (w.alloc (.cells #[.int .i64 ((off + n : Nat) : Int), .int .i64 (lineN s.data.toList (off + n) : Int), .int .i64 (colN s.data.toList (off + n) : Int)] 27)).drew := by
  obtain ⟨h1, h2⟩ := line_same _ _ _ hn
  have := spot_any r off _ _ s n w h ho (begN_le _ _)
  unfold spV colN
  rw [h1, h2]
  exact this
theorem push_at {α : Type} (x : Array α) (a : α) : (x.push a)[x.size]? = some a := by simp
theorem push_lt {α : Type} (x : Array α) (a : α) (i : Nat) (h : i < x.size) : (x.push a)[i]? = x[i]? := by rw [Array.getElem?_push, if_neg (by omega)]
theorem heap2_1 (w : World) (a b : Obj) : ((w.alloc a).alloc b).drew.heap[w.heap.size + 1]? = some b := by
  show ((w.heap.push a).push b)[w.heap.size + 1]? = some b
  have := push_at (w.heap.push a) b
  rwa [Array.size_push] at this
theorem heap3_0 (w : World) (a b c : Obj) : (((w.alloc a).alloc b).alloc c).drew.heap[w.heap.size]? = some a := by
  show (((w.heap.push a).push b).push c)[w.heap.size]? = some a
  rw [push_lt _ _ _ (by simp; omega), push_lt _ _ _ (by simp), push_at]
theorem heap3_1 (w : World) (a b c : Obj) : (((w.alloc a).alloc b).alloc c).drew.heap[w.heap.size + 1]? = some b := by
  show (((w.heap.push a).push b).push c)[w.heap.size + 1]? = some b
  rw [push_lt _ _ _ (by simp)]
  have := push_at (w.heap.push a) b
  rwa [Array.size_push] at this
theorem heap3_s (w : World) (a b c : Obj) : (((w.alloc a).alloc b).alloc c).drew.heap.size = w.heap.size + 3 := by
  show (((w.heap.push a).push b).push c).size = _
  simp
/-- Seven cells, written one after another. -/
def set7 (w : World) (b : Nat) (v0 v1 v2 v3 v4 v5 v6 : Value) : World :=
  ((((((w.setCell ⟨b, 0, none⟩ v0).setCell ⟨b, 1, none⟩ v1).setCell ⟨b, 2, none⟩ v2).setCell ⟨b, 3, none⟩ v3).setCell ⟨b, 4, none⟩ v4).setCell ⟨b, 5, none⟩ v5).setCell ⟨b, 6, none⟩ v6
theorem set7_at (w : World) (b : Nat) (t : TypeId) (o0 o1 o2 o3 o4 o5 o6 v0 v1 v2 v3 v4 v5 v6 : Value) (k : w.heap[b]? = some (.cells #[o0, o1, o2, o3, o4, o5, o6] t (0, 0))) :
    (set7 w b v0 v1 v2 v3 v4 v5 v6).heap[b]? = some (.cells #[v0, v1, v2, v3, v4, v5, v6] t (0, 0)) := by
  have h0 : (w.setCell ⟨b, 0, none⟩ v0).heap[b]? = some (.cells #[v0, o1, o2, o3, o4, o5, o6] t (0, 0)) := heap_setCell_same _ b 0 _ t _ k
  generalize w.setCell ⟨b, 0, none⟩ v0 = w0 at h0
  have : ∀ w0 : World, w0.heap[b]? = some (.cells #[v0, o1, o2, o3, o4, o5, o6] t (0, 0)) → ((((((w0.setCell ⟨b, 1, none⟩ v1).setCell ⟨b, 2, none⟩ v2).setCell ⟨b, 3, none⟩ v3).setCell ⟨b, 4, none⟩ v4).setCell ⟨b, 5, none⟩ v5).setCell ⟨b, 6, none⟩ v6).heap[b]? = some (.cells #[v0, v1, v2, v3, v4, v5, v6] t (0, 0)) := by
    intro w0 h0
    have h1 : (w0.setCell ⟨b, 1, none⟩ v1).heap[b]? = some (.cells #[v0, v1, o2, o3, o4, o5, o6] t (0, 0)) := heap_setCell_same _ b 1 _ t _ h0
    generalize w0.setCell ⟨b, 1, none⟩ v1 = w1 at *
    have h2 : (w1.setCell ⟨b, 2, none⟩ v2).heap[b]? = some (.cells #[v0, v1, v2, o3, o4, o5, o6] t (0, 0)) := heap_setCell_same _ b 2 _ t _ h1
    generalize w1.setCell ⟨b, 2, none⟩ v2 = w2 at *
    have h3 : (w2.setCell ⟨b, 3, none⟩ v3).heap[b]? = some (.cells #[v0, v1, v2, v3, o4, o5, o6] t (0, 0)) := heap_setCell_same _ b 3 _ t _ h2
    generalize w2.setCell ⟨b, 3, none⟩ v3 = w3 at *
    have h4 : (w3.setCell ⟨b, 4, none⟩ v4).heap[b]? = some (.cells #[v0, v1, v2, v3, v4, o5, o6] t (0, 0)) := heap_setCell_same _ b 4 _ t _ h3
    generalize w3.setCell ⟨b, 4, none⟩ v4 = w4 at *
    have h5 : (w4.setCell ⟨b, 5, none⟩ v5).heap[b]? = some (.cells #[v0, v1, v2, v3, v4, v5, o6] t (0, 0)) := heap_setCell_same _ b 5 _ t _ h4
    generalize w4.setCell ⟨b, 5, none⟩ v5 = w5 at *
    exact heap_setCell_same _ b 6 _ t _ h5
  exact this _ (heap_setCell_same _ b 0 _ t _ k)
theorem set7_grown (w : World) (b : Nat) (v0 v1 v2 v3 v4 v5 v6 : Value) : w.grownBy (set7 w b v0 v1 v2 v3 v4 v5 v6) (some b) :=
  grown_trans (grown_set _ _ _ _) (grown_trans (grown_set _ _ _ _) (grown_trans (grown_set _ _ _ _) (grown_trans (grown_set _ _ _ _) (grown_trans (grown_set _ _ _ _) (grown_trans (grown_set _ _ _ _) (grown_set _ _ _ _))))))
theorem grown_new {w w3 w4 : World} {r : Option Nat} {b : Nat} (h : w.grownBy w3 r) (k : w3.grownBy w4 (some b)) (hb : w.heap.size ≤ b) : w.grownBy w4 r :=
  ⟨k.os.trans h.os, k.tape.trans h.tape, k.output.trans h.output, Nat.le_trans h.size k.size, fun i hi hr => (k.block i (Nat.lt_of_lt_of_le hi h.size) (fun e => by cases e; omega)).trans (h.block i hi hr)⟩
theorem Sc.grown {w w' : World} {r b : Nat} {s : ByteArray} {off : Nat} (h : Sc w r s off) (k : w.grownBy w' (some b)) (hne : r ≠ b) : Sc w' r s off :=
  ⟨(k.block r (Sc4.lt h) (fun e => by cases e; exact hne rfl)).trans (Sc4.hheap h)⟩
/-- An error: the reason, and where. -/
def ErrAt (w : World) (p : Nat) (reason : Value) (t : List UInt8) (k : Nat) : Prop :=
  w.heap[p]? = some (.cells #[reason, .int .i64 (k : Int), .int .i64 (lineN t k : Int), .int .i64 (colN t k : Int)] 143 (0, 0))
set_option maxHeartbeats 1000000 in
theorem wrong_any (r off : Nat) (s : ByteArray) (n : Nat) (w : World) (h : Sc w r s off) (ho : off + n ≤ 4294967281) (hn : ∀ i, i < n → s.data.toList[off + i]? ≠ some 10) (te : TypeId) (x : Option Addr) :
    Calls Tryz.prog 80 #[.pointer (some ⟨r, 0, none⟩), .iface te (.pointer x), .int .i64 (n : Int)] w fun e w' => ∃ p, e = .returned (.iface 139 (.pointer (some ⟨p, 0, none⟩))) ∧ w.heap.size ≤ p ∧ ErrAt w' p (.iface te (.pointer x)) s.data.toList (off + n) ∧ Below w.heap.size w w' := by
  have c := spot_at r off s n w h ho hn
  unfold spV at c
  go_enter Tryz.func80, Tryz.ntmps80
  go_wp2_with (go_at_call 89; refine c.mono ?_; rintro e w' ⟨rfl, rfl⟩)
  go_ret
  have e1 : ((off + n : Nat) : Int) = (off : Int) + n := by omega
  refine ⟨w.heap.size + 1, rfl, by omega, ?_, ((((Below.refl _ _).alloc (Nat.le_refl _) _).alloc (by simp) _)).drew⟩
  unfold ErrAt
  rw [e1]
  exact heap2_1 w _ _

/-- A token, as a value; with its spot. -/
def tkC (k : Tk) (a b c : Nat) : Array Value := #[.int .i64 (k.kind : Int), .int .i64 (a : Int), .int .i64 (b : Int), .int .i64 (c : Int), .string ⟨k.text.toArray⟩, .int .u32 (k.val : Int), .bool k.hex]
def tkV (k : Tk) (t : List UInt8) (p : Nat) : Value := .agg (tkC k p (lineN t p) (colN t p))
set_option maxHeartbeats 1000000 in
theorem take_any (r off : Nat) (s : ByteArray) (n : Nat) (k : Tk) (w : World) (h : Sc w r s off) (ho : off + n ≤ s.size) (hs : s.size < 4294967281) :
    Calls Tryz.prog 95 #[.pointer (some ⟨r, 0, none⟩), .agg (tkC k 0 0 0), .int .i64 (n : Int)] w fun e w' => e = .returned (tkV k s.data.toList off) ∧ Sc w' r s (off + n) ∧ w.grownBy w' (some r) := by
  obtain ⟨kk, kt, kv, kh⟩ := k
  unfold tkV tkC
  simp only
  have hr := Sc4.lt h
  have c := fun o1 o2 => spot_at r off s 0 _ (Sc4.alloc (Sc4.alloc h o1) o2) (by omega) (fun i hi => absurd hi (Nat.not_lt_zero _))
  simp only [spV, Nat.add_zero] at c
  go_enter Tryz.func95, Tryz.ntmps95
  go_wp2_with (go_at_call 89; refine (c _ _).mono ?_; rintro e w' ⟨rfl, rfl⟩)
  refine (pass_any r off n s _ (Sc4.below (Sc4.alloc (Sc4.alloc (Sc4.alloc h _) _) _) ((Below.refl _ _).drew)) ho hs).mono ?_
  rintro e w3 ⟨rfl, hS3, hg3⟩
  have k0 := (hg3.block w.heap.size (by rw [heap3_s]; omega) (by simp; omega)).trans (heap3_0 w _ _ _)
  have k1 := (hg3.block (w.heap.size + 1) (by rw [heap3_s]; omega) (by simp; omega)).trans (heap3_1 w _ _ _)
  have hg4 : w.grownBy w3 (some r) := grown_trans (grown_of_below ((((Below.refl _ _).alloc (Nat.le_refl _) _).alloc (by simp) _).alloc (by simp; omega) _).drew) hg3
  have hs3 := hg4.size
  have a0 := fun i => cell_of_row w3 w.heap.size i _ _ (0, 0) k0
  have a1 := fun i => cell_of_row w3 (w.heap.size + 1) i _ _ (0, 0) k1
  have f1 := fun i => frozen_of_row w3 (w.heap.size + 1) i _ _ k1
  have x0 := a0 0; have x1 := a0 1; have x2 := a0 2; have x3 := a0 3; have x4 := a0 4; have x5 := a0 5; have x6 := a0 6
  have y0 := a1 0; have y1 := a1 1; have y2 := a1 2; have y3 := a1 3; have y4 := a1 4; have y5 := a1 5; have y6 := a1 6
  simp at x0 x1 x2 x3 x4 x5 x6 y0 y1 y2 y3 y4 y5 y6
  clear a0 a1 hg3
  have k4 := set7_at w3 (w.heap.size + 1) _ _ _ _ _ _ _ _ (.int .i64 (kk : Int)) (.int .i64 (off : Int)) (.int .i64 (lineN s.data.toList off : Int)) (.int .i64 (colN s.data.toList off : Int)) (.string ⟨kt.toArray⟩) (.int .u32 (kv : Int)) (.bool kh) k1
  have g4 := set7_grown w3 (w.heap.size + 1) (.int .i64 (kk : Int)) (.int .i64 (off : Int)) (.int .i64 (lineN s.data.toList off : Int)) (.int .i64 (colN s.data.toList off : Int)) (.string ⟨kt.toArray⟩) (.int .u32 (kv : Int)) (.bool kh)
  have HK : Hid (_ = _) := k4
  clear k4 k0 k1
  go_wp2
  refine bodyPost_ret (v := .agg #[.int .i64 (kk : Int), .int .i64 (off : Int), .int .i64 (lineN s.data.toList off : Int), .int .i64 (colN s.data.toList off : Int), .string ⟨kt.toArray⟩, .int .u32 (kv : Int), .bool kh]) (by
    have a1 := fun i => cell_of_row _ (w.heap.size + 1) i _ _ (0, 0) HK.out
    have z0 := a1 0; have z1 := a1 1; have z2 := a1 2; have z3 := a1 3; have z4 := a1 4; have z5 := a1 5; have z6 := a1 6
    unfold set7 at z0 z1 z2 z3 z4 z5 z6
    simp [results, Tryz.results95, go_sem, z0, z1, z2, z3, z4, z5, z6]) rfl ⟨rfl, ?_, ?_⟩
  · exact Sc.grown hS3 g4 (by omega)
  · exact grown_new hg4 g4 (by omega)
end Go.Proofs.YtlbgppijeoonjaaGreatDoor

namespace Go.Proofs.YtlbgppijeoonjaaGreatDoor
open Go.RowKit
set_option linter.unusedVariables false

theorem same_bytes (l : List UInt8) (s : ByteArray) (h : l = s.data.toList) : (⟨l.toArray⟩ : ByteArray) = s := by
  subst h; cases s; simp
def zero7 : Array Value := #[.int .i64 0, .int .i64 0, .int .i64 0, .int .i64 0, .string ⟨#[]⟩, .int .u32 0, .bool false]
theorem heap_lt {w : World} {b : Nat} {o : Obj} (h : w.heap[b]? = some o) : b < w.heap.size := by
  rcases Nat.lt_or_ge b w.heap.size with h' | h'
  · exact h'
  · rw [Array.getElem?_eq_none h'] at h; cases h
/-- The result's variable can be written. -/
structure VarF (w : World) (b : Nat) : Prop where
  y0 : w.cell? ⟨b, 0, none⟩ = some (.int .i64 0)
  y1 : w.cell? ⟨b, 1, none⟩ = some (.int .i64 0)
  y2 : w.cell? ⟨b, 2, none⟩ = some (.int .i64 0)
  y3 : w.cell? ⟨b, 3, none⟩ = some (.int .i64 0)
  y4 : w.cell? ⟨b, 4, none⟩ = some (.string ⟨#[]⟩)
  y5 : w.cell? ⟨b, 5, none⟩ = some (.int .u32 0)
  y6 : w.cell? ⟨b, 6, none⟩ = some (.bool false)
  fz : ∀ i, w.frozen? ⟨b, i, none⟩ = false
theorem varF {w : World} {b : Nat} (h : w.heap[b]? = some (.cells zero7 57 (0, 0))) : VarF w b := by
  have a1 := fun i => cell_of_row w b i _ _ (0, 0) h
  exact ⟨a1 0, a1 1, a1 2, a1 3, a1 4, a1 5, a1 6, fun i => frozen_of_row w b i _ _ h⟩
end Go.Proofs.YtlbgppijeoonjaaGreatDoor

namespace Go.Proofs.YtlbgppijeoonjaaGreatDoor
open Go.RowKit
set_option linter.unusedVariables false

def tkL (t : List UInt8) (x : Tk × Nat) : List Value := (tkC x.1 x.2 (lineN t x.2) (colN t x.2)).toList
def tksL (t : List UInt8) (ts : List (Tk × Nat)) : List Value := ts.flatMap (tkL t)
theorem tksL_snoc (t : List UInt8) (ts : List (Tk × Nat)) (x : Tk × Nat) : tksL t (ts ++ [x]) = tksL t ts ++ tkL t x := by simp [tksL]
theorem Tryz.info57 : (Tryz.prog.info? 57).map (fun i => (i.zero, i.size, i.bytes)) = some (some (.agg zero7), 7, 56) := by kernel_rfl
theorem own_grown {w w' : World} {base e size r n : Nat} {v : Value} {xs : List Value} (h : w.ownsRow base e size v n xs) (hg : w.grownBy w' (some r)) (hr : r < base) : w'.ownsRow base e size v n xs := by
  obtain ⟨hl, h0 | ⟨g, cap, cur, hv, hb, hh, rr⟩⟩ := h
  · exact ⟨hl, .inl h0⟩
  · exact ⟨hl, .inr ⟨g, cap, cur, hv, hb, (hg.block g (heap_lt hh) (fun e => by cases e; omega)).trans hh, rr⟩⟩
theorem cell_new7 (w : World) (vs : Array Value) (t : TypeId) : ∀ j u, vs.toList[j]? = some u → (w.alloc (.cells vs t)).cell? ((⟨w.heap.size, 0, none⟩ : Addr).add j) = some u := by
  intro j u hj
  rw [Lib.add_plain, Nat.zero_add, World.cell?_alloc_new]
  simpa using hj
theorem own_shape7 {w : World} {base : Nat} {v : Value} {n : Nat} {xs : List Value} (h : w.ownsRow base 57 7 v n xs) : ∃ a cap, v = .slice a n cap := by
  rcases h.2 with ⟨h1, h2⟩ | ⟨g, cap', cur, hv, _⟩
  · exact ⟨none, 0, by rw [h1, h2]⟩
  · exact ⟨_, _, hv⟩
theorem own_base {w : World} {base base' e size n : Nat} {v : Value} {xs : List Value} (h : w.ownsRow base e size v n xs) (hb : base' ≤ base) : w.ownsRow base' e size v n xs := by
  obtain ⟨hl, h0 | ⟨g, cap, cur, hv, hb2, hh, rr⟩⟩ := h
  · exact ⟨hl, .inl h0⟩
  · exact ⟨hl, .inr ⟨g, cap, cur, hv, by omega, hh, rr⟩⟩
theorem cell_new7' (w : World) (a : Obj) (vs : Array Value) (t : TypeId) : ∀ j u, vs.toList[j]? = some u → ((w.alloc a).alloc (.cells vs t)).cell? ((⟨w.heap.size + 1, 0, none⟩ : Addr).add j) = some u := by
  have := cell_new7 (w.alloc a) vs t
  rwa [show (w.alloc a).heap.size = w.heap.size + 1 by simp] at this
theorem heap2_0 (w : World) (a b : Obj) : ((w.alloc a).alloc b).heap[w.heap.size]? = some a := by
  show ((w.heap.push a).push b)[w.heap.size]? = some a
  rw [push_lt _ _ _ (by simp), push_at]
theorem one7 (k a b c v : Int) (t : ByteArray) (h : Bool) : ∀ u ∈ [Value.int .i64 k, .int .i64 a, .int .i64 b, .int .i64 c, .string t, .int .u32 v, .bool h], u.oneCell' = true := by
  intro u hu
  simp at hu
  rcases hu with rfl | rfl | rfl | rfl | rfl | rfl | rfl <;> rfl
def zero5 : Array Value := #[.int .i64 0, .int .i64 0, .int .i64 0, .int .i64 0, .string ⟨#[]⟩]
/-- What Scan leaves. -/
def SPost (w : World) (t : List UInt8) (x : (List (Tk × Nat)) ⊕ (Nat × Nat)) (e : Ending) (w' : World) : Prop :=
  match x with
  | .inl ts => ∃ v, e = .returned (.tuple #[v, .agg zero5]) ∧ w'.ownsRow w.heap.size 57 7 v ts.length (tksL t ts) ∧ Below w.heap.size w w'
  | .inr (c, a) => e = .returned (.tuple #[.slice none 0 0, .agg #[.int .i64 (c : Int), .int .i64 (a : Int), .int .i64 (lineN t a : Int), .int .i64 (colN t a : Int), .string ⟨#[]⟩]]) ∧ Below w.heap.size w w'
theorem own_below {w w' : World} {base e size n : Nat} {v : Value} {xs : List Value} (h : w.ownsRow base e size v n xs) (hb : Below w.heap.size w w') : w'.ownsRow base e size v n xs := by
  obtain ⟨hl, h0 | ⟨g, cap, cur, hv, hb1, hh, rr⟩⟩ := h
  · exact ⟨hl, .inl h0⟩
  · exact ⟨hl, .inr ⟨g, cap, cur, hv, hb1, (hb.block g (heap_lt hh)).trans hh, rr⟩⟩
end Go.Proofs.YtlbgppijeoonjaaGreatDoor

namespace Go.Proofs.YtlbgppijeoonjaaGreatDoor
open Go.RowKit
set_option linter.unusedVariables false

set_option maxHeartbeats 1000000 in
theorem comes_any (r off line beg : Nat) (s p : ByteArray) (w : World) (h : Sc4 w r s off line beg) (ho : off ≤ s.size) (hs : s.size < 4294967281) :
    Calls Tryz.prog 93 #[.pointer (some ⟨r, 0, none⟩), .string p] w fun e w' => e = .returned (.bool (Lib.hasPrefix (s.data.toList.drop off) p.data.toList)) ∧ Below w.heap.size w w' := by
  have c := Tryz.strings_HasPrefix (rst s off) p
  rw [rst_list] at c
  go_enter Tryz.func93, Tryz.ntmps93
  go_wp2_with (first
    | (go_at_call 92; refine (rest_any r off line beg s _ h ho hs).mono ?_; rintro e w' ⟨rfl, hb⟩)
    | (go_at_call 108; refine (c _).mono ?_; rintro e w' ⟨rfl, rfl⟩))
  go_ret
  exact ⟨rfl, hb⟩
theorem blkA : (⟨#[32, 9, 10, 13]⟩ : ByteArray).data.toList = blkL := rfl
theorem trim_any (s : ByteArray) (w : World) : Calls Tryz.prog 107 #[.string s, .string ⟨#[32, 9, 10, 13]⟩] w fun e w' => e = .returned (.string ⟨(Lib.trimLeftS s.data.toList blkL).toArray⟩) ∧ Below w.heap.size w w' :=
  Any.strings_TrimLeft_laid Tryz.lays161 (by kernel_rfl) s ⟨#[32, 9, 10, 13]⟩ w (by decide) (ascii_of_all (by decide))
set_option maxHeartbeats 1000000 in
theorem blanks_any (s : ByteArray) (w : World) (hs : s.size < 4294967281) : Calls Tryz.prog 91 #[.string s] w fun e w' => e = .returned (.int .i64 (blen s.data.toList)) ∧ Below w.heap.size w w' := by
  have c := trim_any s
  have hl : (⟨(Lib.trimLeftS s.data.toList blkL).toArray⟩ : ByteArray).size + blen s.data.toList = s.size := by
    show (Lib.trimLeftS s.data.toList blkL).toArray.size + _ = _
    rw [List.size_toArray, ← len_all s, ← tw_len isB s.data.toList, Nat.add_comm]
    rfl
  generalize (⟨(Lib.trimLeftS s.data.toList blkL).toArray⟩ : ByteArray) = x at *
  generalize blen s.data.toList = n at *
  have hx : (s.size : Int) - x.size = n := by omega
  have HX : Hid ((s.size : Int) - x.size = n) := hx
  have hw : (x.size : Int) ≤ s.size := by omega
  clear hl hx
  go_enter Tryz.func91, Tryz.ntmps91
  go_wp2_with (go_at_call 107; refine (c _).mono ?_; rintro e w' ⟨rfl, hb⟩)
  go_ret
  exact ⟨ret_int HX.out, hb⟩

/-- What stands in the package's variables. -/
structure Env (B : Nat) (p : Nat → Addr) (w : World) : Prop where
  size : B ≤ w.heap.size
  globs : 16 ≤ B
  long : w.cell? ⟨0, 0, none⟩ = some (.iface 224 (.pointer (some (p 24))))
  comment : w.cell? ⟨2, 0, none⟩ = some (.iface 224 (.pointer (some (p 23))))
  string : w.cell? ⟨4, 0, none⟩ = some (.iface 224 (.pointer (some (p 22))))
  number : w.cell? ⟨3, 0, none⟩ = some (.iface 224 (.pointer (some (p 21))))
  byte : w.cell? ⟨6, 0, none⟩ = some (.iface 224 (.pointer (some (p 20))))
  maxlen : ∃ m, w.cell? ⟨7, 0, none⟩ = some (.int .i64 m)
  synt : ∃ t q, w.cell? ⟨10, 0, none⟩ = some (.iface t q)
  rang : ∃ t q, w.cell? ⟨11, 0, none⟩ = some (.iface t q)
  m0 : w.cell? ⟨5, 0, none⟩ = some (.int .u8 123)
  m1 : w.cell? ⟨5, 1, none⟩ = some (.int .i64 4)
  m2 : w.cell? ⟨5, 2, none⟩ = some (.int .u8 125)
  m3 : w.cell? ⟨5, 3, none⟩ = some (.int .i64 5)
  m4 : w.cell? ⟨5, 4, none⟩ = some (.int .u8 61)
  m5 : w.cell? ⟨5, 5, none⟩ = some (.int .i64 6)
  m6 : w.cell? ⟨5, 6, none⟩ = some (.int .u8 59)
  m7 : w.cell? ⟨5, 7, none⟩ = some (.int .i64 7)
  m8 : w.cell? ⟨5, 8, none⟩ = some (.int .u8 58)
  m9 : w.cell? ⟨5, 9, none⟩ = some (.int .i64 8)
  kept : ∀ c, (p c).block < B
  apart : ∀ c d, 20 ≤ c → c ≤ 24 → 20 ≤ d → d ≤ 24 → p c = p d → c = d
theorem cell_below {B : Nat} {w w' : World} (hb : Below B w w') (g i : Nat) (h : g < B) : w'.cell? ⟨g, i, none⟩ = w.cell? ⟨g, i, none⟩ :=
  World.cell?_of_block (hb.block g h)
theorem Env.below {B : Nat} {p : Nat → Addr} {w w' : World} (h : Env B p w) (hb : Below B w w') : Env B p w' := by
  have g := h.globs
  refine ⟨Nat.le_trans h.size hb.size, g, ?_, ?_, ?_, ?_, ?_, ?_, ?_, ?_, ?_, ?_, ?_, ?_, ?_, ?_, ?_, ?_, ?_, ?_, h.kept, h.apart⟩ <;> rw [cell_below hb _ _ (by omega)]
  · exact h.long
  · exact h.comment
  · exact h.string
  · exact h.number
  · exact h.byte
  · exact h.maxlen
  · exact h.synt
  · exact h.rang
  · exact h.m0
  · exact h.m1
  · exact h.m2
  · exact h.m3
  · exact h.m4
  · exact h.m5
  · exact h.m6
  · exact h.m7
  · exact h.m8
  · exact h.m9

def cV (l : List UInt8) : Int := match clen l with | some n => (n : Int) | none => 0
def cO (l : List UInt8) : Bool := (clen l).isSome
set_option maxHeartbeats 1000000 in
theorem commentLength_any (B : Nat) (p : Nat → Addr) (s : ByteArray) (w : World) (hE : Env B p w) (hs : s.size < 4294967281) (hc : isC s.data.toList = true) :
    Calls Tryz.prog 94 #[.string s] w fun e w' => e = .returned (.tuple #[.int .i64 (cV s.data.toList), .bool (cO s.data.toList)]) ∧ w' = w := by
  obtain ⟨m, hm⟩ := hE.maxlen
  have HL : Hid (s.data.toList.length = s.size) := len_all s
  obtain ⟨t, ht⟩ := isC_shape hc
  have h2 : 2 ≤ s.size := by rw [← len_all s]; rcases ht with h | h <;> rw [h] <;> simp
  have h2' : (1 : Int) < s.size := by omega
  rcases ht with ht | ht
  · have hx : s[1] = 47 := by
      have := snoc_all s 1 (by omega)
      rw [ht] at this
      exact (Option.some.inj this).symm
    have hix : ∀ w, (Instr.index 9 (.string s) (.int .i64 1)).run Tryz.prog w = .ok (.int .u8 47) w := fun w => by
      have := index_at s 1 1 w (by omega) rfl
      rw [hx] at this; exact this
    have hcl := clen_line t
    rw [← ht] at hcl
    have c := Tryz.strings_IndexByte s 10
    have hten : ((10 : Int).toNat.toUInt8) = 10 := rfl
    rw [hten] at c
    have hib := ib_le s.data.toList 10
    have hge := Lib.indexByte_ge s.data.toList 10
    have HO : Hid (cO s.data.toList = true) := by show (clen _).isSome = true; rw [hcl]; rfl
    have HV : Hid (cV s.data.toList = if Lib.indexByte s.data.toList 10 < 0 then (s.size : Int) else Lib.indexByte s.data.toList 10) := by
      show (match clen s.data.toList with | some n => (n : Int) | none => 0) = _
      rw [hcl]
      show ((if _ then _ else _ : Nat) : Int) = _
      split
      · rw [HL.out]
      · next hn => exact Int.toNat_of_nonneg (Int.not_lt.1 hn)
    clear hx hc ht hcl
    generalize Lib.indexByte s.data.toList 10 = k at *
    by_cases hk : k < 0
    · have hk' : ¬ 0 ≤ k := by omega
      go_enter Tryz.func94, Tryz.ntmps94
      go_wp2_with (go_at_call 109; refine (c _).mono ?_; rintro e w' ⟨rfl, rfl⟩)
      go_ret2
      exact ⟨tup2 (by rw [HV.out, if_pos hk]; rfl) (by rw [HO.out]; rfl), rfl⟩
    · have hk' : 0 ≤ k := by omega
      go_enter Tryz.func94, Tryz.ntmps94
      go_wp2_with (go_at_call 109; refine (c _).mono ?_; rintro e w' ⟨rfl, rfl⟩)
      go_ret2
      exact ⟨tup2 (by rw [HV.out, if_neg (Int.not_lt.2 hk')]; rfl) (by rw [HO.out]; rfl), rfl⟩
  · have hx : s[1] = 42 := by
      have := snoc_all s 1 (by omega)
      rw [ht] at this
      exact (Option.some.inj this).symm
    have hix : ∀ w, (Instr.index 9 (.string s) (.int .i64 1)).run Tryz.prog w = .ok (.int .u8 42) w := fun w => by
      have := index_at s 1 1 w (by omega) rfl
      rw [hx] at this; exact this
    have hcl := clen_star t
    rw [← ht] at hcl
    have hsl : ∀ w, (Instr.slice 9 (.string s) (some (.int .i64 2)) none none).run Tryz.prog w = .ok (.string (rst s 2)) w := fun w => by
      have h1 : (0 : Int) ≤ 2 ∧ (2 : Int) ≤ s.size := by omega
      rw [run_slice_string_from_if w _ _ _ _ Tryz.underlying9, if_pos h1]
      rfl
    have c := Tryz.strings_Index (rst s 2) ⟨#[42, 47]⟩ m w (by rw [rst_size]; omega) hm
    rw [rst_list, ht] at c
    have hil := ix_le t 42 47
    have htl : t.length + 2 = s.size := by rw [← HL.out, ht]; simp
    have hge := Lib.index_ge t [42, 47]
    change Calls _ _ _ _ (fun e w' => e = .returned (.int .i64 (Lib.index t [42, 47])) ∧ w' = w) at c
    by_cases hk : Lib.index t [42, 47] < 0
    · have HO : Hid (cO s.data.toList = false) := by show (clen _).isSome = false; rw [hcl, if_pos hk]; rfl
      have HV : Hid (cV s.data.toList = 0) := by show (match clen s.data.toList with | some n => (n : Int) | none => 0) = _; rw [hcl, if_pos hk]
      clear hx hc ht hcl hm
      generalize Lib.index t [42, 47] = k at *
      go_enter Tryz.func94, Tryz.ntmps94
      go_wp2_with (go_at_call 110; refine c.mono ?_; rintro e w' ⟨rfl, rfl⟩)
      go_ret2
      exact ⟨tup2 (by rw [HV.out]; rfl) (by rw [HO.out]; rfl), rfl⟩
    · have HO : Hid (cO s.data.toList = true) := by show (clen _).isSome = true; rw [hcl, if_neg hk]; rfl
      have HV : Hid (cV s.data.toList = Lib.index t [42, 47] + 4) := by
        show (match clen s.data.toList with | some n => (n : Int) | none => 0) = _
        rw [hcl, if_neg hk]
        show (((Lib.index t [42, 47]).toNat + 4 : Nat) : Int) = _
        omega
      clear hx hc ht hcl hm
      generalize Lib.index t [42, 47] = k at *
      have hw1 : IntKind.i64.wrap (2 + k) = 2 + k := by rw [IntKind.wrap_i64]; omega
      have hw2 : IntKind.i64.wrap (2 + k + 2) = 2 + k + 2 := by rw [IntKind.wrap_i64]; omega
      go_enter Tryz.func94, Tryz.ntmps94
      go_wp2_with (go_at_call 110; refine c.mono ?_; rintro e w' ⟨rfl, rfl⟩)
      go_ret2
      exact ⟨tup2 (by rw [HV.out]; show Value.int .i64 _ = _; congr 1; omega) (by rw [HO.out]; rfl), rfl⟩
end Go.Proofs.YtlbgppijeoonjaaGreatDoor

namespace Go.Proofs.YtlbgppijeoonjaaGreatDoor
open Go.RowKit
set_option linter.unusedVariables false

/-- A token, as a value. -/
def tzC (x : Tz) (o l c : Int) : Array Value := #[.int .i64 x.kind, .int .i64 o, .int .i64 l, .int .i64 c, .string ⟨x.text.toArray⟩, .int .u32 (x.val : Int), .bool x.hex]
def tzV (x : Tz) (o l c : Int) : Value := .agg (tzC x o l c)
/-- A token with its place. -/
structure Tp where
  z : Tz
  o : Int
  l : Int
  c : Int
def tpL (x : Tp) : List Value := (tzC x.z x.o x.l x.c).toList
def tpsL (xs : List Tp) : List Value := xs.flatMap tpL
/-- A slice of tokens that lies somewhere. -/
inductive RowT (w : World) : Value → List Tp → Prop
  | nil {a : Option Addr} {cap : Nat} : RowT w (.slice a 0 cap) []
  | some {g off cap : Nat} {xs : List Tp} : g < w.heap.size → (∀ j u, (tpsL xs)[j]? = some u → w.cell? ⟨g, off + j, none⟩ = some u) → xs.length ≤ cap → RowT w (.slice (some ⟨g, off, none⟩) xs.length cap) xs
theorem tps_at (xs : List Tp) (j : Nat) (x : Tp) (h : xs[j]? = some x) (i : Nat) (hi : i < 7) : (tpsL xs)[j * 7 + i]? = (tpL x)[i]? := by
  induction xs generalizing j with
  | nil => cases h
  | cons y xs ih =>
    have e : tpsL (y :: xs) = tpL y ++ tpsL xs := rfl
    have hl : (tpL y).length = 7 := rfl
    rw [e]
    cases j with
    | zero =>
      simp at h
      subst h
      rw [List.getElem?_append_left (by omega)]
      simp
    | succ j =>
      rw [List.getElem?_append_right (by omega), hl, show (j + 1) * 7 + i - 7 = j * 7 + i by omega]
      exact ih j (by simpa using h)
def tpOf (t : List UInt8) (x : Tk × Nat) : Tp := ⟨⟨(x.1.kind : Int), x.1.text, x.1.val, x.1.hex⟩, (x.2 : Int), (lineN t x.2 : Int), (colN t x.2 : Int)⟩
theorem tks_tps (t : List UInt8) (ts : List (Tk × Nat)) : tksL t ts = tpsL (ts.map (tpOf t)) := by
  induction ts with
  | nil => rfl
  | cons x ts ih =>
    show tkL t x ++ tksL t ts = tpL (tpOf t x) ++ tpsL (ts.map (tpOf t))
    rw [ih]
    rfl
theorem row_own {w : World} {base n : Nat} {v : Value} {xs : List Tp} (h : w.ownsRow base 57 7 v n (tpsL xs)) (hn : n = xs.length) : RowT w v xs := by
  subst hn
  obtain ⟨hl, ⟨rfl, h0⟩ | ⟨g, cap, cur, rfl, hb, hh, h1, h2, h3, h4⟩⟩ := h
  · have : xs = [] := List.eq_nil_of_length_eq_zero h0
    subst this
    exact .nil
  · refine .some (heap_lt hh) (fun j u hj => ?_) h1
    have := cell_of_row w g j _ _ (0, 0) hh
    rw [Nat.zero_add, this, ← Array.getElem?_toList]
    rw [← h4, List.getElem?_take] at hj
    split at hj
    · exact hj
    · cases hj
theorem rowT_below {w w' : World} {v : Value} {xs : List Tp} (h : RowT w v xs) (hb : Below w.heap.size w w') : RowT w' v xs := by
  cases h with
  | nil => exact .nil
  | some hg hc h1 => exact .some (Nat.lt_of_lt_of_le hg hb.size) (fun j u hj => by rw [cell_below hb _ _ hg]; exact hc j u hj) h1
theorem rowT_at {w : World} {g off n cap : Nat} {xs : List Tp} (h : RowT w (.slice (some ⟨g, off, none⟩) n cap) xs) (j : Nat) (u : Value) (hj : (tpsL xs)[j]? = some u) : w.cell? ⟨g, off + j, none⟩ = some u := by
  cases h with
  | nil => cases hj
  | some hg hc h1 => exact hc j u hj
end Go.Proofs.YtlbgppijeoonjaaGreatDoor

namespace Go.Proofs.YtlbgppijeoonjaaGreatDoor
open Go
set_option linter.unusedVariables false

/-! ### The grammar, on rows of tokens: each rule takes a row and answers what it has read and the row behind it, or the number of the error and the token at fault -/
inductive PR (α : Type) where
  | ok (a : α) (r : List Tp)
  | bad (c : Nat) (x : Tp)
def PR.bind {α β : Type} (m : PR α) (f : α → List Tp → PR β) : PR β := match m with | .ok a r => f a r | .bad c x => .bad c x
@[simp] theorem PR.bind_ok {α β : Type} (a : α) (r : List Tp) (f : α → List Tp → PR β) : (PR.ok a r).bind f = f a r := rfl
@[simp] theorem PR.bind_bad {α β : Type} (c : Nat) (x : Tp) (f : α → List Tp → PR β) : (PR.bad c x : PR α).bind f = .bad c x := rfl
def tp0 : Tp := ⟨⟨0, [], 0, false⟩, 0, 0, 0⟩
/-- A row that ends with the text's end, and has no other. -/
inductive EndL : List Tp → Prop
  | one {x : Tp} : x.z.kind = 0 → EndL [x]
  | more {x : Tp} {r : List Tp} : x.z.kind ≠ 0 → EndL r → EndL (x :: r)
def takeL (k : Int) : List Tp → PR Tp
  | [] => .bad 30 tp0
  | x :: r => if x.z.kind = k then .ok x r else .bad 30 x
theorem takeL_cons (k : Int) (x : Tp) (r : List Tp) : takeL k (x :: r) = if x.z.kind = k then .ok x r else .bad 30 x := rfl
def wordL (t : List UInt8) : List Tp → PR Unit
  | [] => .bad 30 tp0
  | x :: r => if x.z.text = t ∧ x.z.kind = 1 then .ok () r else .bad 30 x
def comesL (k : Int) : List Tp → Bool
  | [] => false
  | x :: _ => decide (x.z.kind = k)
/-- A note, if there is one. -/
def noteL (xs : List Tp) : PR (Option (List UInt8)) :=
  if comesL 8 xs = true then (takeL 8 xs).bind fun _ r => (takeL 3 r).bind fun x r => .ok (some x.z.text) r else .ok none xs
/-- A value: kind, text, number, hex. -/
structure Vl where
  kind : Int
  text : List UInt8
  num : Nat
  hex : Bool
def valueL (xs : List Tp) : PR Vl :=
  if comesL 2 xs = true then (takeL 2 xs).bind fun x r => .ok ⟨2, [], x.z.val, x.z.hex⟩ r
  else if comesL 3 xs = true then (takeL 3 xs).bind fun x r => .ok ⟨3, x.z.text, 0, false⟩ r
  else (takeL 1 xs).bind fun x r => .ok ⟨1, x.z.text, 0, false⟩ r
inductive At where
  | mk (name : List UInt8) (o l c : Int) (v : Vl) (braced : Bool) (params : List At) (noted : Bool) (note : List UInt8)
def At.params : At → List At | .mk _ _ _ _ _ _ ps _ _ => ps
def noteB : Option (List UInt8) → Bool | none => false | some _ => true
def noteT : Option (List UInt8) → List UInt8 | none => [] | some t => t
mutual
/-- An attribute at a depth (as many rounds as f at most). -/
def attrL : Nat → Nat → List Tp → PR At
  | 0, _, xs => .bad 0 tp0
  | f + 1, d, xs =>
    (takeL 1 xs).bind fun n r => (takeL 6 r).bind fun _ r => (valueL r).bind fun v r =>
      (if comesL 4 r = true then
        (if d = 4 then .bad 31 (r.headD tp0) else (attrsL f (d + 1) r).bind fun ps r => .ok (true, ps) r)
      else .ok (false, []) r : PR (Bool × List At)).bind fun bp r =>
      (noteL r).bind fun nt r => (takeL 7 r).bind fun _ r => .ok (.mk n.z.text n.o n.l n.c v bp.1 bp.2 (noteB nt) (noteT nt)) r
/-- Braces, and the attributes in them. -/
def attrsL : Nat → Nat → List Tp → PR (List At)
  | 0, _, xs => .bad 0 tp0
  | f + 1, d, xs => (takeL 4 xs).bind fun _ r => rowL f d [] r
/-- The attributes up to the brace, and that. -/
def rowL : Nat → Nat → List At → List Tp → PR (List At)
  | 0, _, _, xs => .bad 0 tp0
  | f + 1, d, l, xs => if comesL 5 xs = true then (takeL 5 xs).bind fun _ r => .ok l r else (attrL f d xs).bind fun a r => rowL f d (l ++ [a]) r
end
structure Ob where
  kind : List UInt8
  name : List UInt8
  o : Int
  l : Int
  c : Int
  attrs : List At
  noted : Bool
  note : List UInt8
def objectL (f : Nat) (xs : List Tp) : PR Ob :=
  (takeL 1 xs).bind fun k r => (takeL 1 r).bind fun n r => (attrsL f 0 r).bind fun ats r => (noteL r).bind fun nt r => (takeL 7 r).bind fun _ r =>
    .ok ⟨k.z.text, n.z.text, k.o, k.l, k.c, ats, noteB nt, noteT nt⟩ r
def objsL (f : Nat) : Nat → List Ob → List Tp → PR (List Ob)
  | 0, _, xs => .bad 0 tp0
  | g + 1, l, xs => if comesL 5 xs = true then .ok l xs else (objectL f xs).bind fun o r => objsL f g (l ++ [o]) r
structure Tr where
  version : List UInt8
  cpu : List UInt8
  objs : List Ob
  noted : Bool
  note : List UInt8
def oilV : List UInt8 := [79, 73, 76, 95, 86, 69, 82, 83, 73, 79, 78]
def cpuW : List UInt8 := [67, 80, 85]
def textL (f : Nat) (xs : List Tp) : PR Tr :=
  (wordL oilV xs).bind fun _ r => (takeL 6 r).bind fun _ r => (takeL 3 r).bind fun v r => (takeL 7 r).bind fun _ r =>
  (wordL cpuW r).bind fun _ r => (takeL 1 r).bind fun c r => (takeL 4 r).bind fun _ r =>
  (objsL f f [] r).bind fun os r => (takeL 5 r).bind fun _ r => (noteL r).bind fun nt r => (takeL 7 r).bind fun _ r => (takeL 0 r).bind fun _ r =>
    .ok ⟨v.z.text, c.z.text, os, noteB nt, noteT nt⟩ r

/-! ### What is left is a row that ends, and not longer -/
theorem take_end {k : Int} {xs : List Tp} (h : EndL xs) (hk : k ≠ 0) : (∃ x r, xs = x :: r ∧ x.z.kind = k ∧ takeL k xs = .ok x r ∧ EndL r) ∨ (∃ x r, xs = x :: r ∧ x.z.kind ≠ k ∧ takeL k xs = .bad 30 x) := by
  cases h with
  | @one x h0 =>
    right
    refine ⟨x, [], rfl, by omega, ?_⟩
    rw [takeL_cons, if_neg (by omega)]
  | @more x r h0 hr =>
    by_cases e : x.z.kind = k
    · left
      exact ⟨x, r, rfl, e, by rw [takeL_cons, if_pos e], hr⟩
    · right
      exact ⟨x, r, rfl, e, by rw [takeL_cons, if_neg e]⟩
theorem endL_ne {xs : List Tp} (h : EndL xs) : ∃ x r, xs = x :: r := by
  cases h with
  | one _ => exact ⟨_, _, rfl⟩
  | more _ _ => exact ⟨_, _, rfl⟩
theorem bind_okE {α β : Type} {m : PR α} {f : α → List Tp → PR β} {b : β} {r : List Tp} (h : m.bind f = .ok b r) : ∃ a s, m = .ok a s ∧ f a s = .ok b r := by
  cases m with
  | ok a s => exact ⟨a, s, rfl, h⟩
  | bad c x => cases h
/-- What was read: what is left ends, and is shorter by n tokens and more. -/
def Lft {α : Type} (n : Nat) (xs : List Tp) (m : PR α) : Prop := ∀ a r, m = .ok a r → EndL r ∧ r.length + n ≤ xs.length
theorem take_left {k : Int} {xs : List Tp} (h : EndL xs) (hk : k ≠ 0) : Lft 1 xs (takeL k xs) := by
  intro a r e
  rcases take_end h hk with ⟨x, s, rfl, _, e2, hr⟩ | ⟨x, s, rfl, _, e2⟩
  · rw [e2] at e; cases e; exact ⟨hr, by simp⟩
  · rw [e2] at e; cases e
theorem note_left {xs : List Tp} (h : EndL xs) : Lft 0 xs (noteL xs) := by
  intro a r e
  unfold noteL at e
  split at e
  · obtain ⟨x, s, e1, e2⟩ := bind_okE e
    obtain ⟨y, t, e3, e4⟩ := bind_okE e2
    have h1 := take_left h (by decide) _ _ e1
    have h2 := take_left h1.1 (by decide) _ _ e3
    cases e4
    exact ⟨h2.1, by omega⟩
  · cases e; exact ⟨h, by omega⟩
theorem value_left {xs : List Tp} (h : EndL xs) : Lft 1 xs (valueL xs) := by
  intro a r e
  unfold valueL at e
  split at e
  · obtain ⟨x, s, e1, e2⟩ := bind_okE e
    have h1 := take_left h (by decide) _ _ e1
    cases e2
    exact h1
  · split at e
    · obtain ⟨x, s, e1, e2⟩ := bind_okE e
      have h1 := take_left h (by decide) _ _ e1
      cases e2
      exact h1
    · obtain ⟨x, s, e1, e2⟩ := bind_okE e
      have h1 := take_left h (by decide) _ _ e1
      cases e2
      exact h1
theorem attrs_left (f : Nat) : (∀ d xs, EndL xs → Lft 1 xs (attrL f d xs)) ∧ (∀ d xs, EndL xs → Lft 1 xs (attrsL f d xs)) ∧ (∀ d l xs, EndL xs → Lft 1 xs (rowL f d l xs)) := by
  induction f with
  | zero => exact ⟨fun d xs _ a r e => (by rw [attrL] at e; cases e), fun d xs _ a r e => (by rw [attrsL] at e; cases e), fun d l xs _ a r e => (by rw [rowL] at e; cases e)⟩
  | succ f ih =>
    obtain ⟨i1, i2, i3⟩ := ih
    refine ⟨fun d xs h a r e => ?_, fun d xs h a r e => ?_, fun d l xs h a r e => ?_⟩
    · rw [attrL] at e
      obtain ⟨x1, s1, e1, e⟩ := bind_okE e
      obtain ⟨x2, s2, e2, e⟩ := bind_okE e
      obtain ⟨x3, s3, e3, e⟩ := bind_okE e
      obtain ⟨x4, s4, e4, e⟩ := bind_okE e
      obtain ⟨x5, s5, e5, e⟩ := bind_okE e
      obtain ⟨x6, s6, e6, e⟩ := bind_okE e
      cases e
      have h1 := take_left h (by decide) _ _ e1
      have h2 := take_left h1.1 (by decide) _ _ e2
      have h3 := value_left h2.1 _ _ e3
      have h4 : EndL s4 ∧ s4.length ≤ s3.length := by
        split at e4
        · split at e4
          · cases e4
          · obtain ⟨y, t, e7, e8⟩ := bind_okE e4
            have h7 := i2 _ _ h3.1 _ _ e7
            cases e8
            exact ⟨h7.1, by omega⟩
        · cases e4; exact ⟨h3.1, Nat.le_refl _⟩
      have h5 := note_left h4.1 _ _ e5
      have h6 := take_left h5.1 (by decide) _ _ e6
      exact ⟨h6.1, by omega⟩
    · rw [attrsL] at e
      obtain ⟨x1, s1, e1, e⟩ := bind_okE e
      have h1 := take_left h (by decide) _ _ e1
      have h2 := i3 _ _ _ h1.1 _ _ e
      exact ⟨h2.1, by omega⟩
    · rw [rowL] at e
      split at e
      · obtain ⟨x1, s1, e1, e⟩ := bind_okE e
        have h1 := take_left h (by decide) _ _ e1
        cases e
        exact h1
      · obtain ⟨x1, s1, e1, e⟩ := bind_okE e
        have h1 := i1 _ _ h _ _ e1
        have h2 := i3 _ _ _ h1.1 _ _ e
        exact ⟨h2.1, by omega⟩
end Go.Proofs.YtlbgppijeoonjaaGreatDoor

