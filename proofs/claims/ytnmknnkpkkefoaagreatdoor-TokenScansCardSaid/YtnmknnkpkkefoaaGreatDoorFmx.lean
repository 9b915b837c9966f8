import Derived.Test.YtnmknnkpkkefoaaGreatDoorFmd
import Derived.Test.YtnmknnkpkkefoaaGreatDoorAtr
namespace Go.Proofs.YtnmknnkpkkefoaaGreatDoor
open Go.RowKit
set_option linter.unusedVariables false

set_option maxHeartbeats 1000000 in
theorem pow2_16 (w : World) : Calls Tryz.prog 120 #[.int .i64 16] w fun e w' => e = .returned (.bool true) ∧ w = w' := by
  go_enter Tryz.func120, Tryz.ntmps120
  go_wp2
  go_ret
  exact ⟨rfl, rfl⟩
set_option maxHeartbeats 1000000 in
theorem tz64_16 (w : World) (h : w.cell? ⟨15, 15, none⟩ = some (.int .u8 4)) : Calls Tryz.prog 129 #[.int .u64 16] w fun e w' => e = .returned (.int .i64 4) ∧ w = w' := by
  have b1 : bits BinOp.and IntKind.u64 16 (IntKind.u64.wrap (-16)) = 16 := by decide
  have b2 : IntKind.u64.wrap (16 * 285870213051353865) = 4573923408821661840 := by decide
  have b3 : IntKind.u64.wrap 4573923408821661840 = 4573923408821661840 := by decide
  go_enter Tryz.func129, Tryz.ntmps129
  go_wp2
  go_ret
  exact ⟨rfl, rfl⟩
set_option maxHeartbeats 1000000 in
theorem tz_16 (w : World) (h : w.cell? ⟨15, 15, none⟩ = some (.int .u8 4)) : Calls Tryz.prog 121 #[.int .u64 16] w fun e w' => e = .returned (.int .i64 4) ∧ w = w' := by
  go_enter Tryz.func121, Tryz.ntmps121
  go_wp2_with (go_at_call 129; refine (tz64_16 _ h).mono ?_; rintro e w' ⟨rfl, rfl⟩)
  go_ret
  exact ⟨rfl, rfl⟩
abbrev dig36 : ByteArray := ⟨#[48, 49, 50, 51, 52, 53, 54, 55, 56, 57, 97, 98, 99, 100, 101, 102, 103, 104, 105, 106, 107, 108, 109, 110, 111, 112, 113, 114, 115, 116, 117, 118, 119, 120, 121, 122]⟩
theorem dig_at (d : Nat) (hd : d < 16) (w : World) : (Instr.index 9 (.string dig36) (.int .u64 (d : Int))).run Tryz.prog w = .ok (.int .u8 ((hexd d).toNat : Int)) w := by
  have h1 : (0 : Int) ≤ d ∧ (d : Int) < dig36.size := by have : dig36.size = 36 := rfl; omega
  have h2 : ∀ k, k < 16 → dig36.data[k]! = hexd k := by decide
  have h4 : ¬ (36 : Int) ≤ d := by omega
  have h3 : dig36[d]'(by have : dig36.size = 36 := rfl; omega) = hexd d := by
    rw [← h2 d hd, getElem!_pos dig36.data d (by show d < 36; omega)]; rfl
  simp [go_sem, h1, h3]
  omega
theorem and15 (u : Nat) (hu : u < 18446744073709551616) : bits .and .u64 (u : Int) 15 = ((u % 16 : Nat) : Int) := by
  show IntKind.u64.wrap ((BitVec.ofInt 64 (u : Int) &&& BitVec.ofInt 64 15).toNat : Int) = _
  have h1 : (BitVec.ofInt 64 15).toNat = 2 ^ 4 - 1 := by decide
  have h2 : (BitVec.ofInt 64 (u : Int)).toNat = u := by
    rw [BitVec.ofInt_natCast, BitVec.toNat_ofNat]; exact Nat.mod_eq_of_lt (by omega)
  rw [BitVec.toNat_and, h1, h2, Nat.and_two_pow_sub_one_eq_mod, IntKind.wrap_u64]
  omega
/-- The digits written so far, at the end of the row. -/
structure HB (w wr : World) (b : Nat) (suf : List UInt8) : Prop where
  row : ∃ arr : Array Value, wr.heap[b]? = some (.cells arr 178 (0, 0)) ∧ arr.size = 65 ∧ arr.toList.drop (65 - suf.length) = suf.map fun c => Value.int .u8 (c.toNat : Int)
  bel : Below b w wr
theorem HB.put {w wr : World} {suf : List UInt8} {m : Nat} (h : HB w wr w.heap.size suf) (hm : m + 1 + suf.length = 65) (c : UInt8) : HB w (wr.setCell ⟨w.heap.size, m, none⟩ (.int .u8 (c.toNat : Int))) w.heap.size (c :: suf) := by
  obtain ⟨arr, r1, r2, r3⟩ := h.row
  refine ⟨⟨_, heap_setCell_same wr w.heap.size m _ _ _ r1, by simp [r2], ?_⟩, h.bel.set3 _ _ _ (Nat.le_refl _)⟩
  have e1 : 65 - (c :: suf).length = m := by simp; omega
  have e2 : 65 - suf.length = m + 1 := by omega
  rw [e1]
  rw [e2] at r3
  rw [List.map_cons, ← r3, Array.toList_setIfInBounds, List.drop_eq_getElem_cons (by simp; omega)]
  congr 1
  · simp
  · rw [List.drop_set_of_lt (by omega)]
set_option maxHeartbeats 2000000 in
set_option maxRecDepth 100000 in
theorem bits16 (v : Nat) (hv : v < 4294967296) (w : World) (h : w.cell? ⟨15, 15, none⟩ = some (.int .u8 4)) (hw : 16 ≤ w.heap.size) :
    Calls Tryz.prog 103 #[.slice none 0 0, .int .u64 (v : Int), .int .i64 16, .bool false, .bool false] w fun e w' => e = .returned (.tuple #[.slice none 0 0, .string ⟨(hexG hexd v).toArray⟩]) ∧ Below w.heap.size w w' := by
  have h' : ∀ o, (w.alloc o).cell? ⟨15, 15, none⟩ = some (.int .u8 4) := fun o => by
    rw [cell_below ((Below.refl w.heap.size w).alloc (Nat.le_refl _) o) _ _ (by omega)]; exact h
  go_enter Tryz.func103, Tryz.ntmps103
  go_wp2_with (first
    | (go_at_call 120; refine (pow2_16 _).mono ?_; rintro e w' ⟨rfl, rfl⟩)
    | (go_at_call 121; refine (tz_16 _ (h' _)).mono ?_; rintro e w' ⟨rfl, rfl⟩))
  go_loopw [1, 13] (fun u i wr => ∃ (k n : Nat) (z : Int) (suf : List UInt8), u = .int .u64 (k : Int) ∧ i = .int .i64 z ∧ z = n ∧ n + suf.length = 65 ∧ suf.length ≤ 7 ∧ k < 4294967296 ∧ HB w wr w.heap.size suf ∧ Hid (k < 16 ^ (8 - suf.length) ∧ hexG hexd v = hexG hexd k ++ suf))
    (fun u _ _ => (intOf u).toNat)
  case atStart =>
    refine ⟨v, 65, 65, [], rfl, rfl, rfl, rfl, by simp, hv, ⟨⟨Tryz.zeroCells178, heap_alloc_new _ _, by kernel_rfl, ?_⟩, (Below.refl _ _).alloc (Nat.le_refl _) _⟩, ?_, by simp⟩
    · rw [List.drop_eq_nil_of_le (by rw [Array.length_toList, show Tryz.zeroCells178.size = 65 by kernel_rfl]; simp)]; rfl
    · simpa using hv
  case round =>
    obtain ⟨k, n, z, suf, rfl, rfl, hz, hn, hl, hk, hB, hh⟩ := hrel
    obtain ⟨arr, r1, r2, r3⟩ := hB.row
    obtain ⟨m, rfl⟩ : ∃ m, n = m + 1 := ⟨n - 1, by omega⟩
    obtain rfl : z = (m : Int) + 1 := by omega
    have hm : m < arr.size := by omega
    have HR : Hid (arr.toList.drop (65 - suf.length) = suf.map fun c => Value.int .u8 (c.toNat : Int)) := r3
    have HB2 := hB.bel
    have hc : wr.cell? ⟨w.heap.size, m, none⟩ = some arr[m] := by
      rw [cell_of_row wr w.heap.size m _ _ (0, 0) r1, Array.getElem?_eq_getElem hm]
    have fz : wr.frozen? ⟨w.heap.size, m, none⟩ = false := frozen_of_row wr w.heap.size m _ _ r1
    obtain ⟨d, hd⟩ : ∃ d, d = k % 16 := ⟨_, rfl⟩
    have hd16 : d < 16 := by omega
    have ha := and15 k (by omega)
    rw [← hd] at ha
    have hix := dig_at d hd16
    have HD : Hid (d = k % 16) := hd
    have hP := hB.put hn
    clear r3 hz hB hd
    by_cases hge : 16 ≤ k
    · have hge' : (16 : Int) ≤ k := by omega
      generalize arr[m] = old at *
      have HP := hP (hexd d)
      clear hP
      go_wp2
      refine ⟨⟨k / 16, m, m, hexd d :: suf, by go_num, rfl, rfl, by simp; omega, ?_, by omega, HP, ?_⟩, ?_⟩
      · have h1 := hh.out.1
        by_cases e : suf.length = 7
        · rw [e] at h1; omega
        · simp; omega
      · obtain ⟨h1, h2⟩ := hh.out
        constructor
        · obtain ⟨q, hq⟩ : ∃ q, 8 - suf.length = q + 1 := ⟨7 - suf.length, by omega⟩
          rw [show 8 - (hexd d :: suf).length = q by simp; omega]
          rw [hq, Nat.pow_succ] at h1
          omega
        · rw [h2, hexG, dif_neg (by omega), HD.out]
          simp
      · simp [intOf]; omega
    · have hge' : ¬ (16 : Int) ≤ k := by omega
      generalize arr[m] = old at *
      have HP := hP (hexd d)
      clear hP
      have hdk : d = k := by rw [HD.out]; omega
      subst hdk
      have hal : Tryz.prog.arrayLen 178 = 65 := by kernel_rfl
      obtain ⟨L, hL⟩ : ∃ L, L = (hexd d :: suf).length := ⟨_, rfl⟩
      have hLm : 65 - m = L := by rw [hL]; simp; omega
      have hsl : ∀ W, (Instr.sliceAt 178 (.pointer (some ⟨w.heap.size, 0, none⟩)) (some (.int .i64 (m : Int))) none none).run Tryz.prog W = .ok (.slice (some ⟨w.heap.size, m, none⟩) L L) W := fun W => by
        rw [run_sliceAt_array_l W 178 ⟨w.heap.size, 0, none⟩ (by simp [Program.arrayLen, Program.elem, Tryz.underlying178]) .i64 (m : Int) (by omega) (by rw [hal]; omega), hal]
        have hm0 : m ≠ 65 := by omega
        go_simp
        omega
      have hcv : (convert 71 9 (.slice (some ⟨w.heap.size, m, none⟩) L L)).run Tryz.prog (wr.setCell ⟨w.heap.size, m, none⟩ (.int .u8 ((hexd d).toNat : Int))) = .ok (.string ⟨(hexG hexd v).toArray⟩) (wr.setCell ⟨w.heap.size, m, none⟩ (.int .u8 ((hexd d).toNat : Int))) := by
        have e : hexG hexd v = hexd d :: suf := by rw [hh.out.2, hexG, dif_pos (by omega)]; rfl
        rw [e, hL]
        obtain ⟨arr2, q1, q2, q3⟩ := HP.row
        refine run_convert_bytes_back _ 71 9 5 ⟨w.heap.size, m, none⟩ _ (hexd d :: suf) Tryz.underlying71 Tryz.underlying5 Tryz.underlying9 (fun j hj => ?_)
        rw [Lib.add_plain, cell_of_row _ w.heap.size (m + j) _ _ (0, 0) q1]
        rw [show 65 - (hexd d :: suf).length = m by omega] at q3
        have := congrArg (fun l => l[j]?) q3
        simp only [List.getElem?_drop, List.getElem?_map] at this
        rw [← Array.getElem?_toList, this, List.getElem?_eq_getElem hj]
        rfl
      have hb := HP.bel
      have HHC : Hid (hexG hexd v = hexG hexd d ++ suf) := hh.out.2
      have hm65 : m < 65 := by omega
      clear HP hh HR HB2 hLm hL hal r1 r2 hm hn hl hk HD
      go_wp2
      go_ret2
      exact ⟨rfl, hb⟩
/-- The tables that the writing of numbers asks. -/
structure EnvT (w : World) : Prop where
  pow : PowIs w
  bru : w.cell? ⟨15, 15, none⟩ = some (.int .u8 4)
  siz : 16 ≤ w.heap.size
theorem EnvT.below {w w' : World} (h : EnvT w) (hb : Below w.heap.size w w') : EnvT w' := by
  refine ⟨?_, ?_, Nat.le_trans h.siz hb.size⟩
  · exact Lib.tabBelow_of_tabIs h.pow w' hb
  · rw [cell_below hb _ _ (by have := h.siz; omega)]; exact h.bru
set_option maxHeartbeats 1000000 in
set_option maxRecDepth 100000 in
theorem fmtX_in (v : Nat) (hv : v < 4294967296) (w : World) (hT : EnvT w) :
    Calls Tryz.prog 84 #[.int .u64 (v : Int), .int .i64 16] w fun e w' => e = .returned (.string ⟨(hexG hexd v).toArray⟩) ∧ Below w.heap.size w w' := by
  have c := bits16 v hv
  have b := hT.bru
  have z := hT.siz
  go_enter Tryz.func84, Tryz.ntmps84
  go_wp2_with (go_at_call 103; refine (c _ b z).mono ?_; rintro e w' ⟨rfl, hb⟩)
  go_ret
  exact ⟨rfl, hb⟩
theorem fmtX (v : Nat) (hv : v < 4294967296) (w : World) (hT : EnvT w) :
    Calls Tryz.prog 68 #[.int .u64 (v : Int), .int .i64 16] w fun e w' => e = .returned (.string ⟨(hexG hexd v).toArray⟩) ∧ Below w.heap.size w w' := by
  go_enter Tryz.func68, Tryz.ntmps68
  go_wp2_with (go_at_call 84; refine (fmtX_in v hv _ hT).mono ?_; rintro e w' ⟨rfl, hb⟩)
  go_ret
  exact ⟨rfl, hb⟩
end Go.Proofs.YtnmknnkpkkefoaaGreatDoor
