import Derived.Test.YtnlbdhplpjcgcaaDoorLeaf
namespace Go.Proofs.YtnlbdhplpjcgcaaDoor
open Go.RowKit
set_option linter.unusedVariables false

def B (c : UInt8) : Value := .int .u8 (c.toNat : Int)
theorem Tryd.info5 : (Tryd.prog.info? 5).map (fun i => (i.zero, i.size, i.bytes)) = some (some (.int .u8 0), 1, 1) := by kernel_rfl

theorem rd_of_owns {w : World} {base : Nat} {a : Option Addr} {n cap : Nat} {l : List UInt8} (h : w.ownsRow base 5 1 (.slice a n cap) n (l.map B)) (hs : n ≤ 140737488351232) : Rd w a n cap l := by
  have hl : l.length = n := by have := h.1; simpa using this
  rcases h.2 with ⟨h1, h2⟩ | ⟨g, cap', cur, hv, hg, hh, hle, _, _, _⟩
  · simp only [Value.slice.injEq] at h1
    obtain ⟨rfl, rfl, rfl⟩ := h1
    exact ⟨hl, Nat.le_refl _, hs, fun _ => ⟨rfl, rfl⟩, fun hp => by omega⟩
  · simp only [Value.slice.injEq] at hv
    obtain ⟨rfl, _, rfl⟩ := hv
    refine ⟨hl, hle, hs, (fun e => by cases e), fun hp => ⟨g, 0, rfl, ?_, fun i x hx => ?_⟩⟩
    · rcases Nat.lt_or_ge g w.heap.size with h' | h'
      · exact h'
      · rw [Array.getElem?_eq_none h'] at hh; cases hh
    · have hi : i < l.length := by exact (List.getElem?_eq_some_iff.mp hx).1
      have := h.cellAt i (by omega)
      rw [Nat.zero_add, this]
      simp [hx, B]

/-- A row of n cells of which the first j are written. -/
def fill (l : List UInt8) (j n : Nat) : List Value := (l.take j).map B ++ List.replicate (n - j) (.int .u8 0)
theorem fill_zero (l : List UInt8) (n : Nat) : fill l 0 n = List.replicate n (.int .u8 0) := by simp [fill]
theorem fill_all (l : List UInt8) (n : Nat) (h : l.length = n) : fill l n n = l.map B := by
  unfold fill; rw [List.take_of_length_le (by omega)]; simp
theorem fill_get (l : List UInt8) (j n : Nat) (h : l.length = n) (hj : j < n) : (fill l j n)[j]? = some (.int .u8 0) := by
  unfold fill
  rw [List.getElem?_append_right (by simp; omega), List.getElem?_replicate, if_pos (by simp; omega)]
theorem fill_set (l : List UInt8) (j n : Nat) (x : UInt8) (h : l.length = n) (hx : l[j]? = some x) : (fill l j n).set j (.int .u8 (x.toNat : Int)) = fill l (j + 1) n := by
  have hj : j < n := by rw [← h]; exact (List.getElem?_eq_some_iff.mp hx).1
  unfold fill
  rw [take_succ' _ _ _ hx, show n - j = (n - (j + 1)) + 1 by omega, List.replicate_succ, List.set_append_right _ _ (by simp; omega)]
  simp [B, show min j l.length = j by omega]

/-- The n lowest bytes, the lowest first. -/
def leB : Nat → Nat → List UInt8
  | 0, _ => []
  | n + 1, v => UInt8.ofNat (v % 256) :: leB n (v / 256)
theorem leB_len (n v : Nat) : (leB n v).length = n := by
  induction n generalizing v with
  | zero => rfl
  | succ n ih => simp [leB, ih]
theorem leB_get (n v j : Nat) (h : j < n) : (leB n v)[j]? = some (UInt8.ofNat (v / 256 ^ j % 256)) := by
  induction n generalizing v j with
  | zero => omega
  | succ n ih =>
    cases j with
    | zero => simp [leB]
    | succ j =>
      simp only [leB, List.getElem?_cons_succ]
      rw [ih _ _ (by omega), Nat.div_div_eq_div_mul, Nat.pow_succ, Nat.mul_comm]

theorem tup2 {a b c d : Value} (h1 : a = c) (h2 : b = d) : Ending.returned (.tuple #[a, b]) = .returned (.tuple #[c, d]) := by rw [h1, h2]

set_option maxHeartbeats 400000 in
theorem number_no (v n : Int) (w : World) (hv : 0 ≤ v) (hv2 : v < 18446744073709551616) (h : n < 1 ∨ 8 < n ∨ (1 ≤ n ∧ n ≤ 8 ∧ ¬ v < 256 ^ n.toNat)) :
    Calls Tryd.prog 12 #[.int .u64 v, .int .i64 n] w fun e w' => e = .returned (.tuple #[.slice none 0 0, .int .i64 2]) ∧ w = w' := by
  by_cases hn : 1 ≤ n ∧ n ≤ 8
  · obtain ⟨h1, h2⟩ := hn
    have hd : decide (v < 256 ^ n.toNat) = false := by simp; omega
    have c := fun w => fits_any v n w h1 h2 hv hv2
    rw [hd] at c
    have C := (show Hid (∀ w, _) from c)
    clear c h hd
    go_enter Tryd.func12, Tryd.ntmps12
    go_wp2_with (first | (go_at_call 20; refine (width_yes _ _ h1 h2).mono ?_; rintro e w' ⟨rfl, rfl⟩) | (go_at_call 21; refine (C.out _).mono ?_; rintro e w' ⟨rfl, rfl⟩))
    go_ret2
    exact ⟨rfl, rfl⟩
  · have hn' : n < 1 ∨ 8 < n := by omega
    have C : Hid (∀ w, _) := fun w => width_no n w hn'
    clear h hn hn'
    go_enter Tryd.func12, Tryd.ntmps12
    go_wp2_with (go_at_call 20; refine (C.out _).mono ?_; rintro e w' ⟨rfl, rfl⟩)
    go_ret2
    exact ⟨rfl, rfl⟩

set_option maxHeartbeats 1000000 in
theorem number_yes (v n : Nat) (w : World) (h1 : 1 ≤ n) (h2 : n ≤ 8) (hv2 : v < 18446744073709551616) (hf : v < 256 ^ n) :
    Calls Tryd.prog 12 #[.int .u64 v, .int .i64 n] w fun e w' => e = .returned (.tuple #[.slice (some ⟨w.heap.size, 0, none⟩) n n, .int .i64 0]) ∧ w'.ownsRow w.heap.size 5 1 (.slice (some ⟨w.heap.size, 0, none⟩) n n) n ((leB n v).map B) ∧ Below w.heap.size w w' := by
  obtain ⟨i0, hi, hz0, hz1, hz2⟩ := info_parts Tryd.info5
  have hd : decide ((v : Int) < 256 ^ ((n : Int)).toNat) = true := by
    rw [Int.toNat_natCast]
    exact decide_eq_true (by have := Int.ofNat_lt.mpr hf; rwa [Int.natCast_pow] at this)
  have c := fun w => fits_any v n w (by omega) (by omega) (by omega) (by omega)
  rw [hd] at c
  have C := (show Hid (∀ w, _) from c)
  have HL : Hid ((leB n v).length = n) := leB_len n v
  clear c hd hf
  go_enter Tryd.func12, Tryd.ntmps12
  go_wp2_with (first | (go_at_call 20; refine (width_yes _ _ (by omega) (by omega)).mono ?_; rintro e w' ⟨rfl, rfl⟩) | (go_at_call 21; refine (C.out _).mono ?_; rintro e w' ⟨rfl, rfl⟩) | (at_make; refine wpList_make_full _ rfl _ _ 35 rfl w.heap.size 5 i0 (.int .u8 0) 1 Tryd.underlying35 hi hz0 hz1 .i64 .i64 _ _ n rfl rfl rfl rfl (by rw [hz2]; omega) (by unfold maxLen; omega) (Nat.le_refl _) ?_))
  intro w1 hown hg
  have hown0 : w1.ownsRow w.heap.size 5 1 (.slice (some ⟨w.heap.size, 0, none⟩) n n) n (List.replicate n (.int .u8 0)) := by
    rw [← toList_madeCells_one]; exact hown
  have hbel : Below w.heap.size w w1 := (Below.refl _ _).grown hg (Nat.le_refl _) (fun k h => by cases h)
  clear hown hg
  go_wp2
  go_loopw [0, 21] (fun u i wr => ∃ j : Nat, j ≤ n ∧ i = .int .i64 j ∧ u = .int .u64 ((v / 256 ^ j : Nat) : Int) ∧ wr.ownsRow w.heap.size 5 1 (.slice (some ⟨w.heap.size, 0, none⟩) n n) n (fill (leB n v) j n) ∧ Below w.heap.size w wr) (fun _ i _ => n - (intOf i).toNat)
  case atStart => exact ⟨0, by omega, rfl, by simp, by rw [fill_zero]; exact hown0, hbel⟩
  case round =>
    obtain ⟨j, hj, rfl, rfl, ho, hb⟩ := hrel
    by_cases hlt : j < n
    · have hx := leB_get n v j hlt
      have hu : v / 256 ^ j < 18446744073709551616 := Nat.lt_of_le_of_lt (Nat.div_le_self _ _) hv2
      have HD : Hid (v / 256 ^ (j + 1) = v / 256 ^ j / 256) := by
        show v / 256 ^ (j + 1) = v / 256 ^ j / 256
        rw [Nat.pow_succ, Nat.div_div_eq_div_mul]
      generalize v / 256 ^ j = u at *
      have hxn : ((UInt8.ofNat (u % 256)).toNat : Int) = (u : Int) % 256 := by simp
      have f1 := ho.frozenAt j
      have c2 : wr.cell? ⟨w.heap.size, j, none⟩ = some (.int .u8 0) := by
        rw [ho.cellAt j (by omega)]; exact fill_get _ j n HL.out hlt
      have R : (wr.setCell ⟨w.heap.size, j, none⟩ (.int .u8 ((u : Int) % 256))).ownsRow w.heap.size 5 1 (.slice (some ⟨w.heap.size, 0, none⟩) n n) n (fill (leB n v) (j + 1) n) ∧ Below w.heap.size w (wr.setCell ⟨w.heap.size, j, none⟩ (.int .u8 ((u : Int) % 256))) := by
        refine ⟨?_, hb.setCell (Nat.le_refl _) _⟩
        rw [← fill_set _ j n _ HL.out hx, hxn]; exact (ho.stored j _).1
      have HR : Hid (_ ∧ _) := R
      clear hx ho hb R hxn
      go_wp2
      go_roundw
      case rel => exact ⟨j + 1, by omega, by go_num, by rw [HD.out]; go_num, HR.out.1, HR.out.2⟩
      case measure => simp [intOf]; omega
    · have hjn : j = n := by omega
      subst hjn
      go_wp2
      go_ret2
      refine ⟨rfl, ?_, hb⟩
      rw [← fill_all _ j HL.out]; exact ho
end Go.Proofs.YtnlbdhplpjcgcaaDoor
