import Derived.Test.YtnlbdhplpjcgcaaDoorRead
namespace Go.Proofs.YtnlbdhplpjcgcaaDoor
open Go.RowKit
set_option linter.unusedVariables false

/-- The value of bytes, the first the lowest. -/
def leV : List UInt8 → Nat
  | [] => 0
  | x :: l => x.toNat + 256 * leV l
theorem leV_snoc (l : List UInt8) (x : UInt8) : leV (l ++ [x]) = leV l + x.toNat * 256 ^ l.length := by
  induction l with
  | nil => simp [leV]
  | cons a l ih =>
    simp only [List.cons_append, leV, ih, List.length_cons, Nat.pow_succ]
    rw [Nat.mul_add, Nat.mul_comm (256 ^ l.length) 256, ← Nat.mul_assoc, ← Nat.mul_assoc, Nat.mul_comm 256 x.toNat]
    exact (Nat.add_assoc _ _ _).symm
theorem leV_lt (l : List UInt8) : leV l < 256 ^ l.length := by
  induction l with
  | nil => simp [leV]
  | cons a l ih =>
    simp only [leV, List.length_cons, Nat.pow_succ]
    have := a.toNat_lt
    omega

set_option maxHeartbeats 400000 in
theorem rleft_made {w : World} {base r : Nat} {a : Option Addr} {n cap : Nat} {l : List UInt8} (h : IsR w base r a n cap l) : Calls Tryd.prog 17 #[.pointer (some ⟨r, 0, none⟩)] w fun e w' => e = .returned (.int .i64 n) ∧ w = w' := by
  have c0 := h.c0
  have c1 := h.c1
  go_enter Tryd.func17, Tryd.ntmps17
  go_wp2_with (go_at_call 23; refine (none_any _ _ true _ c0).mono ?_; rintro e w' ⟨rfl, rfl⟩)
  go_ret
  exact ⟨rfl, rfl⟩
set_option maxHeartbeats 400000 in
theorem rnumber_arg {w : World} {base r : Nat} {a : Option Addr} {n cap : Nat} {l : List UInt8} (h : IsR w base r a n cap l) (m : Int) (hm : m < 1 ∨ 8 < m) : Calls Tryd.prog 15 #[.pointer (some ⟨r, 0, none⟩), .int .i64 m] w fun e w' => e = .returned (.tuple #[.int .u64 0, .int .i64 2]) ∧ w = w' := by
  have c0 := h.c0
  have c1 := h.c1
  have C : Hid (∀ w, _) := fun w => width_no m w hm
  clear hm
  go_enter Tryd.func15, Tryd.ntmps15
  go_wp2_with (first | (go_at_call 23; refine (none_any _ _ true _ c0).mono ?_; rintro e w' ⟨rfl, rfl⟩) | (go_at_call 20; refine (C.out _).mono ?_; rintro e w' ⟨rfl, rfl⟩))
  go_ret2
  exact ⟨rfl, rfl⟩
set_option maxHeartbeats 400000 in
theorem rnumber_short {w : World} {base r : Nat} {a : Option Addr} {n cap : Nat} {l : List UInt8} (h : IsR w base r a n cap l) (m : Int) (h1 : 1 ≤ m) (h2 : m ≤ 8) (hm : n < m) : Calls Tryd.prog 15 #[.pointer (some ⟨r, 0, none⟩), .int .i64 m] w fun e w' => e = .returned (.tuple #[.int .u64 0, .int .i64 10]) ∧ w = w' := by
  have c0 := h.c0
  have c1 := h.c1
  go_enter Tryd.func15, Tryd.ntmps15
  go_wp2_with (first | (go_at_call 23; refine (none_any _ _ true _ c0).mono ?_; rintro e w' ⟨rfl, rfl⟩) | (go_at_call 20; refine (width_yes _ _ h1 h2).mono ?_; rintro e w' ⟨rfl, rfl⟩))
  go_ret2
  exact ⟨rfl, rfl⟩
/-- A reader at block r whose rest reads as l. -/
def Rdr (w : World) (base r : Nat) (l : List UInt8) : Prop := ∃ a cap, IsR w base r a l.length cap l
theorem IsR.rdr {w : World} {base r : Nat} {a : Option Addr} {n cap : Nat} {l : List UInt8} (h : IsR w base r a n cap l) : Rdr w base r l := ⟨a, cap, by rw [h.hrd.hlen]; exact h⟩

theorem isR_store {w : World} {base r : Nat} {a : Option Addr} {n cap : Nat} {l : List UInt8} (h : IsR w base r a n cap l) (a' : Option Addr) (n' cap' : Nat) (l' : List UInt8)
    (hr : Rd w a' n' cap' l') (hlt : ∀ b off, a' = some ⟨b, off, none⟩ → 0 < n' → b < r) :
    IsR (w.setCell ⟨r, 1, none⟩ (.slice a' n' cap')) base r a' n' cap' l' ∧ w.grownBy (w.setCell ⟨r, 1, none⟩ (.slice a' n' cap')) (some r) := by
  refine ⟨⟨heap_setCell_same w r 1 _ 51 _ h.hheap, h.hbase, ⟨hr.hlen, hr.hle, hr.hsmall, hr.hnil, fun hp => ?_⟩, hlt⟩, rfl, rfl, rfl, by simp, fun k _ hk => heap_setCell_other w ⟨r, 1, none⟩ k _ (fun e => hk (by simp [e]))⟩
  obtain ⟨b, off, e, hb, hc⟩ := hr.hcell hp
  have hbr := hlt b off e hp
  refine ⟨b, off, e, by simpa using hb, fun i x hx => ?_⟩
  rw [World.cell?_of_block (w := w) (heap_setCell_other w ⟨r, 1, none⟩ b _ (by simp; omega))]
  exact hc i x hx
/-- What is left behind m bytes. -/
theorem rd_drop {w : World} {b o n cap : Nat} {l : List UInt8} (h : Rd w (some ⟨b, o, none⟩) n cap l) (m : Nat) (hm : m ≤ n) : (cap = m → Rd w (some ⟨b, o, none⟩) (n - m) 0 (l.drop m)) ∧ (¬ cap = m → Rd w (some ⟨b, o + m, none⟩) (n - m) (cap - m) (l.drop m)) := by
  have hl := h.hlen
  have hle := h.hle
  have hs := h.hsmall
  refine ⟨fun e => ⟨by simp; omega, by omega, by omega, (fun e => by cases e), fun hp => by omega⟩, fun e => ⟨by simp; omega, by omega, by omega, (fun e => by cases e), fun hp => ?_⟩⟩
  obtain ⟨b', o', e', hb, hc⟩ := h.hcell (by omega)
  simp only [Option.some.injEq, Addr.mk.injEq, and_true] at e'
  obtain ⟨rfl, rfl⟩ := e'
  refine ⟨b, o + m, rfl, hb, fun i x hx => ?_⟩
  rw [List.getElem?_drop] at hx
  rw [Nat.add_assoc]
  exact hc _ x hx

theorem or_step (v x j : Nat) (hv : v < 256 ^ j) (hx : x < 256) (hj : j < 8) : bits .or .u64 (v : Int) (IntKind.u64.wrap ((x : Int) * 2 ^ (8 * j))) = ((v + x * 256 ^ j : Nat) : Int) := by
  have hp : (256 : Nat) ^ j = 2 ^ (8 * j) := by rw [Nat.pow_mul]
  have hp8 : (256 : Nat) ^ j ≤ 256 ^ 7 := Nat.pow_le_pow_right (by decide) (by omega)
  have hxb : x * 256 ^ j ≤ 255 * 256 ^ 7 := Nat.mul_le_mul (by omega) hp8
  have e1 : ((x : Int) * 2 ^ (8 * j)) = ((x * 256 ^ j : Nat) : Int) := by rw [hp]; simp
  rw [e1, IntKind.wrap_u64]
  have e2 : ((x * 256 ^ j : Nat) : Int) % 18446744073709551616 = ((x * 256 ^ j : Nat) : Int) := by omega
  rw [e2, bits_or_u64_nat _ _ (by omega) (by omega)]
  rw [hp] at hv ⊢
  rw [Nat.or_comm, Nat.mul_comm x, ← Nat.two_pow_add_eq_or_of_lt hv x, Nat.add_comm]

set_option maxHeartbeats 1000000 in
theorem rnumber_made {w : World} {base r : Nat} {a : Option Addr} {n cap : Nat} {l : List UInt8} (h : IsR w base r a n cap l) (m : Nat) (h1 : 1 ≤ m) (h2 : m ≤ 8) (hm : m ≤ n) : Calls Tryd.prog 15 #[.pointer (some ⟨r, 0, none⟩), .int .i64 m] w fun e w' => e = .returned (.tuple #[.int .u64 (leV (l.take m) : Nat), .int .i64 0]) ∧ Rdr w' base r (l.drop m) ∧ w.grownBy w' (some r) := by
  have c0 := h.c0
  have c1 := h.c1
  have f1 := h.f1
  have hs1 := h.hrd.hsmall
  have hl1 := h.hrd.hlen
  have hle := h.hrd.hle
  have hnm : ¬ (n : Int) < m := by omega
  obtain ⟨b1, o1, rfl, hb1, hc1⟩ := h.hrd.hcell (by omega)
  have HC : Hid (∀ i x, l[i]? = some x → w.cell? ⟨b1, o1 + i, none⟩ = some (.int .u8 (x.toNat : Int))) := hc1
  clear hc1
  have hbr := h.hlt b1 o1 rfl (by omega)
  go_enter Tryd.func15, Tryd.ntmps15
  go_wp2_with (first | (go_at_call 23; refine (none_any _ _ true _ c0).mono ?_; rintro e w' ⟨rfl, rfl⟩) | (go_at_call 20; refine (width_yes _ _ (by omega) (by omega)).mono ?_; rintro e w' ⟨rfl, rfl⟩))
  go_loop [6, 21] (fun v i => ∃ j : Nat, j ≤ m ∧ i = .int .i64 j ∧ v = .int .u64 ((leV (l.take j) : Nat) : Int)) (fun _ i => m - (intOf i).toNat)
  case atStart => exact ⟨0, by omega, rfl, rfl⟩
  case round =>
    obtain ⟨j, hj, rfl, rfl⟩ := hrel
    by_cases hlt : j < m
    · obtain ⟨x, hx⟩ : ∃ x, l[j]? = some x := ⟨l[j], List.getElem?_eq_getElem (by omega)⟩
      have hcx := HC.out j x hx
      have hx8 := x.toNat_lt
      have hvl : leV (l.take j) < 256 ^ j := by have := leV_lt (l.take j); rwa [List.length_take, Nat.min_eq_left (by omega)] at this
      have HN : Hid (leV (l.take (j + 1)) = leV (l.take j) + x.toNat * 256 ^ j) := by
        show leV (l.take (j + 1)) = leV (l.take j) + x.toNat * 256 ^ j
        rw [take_succ' _ _ _ hx, leV_snoc, List.length_take, Nat.min_eq_left (by omega)]
      have HO : Hid (_ = _) := or_step _ x.toNat j hvl (by omega) (by omega)
      clear hx hvl
      go_wp2
      go_round
      case rel => exact ⟨j + 1, by omega, by go_num, by rw [HN.out, ← HO.out]⟩
      case measure => simp [intOf]; omega
    · have hjm : j = m := by omega
      subst hjm
      have HE := (show Hid (_ ∧ _) from rd_drop h.hrd j hm)
      by_cases hcm : cap = j
      · have R := isR_store h _ _ _ _ (HE.out.1 hcm) (fun b off e hp => by omega)
        have HR := (show Hid (_ ∧ _) from R)
        clear R
        go_wp2
        go_ret2
        exact ⟨rfl, HR.out.1.rdr, HR.out.2⟩
      · have R := isR_store h _ _ _ _ (HE.out.2 hcm) (fun b off e hp => by simp only [Option.some.injEq, Addr.mk.injEq] at e; omega)
        have HR := (show Hid (_ ∧ _) from R)
        clear R
        go_wp2
        go_ret2
        exact ⟨rfl, HR.out.1.rdr, HR.out.2⟩
end Go.Proofs.YtnlbdhplpjcgcaaDoor
