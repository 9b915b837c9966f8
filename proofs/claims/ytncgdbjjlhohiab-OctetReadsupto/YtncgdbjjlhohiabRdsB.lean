import Derived.Test.YtncgdbjjlhohiabRdsA
namespace Go.Proofs.Ytncgdbjjlhohiab
open Go.RowKit
set_option linter.unusedVariables false

set_option maxHeartbeats 1000000 in
theorem rtext_empty {w : World} {base r : Nat} {a : Option Addr} {cap : Nat} {l : List UInt8} (h : IsR w base r a 0 cap l) : Calls Try.prog 24 #[.pointer (some ⟨r, 0, none⟩)] w fun e w' => e = .returned (.tuple #[.string ByteArray.empty, .int .i64 10]) ∧ w = w' := by
  have c0 := h.c0
  have c1 := h.c1
  go_enter Try.func24, Try.ntmps24
  go_wp2_with (go_at_call 37; refine (none_any _ _ true _ c0).mono ?_; rintro e w' ⟨rfl, rfl⟩)
  go_ret2
  exact ⟨rfl, rfl⟩
set_option maxHeartbeats 1000000 in
theorem rtext_short {w : World} {base r : Nat} {a : Option Addr} {n cap : Nat} {x : UInt8} {t : List UInt8} (h : IsR w base r a n cap (x :: t)) (hx : t.length < x.toNat) : Calls Try.prog 24 #[.pointer (some ⟨r, 0, none⟩)] w fun e w' => e = .returned (.tuple #[.string ByteArray.empty, .int .i64 10]) ∧ w = w' := by
  have c0 := h.c0
  have c1 := h.c1
  have hs1 := h.hrd.hsmall
  have hl1 := h.hrd.hlen
  simp only [List.length_cons] at hl1
  have hn : 0 < n := by omega
  obtain ⟨b1, o1, rfl, hb1, hc1⟩ := h.hrd.hcell (by omega)
  have hn0 : ((n : Int) == 0) = false := by simp; omega
  have hn1 : (0 : Int) < n := by omega
  have cx : w.cell? ⟨b1, o1, none⟩ = some (.int .u8 (x.toNat : Int)) := hc1 0 x rfl
  have hx8 := x.toNat_lt
  have hgt : (n : Int) < 1 + (x.toNat : Int) := by omega
  clear hc1 hl1
  go_enter Try.func24, Try.ntmps24
  go_wp2_with (go_at_call 37; refine (none_any _ _ true _ c0).mono ?_; rintro e w' ⟨rfl, rfl⟩)
  go_ret2
  exact ⟨rfl, rfl⟩
set_option maxHeartbeats 1000000 in
theorem rtext_bad {w : World} {base r : Nat} {a : Option Addr} {n cap : Nat} {x : UInt8} {t rest : List UInt8} (h : IsR w base r a n cap (x :: (t ++ rest))) (hx : x.toNat = t.length) (hp : plainB t = false) : Calls Try.prog 24 #[.pointer (some ⟨r, 0, none⟩)] w fun e w' => e = .returned (.tuple #[.string ByteArray.empty, .int .i64 12]) ∧ w = w' := by
  have c0 := h.c0
  have c1 := h.c1
  have f1 := h.f1
  have hs1 := h.hrd.hsmall
  have hl1 := h.hrd.hlen
  have hle := h.hrd.hle
  simp only [List.length_cons, List.length_append] at hl1
  obtain ⟨b1, o1, rfl, hb1, hc1⟩ := h.hrd.hcell (by omega)
  have hn0 : ((n : Int) == 0) = false := by simp; omega
  have hn1 : (0 : Int) < n := by omega
  have cx : w.cell? ⟨b1, o1, none⟩ = some (.int .u8 (t.length : Int)) := by have := hc1 0 x rfl; rw [hx] at this; simpa using this
  have hgt : ¬ (n : Int) < 1 + (t.length : Int) := by omega
  have ht8 : t.length ≤ 255 := by have := x.toNat_lt; omega
  have hsz : (⟨t.toArray⟩ : ByteArray).size ≤ maxLen := by
    show t.toArray.size ≤ maxLen
    unfold maxLen; simp; omega
  have HP : Hid (plainB (⟨t.toArray⟩ : ByteArray).data.toList = false) := hp
  have htn : ¬ t = [] := fun e => by rw [e] at hp; cases hp
  have hpos : 0 < t.length := by cases t with | nil => exact absurd rfl htn | cons _ _ => simp
  have hcap1 : ¬ cap = 1 := by omega
  have hcv := fun c => conv_at (w := w) (b := b1) (o := o1 + 1) t c (fun i y hy => by
      have := hc1 (i + 1) y (by rw [List.getElem?_cons_succ, List.getElem?_append_left (List.getElem?_eq_some_iff.mp hy).1]; exact hy)
      rw [Nat.add_assoc, Nat.add_comm 1 i]; exact this)
  clear hc1 hp hx hl1
  go_enter Try.func24, Try.ntmps24
  go_wp2_with (first | (go_at_call 37; refine (none_any _ _ true _ c0).mono ?_; rintro e w' ⟨rfl, rfl⟩) | (go_at_call 40; refine (plain_b _ false _ hsz HP.out).mono ?_; rintro e w' ⟨rfl, rfl⟩))
  go_ret2
  exact ⟨rfl, rfl⟩
end Go.Proofs.Ytncgdbjjlhohiab
