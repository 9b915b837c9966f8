import Derived.Test.YtncgdbjjlhohiabHeads
namespace Go.Proofs.Ytncgdbjjlhohiab
open Go.RowKit
set_option linter.unusedVariables false

theorem conv_at {w : World} {b o : Nat} (l : List UInt8) (cap : Nat) (hc : ∀ i x, l[i]? = some x → w.cell? ⟨b, o + i, none⟩ = some (.int .u8 (x.toNat : Int))) : (convert 30 9 (.slice (some ⟨b, o, none⟩) l.length cap)).run Try.prog w = .ok (.string ⟨l.toArray⟩) w := by
  refine run_convert_bytes_back w 30 9 5 ⟨b, o, none⟩ cap l Try.underlying30 Try.underlying5 Try.underlying9 (fun j hj => ?_)
  have := hc j l[j] (List.getElem?_eq_getElem hj)
  by_cases h0 : j = 0
  · subst h0; simpa [Addr.add] using this
  · simpa [Addr.add, h0] using this

set_option maxHeartbeats 1000000 in
theorem rtext_made {w : World} {base r : Nat} {a : Option Addr} {n cap : Nat} {x : UInt8} {t rest : List UInt8} (h : IsR w base r a n cap (x :: (t ++ rest))) (hx : x.toNat = t.length) (hp : plainB t = true) : Calls Try.prog 24 #[.pointer (some ⟨r, 0, none⟩)] w fun e w' => e = .returned (.tuple #[.string ⟨t.toArray⟩, .int .i64 0]) ∧ Rdr w' base r rest ∧ w.grownBy w' (some r) := by
  have c0 := h.c0
  have c1 := h.c1
  have f1 := h.f1
  have hs1 := h.hrd.hsmall
  have hl1 := h.hrd.hlen
  have hle := h.hrd.hle
  simp only [List.length_cons, List.length_append] at hl1
  obtain ⟨b1, o1, rfl, hb1, hc1⟩ := h.hrd.hcell (by omega)
  have hbr := h.hlt b1 o1 rfl (by omega)
  have hn0 : ((n : Int) == 0) = false := by simp; omega
  have hn1 : (0 : Int) < n := by omega
  have cx : w.cell? ⟨b1, o1, none⟩ = some (.int .u8 (t.length : Int)) := by have := hc1 0 x rfl; rw [hx] at this; simpa using this
  have hgt : ¬ (n : Int) < 1 + (t.length : Int) := by omega
  have hdrop : (x :: (t ++ rest)).drop (1 + t.length) = rest := by
    rw [Nat.add_comm, List.drop_succ_cons, List.drop_left]
  have HD := (show Hid (_ ∧ _) from rd_drop h.hrd (1 + t.length) (by omega))
  have ht8 : t.length ≤ 255 := by have := x.toNat_lt; omega
  have hsz : (⟨t.toArray⟩ : ByteArray).size ≤ maxLen := by
    show t.toArray.size ≤ maxLen
    unfold maxLen; simp; omega
  have HP : Hid (plainB (⟨t.toArray⟩ : ByteArray).data.toList = true) := hp
  by_cases hcap1 : cap = 1
  · have ht0 : t = [] := List.eq_nil_of_length_eq_zero (by omega)
    subst ht0
    have hcv := fun c => conv_at (w := w) (b := b1) (o := o1) [] c (fun i x hx => by cases hx)
    have R := isR_store h _ _ _ _ (HD.out.1 (by simpa using hcap1)) (fun b off e hp => by simp at hp; omega)
    rw [hdrop] at R
    have HR := (show Hid (_ ∧ _) from R)
    simp only [List.length_nil] at *
    clear R hc1 hp hdrop HD hx
    go_enter Try.func24, Try.ntmps24
    go_wp2_with (first | (go_at_call 37; refine (none_any _ _ true _ c0).mono ?_; rintro e w' ⟨rfl, rfl⟩) | (go_at_call 40; refine (plain_b _ true _ hsz HP.out).mono ?_; rintro e w' ⟨rfl, rfl⟩))
    go_ret2
    exact ⟨rfl, HR.out.1.rdr, HR.out.2⟩
  · have hcv := fun c => conv_at (w := w) (b := b1) (o := o1 + 1) t c (fun i y hy => by
      have := hc1 (i + 1) y (by rw [List.getElem?_cons_succ, List.getElem?_append_left (List.getElem?_eq_some_iff.mp hy).1]; exact hy)
      rw [Nat.add_assoc, Nat.add_comm 1 i]; exact this)
    by_cases hcm : cap = 1 + t.length
    · have htn : ¬ t = [] := by intro e; rw [e] at hcm; simp at hcm; omega
      have R := isR_store h _ _ _ _ (HD.out.1 hcm) (fun b off e hp => by omega)
      rw [hdrop] at R
      have HR := (show Hid (_ ∧ _) from R)
      clear R hc1 hp hdrop HD hx
      go_enter Try.func24, Try.ntmps24
      go_wp2_with (first | (go_at_call 37; refine (none_any _ _ true _ c0).mono ?_; rintro e w' ⟨rfl, rfl⟩) | (go_at_call 40; refine (plain_b _ true _ hsz HP.out).mono ?_; rintro e w' ⟨rfl, rfl⟩))
      go_ret2
      exact ⟨rfl, HR.out.1.rdr, HR.out.2⟩
    · have R := isR_store h _ _ _ _ (HD.out.2 hcm) (fun b off e hp => by simp only [Option.some.injEq, Addr.mk.injEq] at e; omega)
      rw [hdrop] at R
      have HR := (show Hid (_ ∧ _) from R)
      clear R hc1 hp hdrop HD hx
      go_enter Try.func24, Try.ntmps24
      go_wp2_with (first | (go_at_call 37; refine (none_any _ _ true _ c0).mono ?_; rintro e w' ⟨rfl, rfl⟩) | (go_at_call 40; refine (plain_b _ true _ hsz HP.out).mono ?_; rintro e w' ⟨rfl, rfl⟩))
      go_ret2
      exact ⟨rfl, HR.out.1.rdr, HR.out.2⟩
end Go.Proofs.Ytncgdbjjlhohiab
