import Derived.Test.YtncgdbjjlhohiabRdsD
namespace Go.Proofs.Ytncgdbjjlhohiab
open Go.RowKit
set_option linter.unusedVariables false
set_option maxHeartbeats 400000 in
theorem ptext_empty {w : World} {base p : Nat} {a : Option Addr} {n cap k : Nat} {l : List UInt8} (h : IsP w base p a n cap k l) (hn : n = k) : Calls Try.prog 25 #[.pointer (some ⟨p, 0, none⟩)] w fun e w' => e = .returned (.tuple #[.string ByteArray.empty, .int .i64 10]) ∧ IsP w' base p a n cap k l ∧ w.grownBy w' (some p) := by
  have c0 := h.c0
  have c1 := h.c1
  have hs := h.hrd.hsmall
  have hlt : (n : Int) - k < 1 := by omega
  have hk : (k : Int) ≤ n := by omega
  clear hn
  go_enter Try.func25, Try.ntmps25
  go_wp2
  go_quiet (fail)
  go_wp2
  go_quiet (fail)
  go_wp2
  go_ret2
  exact ⟨rfl, (h.drew _).drew _, grown_trans (grown_drewN _ _) (grown_drewN _ _)⟩
set_option maxHeartbeats 400000 in
theorem ptext_short {w : World} {base p b1 o1 : Nat} {n cap k : Nat} {l : List UInt8} {x : UInt8} (h : IsP w base p (some ⟨b1, o1, none⟩) n cap k l) (hk : k < n) (hx : l[k]? = some x) (hgt : n - k - 1 < x.toNat) : Calls Try.prog 25 #[.pointer (some ⟨p, 0, none⟩)] w fun e w' => e = .returned (.tuple #[.string ByteArray.empty, .int .i64 10]) ∧ IsP w' base p (some ⟨b1, o1, none⟩) n cap k l ∧ w.grownBy w' (some p) := by
  have c0 := h.c0
  have c1 := h.c1
  have hs := h.hrd.hsmall
  have hx8 := x.toNat_lt
  have hlt : ¬ (n : Int) - k < 1 := by omega
  have hgt' : (n : Int) - k - 1 < (x.toNat : Int) := by omega
  obtain ⟨b', o', e', hb, hc⟩ := h.hrd.hcell (by omega)
  simp only [Option.some.injEq, Addr.mk.injEq, and_true] at e'
  obtain ⟨rfl, rfl⟩ := e'
  have cx := hc k x hx
  have hw1 : IntKind.i64.wrap ((n : Int) - k - 1) = (n : Int) - k - 1 := by rw [IntKind.wrap_i64]; omega
  have hw2 : IntKind.i64.wrap (x.toNat : Int) = (x.toNat : Int) := by rw [IntKind.wrap_i64]; omega
  clear hc hx
  go_enter Try.func25, Try.ntmps25
  go_wp2
  go_quiet (fail)
  go_wp2
  go_quiet (fail)
  go_wp2
  go_ret2
  exact ⟨rfl, (h.drew _).drew _, grown_trans (grown_drewN _ _) (grown_drewN _ _)⟩
theorem text_cut {w : World} {base p b1 o1 : Nat} {n cap k : Nat} {l t : List UInt8} (h : IsP w base p (some ⟨b1, o1, none⟩) n cap k l) (ht : (l.drop (k + 1)).take t.length = t) (hle2 : k + 1 + t.length ≤ n) :
    ∃ A C, (∀ wx, (Instr.slice 30 (.slice (some ⟨b1, o1, none⟩) n cap) (some (.int .i64 ((k : Int) + 1))) (some (.int .i64 ((k : Int) + 1 + (t.length : Int)))) none).run Try.prog wx = .ok (.slice (some A) t.length C) wx) ∧
      ∀ q, (convert 30 9 (.slice (some A) t.length C)).run Try.prog (w.drewN q) = .ok (.string ⟨t.toArray⟩) (w.drewN q) := by
  have hle := h.hrd.hle
  by_cases hc : k + 1 < cap
  · refine ⟨⟨b1, o1 + (k + 1), none⟩, cap - (k + 1), fun wx => slice_mid b1 o1 n cap (k + 1) t.length _ _ (by omega) (by omega) (by omega) hc wx, fun q => ?_⟩
    have hm := rd_mid (h.hrd.below (drewN_below (Below.refl _ _) q)) (k + 1) t.length hle2
    rw [ht] at hm
    refine conv_at (w := w.drewN q) (b := b1) (o := o1 + (k + 1)) t _ (fun i y hy => ?_)
    have hi := (List.getElem?_eq_some_iff.mp hy).1
    obtain ⟨b2, o2, e2, _, hc2⟩ := hm.hcell (by omega)
    simp only [Option.some.injEq, Addr.mk.injEq, and_true] at e2
    obtain ⟨rfl, rfl⟩ := e2
    exact hc2 i y hy
  · have ht0 : t.length = 0 := by omega
    have hcap : cap = k + 1 := by omega
    subst hcap
    have e := List.eq_nil_of_length_eq_zero ht0
    subst e
    exact ⟨⟨b1, o1, none⟩, 0, fun wx => slice_end ⟨b1, o1, none⟩ n (k + 1) _ _ (by omega) (by simp) wx, fun q => conv_at (w := w.drewN q) (b := b1) (o := o1) [] 0 (fun i x hx => by cases hx)⟩
set_option maxHeartbeats 400000 in
theorem ptext_bad {w : World} {base p b1 o1 : Nat} {n cap k : Nat} {l t : List UInt8} {x : UInt8} (h : IsP w base p (some ⟨b1, o1, none⟩) n cap k l) (hx : l[k]? = some x) (hxt : x.toNat = t.length) (ht : (l.drop (k + 1)).take t.length = t) (hle2 : k + 1 + t.length ≤ n) (hp : plainB t = false) : Calls Try.prog 25 #[.pointer (some ⟨p, 0, none⟩)] w fun e w' => e = .returned (.tuple #[.string ⟨([] : List UInt8).toArray⟩, .int .i64 12]) ∧ IsP w' base p (some ⟨b1, o1, none⟩) n cap (k) l ∧ w.grownBy w' (some p) := by
  have c0 := h.c0
  have c1 := h.c1
  have f1 := h.f1
  have hs := h.hrd.hsmall
  have hle := h.hrd.hle
  have hx8 := x.toNat_lt
  have ht8 : t.length ≤ 255 := by omega
  have hlt : ¬ (n : Int) - k < 1 := by omega
  have hgt' : ¬ (n : Int) - k - 1 < (t.length : Int) := by omega
  have hkn : (k : Int) < n := by omega
  obtain ⟨b', o', e', hb, hc⟩ := h.hrd.hcell (by omega)
  simp only [Option.some.injEq, Addr.mk.injEq, and_true] at e'
  obtain ⟨rfl, rfl⟩ := e'
  have cx := hc k x hx
  rw [hxt] at cx
  have hsz : (⟨t.toArray⟩ : ByteArray).size ≤ maxLen := by
    show t.toArray.size ≤ maxLen
    unfold maxLen; simp; omega
  have HP : Hid (plainB (⟨t.toArray⟩ : ByteArray).data.toList = false) := hp
  have hw1 : IntKind.i64.wrap ((n : Int) - k - 1) = (n : Int) - k - 1 := by rw [IntKind.wrap_i64]; omega
  have hw2 : IntKind.i64.wrap (t.length : Int) = (t.length : Int) := by rw [IntKind.wrap_i64]; omega
  have hw3 : IntKind.i64.wrap ((k : Int) + 1) = (k : Int) + 1 := by rw [IntKind.wrap_i64]; omega
  have hw4 : IntKind.i64.wrap ((k : Int) + 1 + (t.length : Int)) = (k : Int) + 1 + (t.length : Int) := by rw [IntKind.wrap_i64]; omega
  obtain ⟨A, C, hsl, hcv⟩ := text_cut h ht hle2
  clear hc hx hxt hx8 hp ht
  generalize t.length = T at *
  go_enter Try.func25, Try.ntmps25
  go_wp2
  go_quiet (fail)
  go_wp2
  go_quiet (fail)
  go_wp2
  go_quiet (fail)
  rename_i n1 n2 hh K0 A0
  rw [World.drewN_drewN, World.drewN_drewN]
  generalize n1 + n2 + nq = N at *
  have c0' := (h.drew N).c0
  have c1' := (h.drew N).c1
  have f1' := (h.drew N).f1
  have hcv' : ∀ q, (convert 30 9 (.slice (some A) T C)).run Try.prog ((w.drewN N).drewN q) = .ok (.string ⟨t.toArray⟩) ((w.drewN N).drewN q) := fun q => by rw [World.drewN_drewN]; exact hcv _
  go_wp2
  go_quiet (fail)
  go_wp2_with (go_at_call 41; refine (refplain_any _ false _ hsz HP.out).mono ?_; rintro e w' ⟨rfl, rfl⟩)
  go_ret2
  exact ⟨rfl, h.drew _, grown_drewN _ _⟩
set_option maxHeartbeats 400000 in
theorem ptext_made {w : World} {base p b1 o1 : Nat} {n cap k : Nat} {l t : List UInt8} {x : UInt8} (h : IsP w base p (some ⟨b1, o1, none⟩) n cap k l) (hx : l[k]? = some x) (hxt : x.toNat = t.length) (ht : (l.drop (k + 1)).take t.length = t) (hle2 : k + 1 + t.length ≤ n) (hp : plainB t = true) : Calls Try.prog 25 #[.pointer (some ⟨p, 0, none⟩)] w fun e w' => e = .returned (.tuple #[.string ⟨t.toArray⟩, .int .i64 0]) ∧ IsP w' base p (some ⟨b1, o1, none⟩) n cap (k + (1 + t.length)) l ∧ w.grownBy w' (some p) := by
  have c0 := h.c0
  have c1 := h.c1
  have f1 := h.f1
  have hs := h.hrd.hsmall
  have hle := h.hrd.hle
  have hx8 := x.toNat_lt
  have ht8 : t.length ≤ 255 := by omega
  have hlt : ¬ (n : Int) - k < 1 := by omega
  have hgt' : ¬ (n : Int) - k - 1 < (t.length : Int) := by omega
  have hkn : (k : Int) < n := by omega
  obtain ⟨b', o', e', hb, hc⟩ := h.hrd.hcell (by omega)
  simp only [Option.some.injEq, Addr.mk.injEq, and_true] at e'
  obtain ⟨rfl, rfl⟩ := e'
  have cx := hc k x hx
  rw [hxt] at cx
  have hsz : (⟨t.toArray⟩ : ByteArray).size ≤ maxLen := by
    show t.toArray.size ≤ maxLen
    unfold maxLen; simp; omega
  have HP : Hid (plainB (⟨t.toArray⟩ : ByteArray).data.toList = true) := hp
  have hw1 : IntKind.i64.wrap ((n : Int) - k - 1) = (n : Int) - k - 1 := by rw [IntKind.wrap_i64]; omega
  have hw2 : IntKind.i64.wrap (t.length : Int) = (t.length : Int) := by rw [IntKind.wrap_i64]; omega
  have hw3 : IntKind.i64.wrap ((k : Int) + 1) = (k : Int) + 1 := by rw [IntKind.wrap_i64]; omega
  have hw4 : IntKind.i64.wrap ((k : Int) + 1 + (t.length : Int)) = (k : Int) + 1 + (t.length : Int) := by rw [IntKind.wrap_i64]; omega
  obtain ⟨A, C, hsl, hcv⟩ := text_cut h ht hle2
  clear hc hx hxt hx8 hp ht
  generalize t.length = T at *
  go_enter Try.func25, Try.ntmps25
  go_wp2
  go_quiet (fail)
  go_wp2
  go_quiet (fail)
  go_wp2
  go_quiet (fail)
  rename_i n1 n2 hh K0 A0
  rw [World.drewN_drewN, World.drewN_drewN]
  generalize n1 + n2 + nq = N at *
  have c0' := (h.drew N).c0
  have c1' := (h.drew N).c1
  have f1' := (h.drew N).f1
  have hcv' : ∀ q, (convert 30 9 (.slice (some A) T C)).run Try.prog ((w.drewN N).drewN q) = .ok (.string ⟨t.toArray⟩) ((w.drewN N).drewN q) := fun q => by rw [World.drewN_drewN]; exact hcv _
  go_wp2
  go_quiet (fail)
  go_wp2_with (go_at_call 41; refine (refplain_any _ true _ hsz HP.out).mono ?_; rintro e w' ⟨rfl, rfl⟩)
  have e0 : ((k + (1 + T) : Nat) : Int) = (k : Int) + 1 + T := by omega
  have R1 := fun q => (isP_store (h.drew q) (k + (1 + T)) (by omega)).1
  have R2 := fun q => grown_trans (grown_drewN (w := w) q p) (isP_store (h.drew q) (k + (1 + T)) (by omega)).2
  simp only [e0] at R1 R2
  go_ret2
  exact ⟨rfl, R1 _, R2 _⟩
end Go.Proofs.Ytncgdbjjlhohiab
