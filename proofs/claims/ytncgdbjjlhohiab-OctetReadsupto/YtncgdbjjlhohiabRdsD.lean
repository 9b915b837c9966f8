import Derived.Test.YtncgdbjjlhohiabRdsC
import Derived.Deep.RegionHeldLaw
namespace Go.Proofs.Ytncgdbjjlhohiab
open Go.RowKit
set_option linter.unusedVariables false
theorem slice_end (ad : Addr) (n k : Nat) (z hi : Int) (ez : z = k) (ehi : hi = (k : Int)) (wx : World) :
    (Instr.slice 30 (.slice (some ad) n k) (some (.int .i64 z)) (some (.int .i64 hi)) none).run Try.prog wx = .ok (.slice (some ad) 0 0) wx := by
  subst ez ehi
  have ht : Try.prog.underlying 30 = some (.slice (Try.prog.elem 30)) := by kernel_rfl
  have hs : ∀ w, (sizeOf (Try.prog.elem 30)).run Try.prog w = .ok 1 w := fun w => by
    obtain ⟨i0, hi, hz0, hz1, hz2⟩ := info_parts Try.info5
    have : Try.prog.elem 30 = 5 := by kernel_rfl
    rw [this]
    simp [sizeOf, typeInfo, hi, hz1]
  rw [run_slice_lh wx 30 _ n k ht .i64 .i64 (k : Int) (k : Int) (by omega) (by omega) (by omega), hs]
  have e1 : ((k : Int)).toNat = k := by omega
  simp only [Result.andThen, sliced, e1, if_true, Nat.sub_self]
set_option maxHeartbeats 300000 in
theorem pbytes_arg {w : World} {base p : Nat} {a : Option Addr} {n cap k : Nat} {l : List UInt8} (h : IsP w base p a n cap k l) (m : Int) (hm : m < 0) : Calls Try.prog 23 #[.pointer (some ⟨p, 0, none⟩), .int .i64 m] w fun e w' => e = .returned (.tuple #[.slice none 0 0, .int .i64 2]) ∧ IsP w' base p a n cap k l ∧ w.grownBy w' (some p) := by
  have hq : IsP w base p a n cap k l ∧ w.grownBy w (some p) := ⟨h, rfl, rfl, rfl, Nat.le_refl _, fun _ _ _ => rfl⟩
  go_enter Try.func23, Try.ntmps23
  go_wp2
  go_ret2
  exact ⟨rfl, hq⟩
set_option maxHeartbeats 300000 in
theorem pbytes_short {w : World} {base p : Nat} {a : Option Addr} {n cap k : Nat} {l : List UInt8} (h : IsP w base p a n cap k l) (m : Int) (h1 : 0 ≤ m) (hm : (n : Int) - k < m) : Calls Try.prog 23 #[.pointer (some ⟨p, 0, none⟩), .int .i64 m] w fun e w' => e = .returned (.tuple #[.slice none 0 0, .int .i64 10]) ∧ IsP w' base p a n cap k l ∧ w.grownBy w' (some p) := by
  have c0 := h.c0
  have c1 := h.c1
  have hk := h.hk
  have hs := h.hrd.hsmall
  go_enter Try.func23, Try.ntmps23
  go_wp2
  go_quiet (fail)
  go_wp2
  go_ret2
  exact ⟨rfl, h.drew _, grown_drewN _ _⟩
set_option maxHeartbeats 300000 in
theorem pbytes_made {w : World} {base p b1 o1 : Nat} {n cap k : Nat} {l : List UInt8} (h : IsP w base p (some ⟨b1, o1, none⟩) n cap k l) (m : Nat) (hm : k + m ≤ n) : Calls Try.prog 23 #[.pointer (some ⟨p, 0, none⟩), .int .i64 m] w fun e w' => ∃ a' c', e = .returned (.tuple #[.slice a' m c', .int .i64 0]) ∧ Rd w' a' m c' ((l.drop k).take m) ∧ IsP w' base p (some ⟨b1, o1, none⟩) n cap (k + m) l ∧ w.grownBy w' (some p) := by
  have c0 := h.c0
  have c1 := h.c1
  have f1 := h.f1
  have hk := h.hk
  have hs := h.hrd.hsmall
  have hle := h.hrd.hle
  have hnm : ¬ (n : Int) - k < m := by omega
  go_enter Try.func23, Try.ntmps23
  go_wp2
  go_quiet (fail)
  have R := isP_store (h.drew nq) (k + m) hm
  have f2 := (h.drew nq).f1
  have e0 : ((k + m : Nat) : Int) = (k : Int) + m := by omega
  rw [e0] at R
  obtain ⟨W, hW⟩ : ∃ W, (w.drewN nq).setCell ⟨p, 1, none⟩ (.int .i64 ((k : Int) + m)) = W := ⟨_, rfl⟩
  rw [hW] at R
  have d0 := R.1.c0
  have d1 := R.1.c1
  rw [e0] at d1
  have hp := R.1.plt
  have HG := (show Hid (IsP W base p (some ⟨b1, o1, none⟩) n cap (k + m) l ∧ w.grownBy W (some p)) from ⟨R.1, grown_two (drewN_below (Below.refl _ _) nq) R.2⟩)
  have hwk : IntKind.i64.wrap (k : Int) = k := by rw [IntKind.wrap_i64]; omega
  by_cases hck : k < cap
  · have hrm := rd_mid R.1.hrd k m hm
    have hsl := fun wx => slice_mid b1 o1 n cap k m (k : Int) ((k : Int) + m) rfl rfl (by omega) hck wx
    clear R e0
    go_wp2
    clear hW c0 c1 f1 f2
    go_region_held_law (fun w' => w'.cell? ⟨p, 0, none⟩ = some (.slice (some ⟨b1, o1, none⟩) n cap) ∧ w'.cell? ⟨p, 1, none⟩ = some (.int .i64 ((k : Int) + m))) (go_keep) ((go_at_call 17; refine (copy_any _ _ _ _ _ (hrm.below (drewN_below (Below.refl _ _) 1))).mono ?_; rintro e w3 ⟨rfl, ho3, hb3⟩; have k0 : w3.cell? ⟨p, 0, none⟩ = some (.slice (some ⟨b1, o1, none⟩) n cap) := (hb3.cell (p := ⟨p, 0, none⟩) hp).trans d0; have k1 : w3.cell? ⟨p, 1, none⟩ = some (.int .i64 ((k : Int) + m)) := (hb3.cell (p := ⟨p, 1, none⟩) hp).trans d1))
    all_goals
      have hb4 : Below W.heap.size W w3 := (drewN_below (Below.refl _ _) 1).trans hb3
      have hr3 := rd_of_owns ho3 (by omega)
      have HF : Hid (IsP w3 base p (some ⟨b1, o1, none⟩) n cap (k + m) l ∧ w.grownBy w3 (some p)) := ⟨HG.out.1.below hb4, grown_trans HG.out.2 ⟨hb4.os, hb4.tape, hb4.output, hb4.size, fun j hj _ => hb4.block j hj⟩⟩
      clear ho3 hb3 hb4 k0 k1
      go_wp2
      go_ret2
      exact ⟨_, _, rfl, hr3, HF.out.1, HF.out.2⟩
  · have hkn : k = cap := by omega
    have hm0 : m = 0 := by omega
    subst hkn
    have HM0 : Hid (m = 0) := hm0
    have hrm : Rd W (some ⟨b1, o1, none⟩) 0 0 ((l.drop k).take m) := ⟨by rw [hm0]; simp, Nat.le_refl _, by omega, (fun e => by cases e), fun e => by omega⟩
    have hsl := fun wx => slice_end ⟨b1, o1, none⟩ n k (k : Int) ((k : Int) + m) rfl (by omega) wx
    clear R e0 hm0
    go_wp2
    clear hW c0 c1 f1 f2
    go_region_held_law (fun w' => w'.cell? ⟨p, 0, none⟩ = some (.slice (some ⟨b1, o1, none⟩) n k) ∧ w'.cell? ⟨p, 1, none⟩ = some (.int .i64 ((k : Int) + m))) (go_keep) ((go_at_call 17; refine (copy_any _ _ _ _ _ (hrm.below (drewN_below (Below.refl _ _) 1))).mono ?_; rintro e w3 ⟨rfl, ho3, hb3⟩; have k0 : w3.cell? ⟨p, 0, none⟩ = some (.slice (some ⟨b1, o1, none⟩) n k) := (hb3.cell (p := ⟨p, 0, none⟩) hp).trans d0; have k1 : w3.cell? ⟨p, 1, none⟩ = some (.int .i64 ((k : Int) + m)) := (hb3.cell (p := ⟨p, 1, none⟩) hp).trans d1))
    all_goals
      have hb4 : Below W.heap.size W w3 := (drewN_below (Below.refl _ _) 1).trans hb3
      have hr3 := rd_of_owns ho3 (by omega)
      have HF : Hid (IsP w3 base p (some ⟨b1, o1, none⟩) n k (k + m) l ∧ w.grownBy w3 (some p)) := ⟨HG.out.1.below hb4, grown_trans HG.out.2 ⟨hb4.os, hb4.tape, hb4.output, hb4.size, fun j hj _ => hb4.block j hj⟩⟩
      clear ho3 hb3 hb4 k0 k1
      go_wp2
      go_ret2
      refine ⟨some ⟨W.heap.size, 0, none⟩, 0, ?_, ?_, HF.out.1, HF.out.2⟩
      · rw [HM0.out]; rfl
      · rw [HM0.out] at hr3 ⊢; exact hr3
end Go.Proofs.Ytncgdbjjlhohiab
