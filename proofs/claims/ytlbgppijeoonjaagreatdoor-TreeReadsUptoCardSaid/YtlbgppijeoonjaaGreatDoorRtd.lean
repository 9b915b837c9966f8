import Derived.Test.YtlbgppijeoonjaaGreatDoorRtX
namespace Go.Proofs.YtlbgppijeoonjaaGreatDoor
open Go.RowKit
set_option linter.unusedVariables false


set_option maxHeartbeats 4000000 in
set_option maxRecDepth 100000 in
theorem rSpell_any (x : Tz) (o l c : Int) (w : World) (hx : TzOk x) :
    Calls Tryz.prog 19 #[tzV x o l c] w fun e w' => e = .returned (spV2 x) ∧ Below w.heap.size w w' := by
  obtain ⟨a, ha⟩ : ∃ a, spV2 x = a := ⟨_, rfl⟩
  rw [ha]
  have HX : Hid (spV2 x = a) := ha
  clear ha
  obtain ⟨kind, text, val, hex⟩ := x
  have hv : val < 4294967296 := hx.1
  have ht : text.length < 4611686018427387904 := hx.2
  have hts : (⟨text.toArray⟩ : ByteArray).size < 4611686018427387904 := by show text.toArray.size < _; rw [List.size_toArray]; omega
  have htl : (⟨text.toArray⟩ : ByteArray).data.toList = text := by simp
  clear hx
  have cn := rname_any ⟨text.toArray⟩
  have cs := rstring_any ⟨text.toArray⟩
  have cd := rdec_any val hv
  have ch := rhex_any val hv
  rw [htl] at cn cs
  unfold tzV tzC
  simp only
  by_cases k2 : kind = 2
  · subst k2
    clear cn cs
    by_cases h0 : text = []
    · subst h0
      by_cases hv0 : val = 0
      · subst hv0
        cases hex with
        | true =>
          have HY : Hid (spV2 ⟨2, [], 0, true⟩ = .tuple #[.string ⟨(48 :: 120 :: hexU 0).toArray⟩, .int .i64 0]) := by show spV2 _ = _; unfold spV2; rw [spz_num]; rfl
          have cc : ∀ w, Calls Tryz.prog 41 #[.int .u32 0] w fun e w' => e = .returned (.string ⟨(48 :: 120 :: hexU 0).toArray⟩) ∧ Below w.heap.size w w' := ch
          generalize (⟨(48 :: 120 :: hexU 0).toArray⟩ : ByteArray) = res at *
          clear cd ch hv
          go_enter Tryz.func19, Tryz.ntmps19
          go_wp2_with (first | (go_at_call 41; refine (cc _).mono ?_; rintro e w1 ⟨rfl, hb1⟩))
          go_ret2
          exact ⟨by rw [← HX.out, HY.out]; rfl, ((Below.refl w.heap.size w).alloc (Nat.le_refl _) _).trans (hb1.mono (by simp))⟩
        | false =>
          have HY : Hid (spV2 ⟨2, [], 0, false⟩ = .tuple #[.string ⟨(Lib.decDigits 0).toArray⟩, .int .i64 0]) := by show spV2 _ = _; unfold spV2; rw [spz_num]; rfl
          have cc : ∀ w, Calls Tryz.prog 42 #[.int .u32 0] w fun e w' => e = .returned (.string ⟨(Lib.decDigits 0).toArray⟩) ∧ Below w.heap.size w w' := cd
          generalize (⟨(Lib.decDigits 0).toArray⟩ : ByteArray) = res at *
          clear cd ch hv
          go_enter Tryz.func19, Tryz.ntmps19
          go_wp2_with (first | (go_at_call 42; refine (cc _).mono ?_; rintro e w1 ⟨rfl, hb1⟩))
          go_ret2
          exact ⟨by rw [← HX.out, HY.out]; rfl, ((Below.refl w.heap.size w).alloc (Nat.le_refl _) _).trans (hb1.mono (by simp))⟩
      · have hv0' : ((val : Int) == 0) = false := by rw [beq_eq_false_iff_ne]; omega
        cases hex with
        | true =>
          have HY : Hid (spV2 ⟨2, [], val, true⟩ = .tuple #[.string ⟨(48 :: 120 :: hexU val).toArray⟩, .int .i64 0]) := by show spV2 _ = _; unfold spV2; rw [spz_num]; rfl
          have cc : ∀ w, Calls Tryz.prog 41 #[.int .u32 (val : Int)] w fun e w' => e = .returned (.string ⟨(48 :: 120 :: hexU val).toArray⟩) ∧ Below w.heap.size w w' := ch
          generalize (⟨(48 :: 120 :: hexU val).toArray⟩ : ByteArray) = res at *
          clear cd ch hv
          go_enter Tryz.func19, Tryz.ntmps19
          go_wp2_with (first | (go_at_call 41; refine (cc _).mono ?_; rintro e w1 ⟨rfl, hb1⟩))
          go_ret2
          exact ⟨by rw [← HX.out, HY.out]; rfl, ((Below.refl w.heap.size w).alloc (Nat.le_refl _) _).trans (hb1.mono (by simp))⟩
        | false =>
          have HY : Hid (spV2 ⟨2, [], val, false⟩ = .tuple #[.string ⟨(Lib.decDigits val).toArray⟩, .int .i64 0]) := by show spV2 _ = _; unfold spV2; rw [spz_num]; rfl
          have cc : ∀ w, Calls Tryz.prog 42 #[.int .u32 (val : Int)] w fun e w' => e = .returned (.string ⟨(Lib.decDigits val).toArray⟩) ∧ Below w.heap.size w w' := cd
          generalize (⟨(Lib.decDigits val).toArray⟩ : ByteArray) = res at *
          clear cd ch hv
          go_enter Tryz.func19, Tryz.ntmps19
          go_wp2_with (first | (go_at_call 42; refine (cc _).mono ?_; rintro e w1 ⟨rfl, hb1⟩))
          go_ret2
          exact ⟨by rw [← HX.out, HY.out]; rfl, ((Below.refl w.heap.size w).alloc (Nat.le_refl _) _).trans (hb1.mono (by simp))⟩
    · have hte : text.isEmpty = false := by cases text with | nil => exact absurd rfl h0 | cons x y => rfl
      have HY : Hid (spV2 ⟨2, text, val, hex⟩ = .tuple #[.string ⟨#[]⟩, .int .i64 20]) := by show spV2 _ = _; unfold spV2; simp [spz, h0]
      clear h0 cd ch
      by_cases hv0 : val = 0
      · subst hv0
        cases hex with
        | true =>
          go_enter Tryz.func19, Tryz.ntmps19
          go_wp2
          go_ret2
          exact ⟨by rw [← HX.out, HY.out]; rfl, (Below.refl _ _).alloc (Nat.le_refl _) _⟩
        | false =>
          go_enter Tryz.func19, Tryz.ntmps19
          go_wp2
          go_ret2
          exact ⟨by rw [← HX.out, HY.out]; rfl, (Below.refl _ _).alloc (Nat.le_refl _) _⟩
      · have hv0' : ((val : Int) == 0) = false := by rw [beq_eq_false_iff_ne]; omega
        go_enter Tryz.func19, Tryz.ntmps19
        go_wp2
        go_ret2
        exact ⟨by rw [← HX.out, HY.out]; rfl, (Below.refl _ _).alloc (Nat.le_refl _) _⟩
  · have k2' : (kind == 2) = false := by rw [beq_eq_false_iff_ne]; exact k2
    by_cases hp : val = 0 ∧ hex = false
    · obtain ⟨rfl, rfl⟩ := hp
      by_cases k1 : kind = 1
      · subst k1
        cases hn : nameL text with
        | true =>
          have HY : Hid (spV2 ⟨1, text, 0, false⟩ = .tuple #[.string ⟨text.toArray⟩, .int .i64 0]) := by show spV2 _ = _; unfold spV2; rw [spz_name hn]
          rw [hn] at cn
          clear hn
          go_enter Tryz.func19, Tryz.ntmps19
          go_wp2_with (first | (go_at_call 40; refine (cn _ hts).mono ?_; rintro e w1 ⟨rfl, rfl⟩))
          go_ret2
          exact ⟨by rw [← HX.out, HY.out]; rfl, (Below.refl _ _).alloc (Nat.le_refl _) _⟩
        | false =>
          have HY : Hid (spV2 ⟨1, text, 0, false⟩ = .tuple #[.string ⟨#[]⟩, .int .i64 20]) := by show spV2 _ = _; unfold spV2; simp [spz, plainZ, hn]
          rw [hn] at cn
          clear hn
          go_enter Tryz.func19, Tryz.ntmps19
          go_wp2_with (first | (go_at_call 40; refine (cn _ hts).mono ?_; rintro e w1 ⟨rfl, rfl⟩))
          go_ret2
          exact ⟨by rw [← HX.out, HY.out]; rfl, (Below.refl _ _).alloc (Nat.le_refl _) _⟩
      · have k1' : (kind == 1) = false := by rw [beq_eq_false_iff_ne]; exact k1
        by_cases k3 : kind = 3
        · subst k3
          cases hn : strL text with
          | true =>
            have HY : Hid (spV2 ⟨3, text, 0, false⟩ = .tuple #[.string ⟨(34 :: (escL text ++ [34])).toArray⟩, .int .i64 0]) := by show spV2 _ = _; unfold spV2; rw [spz_str hn]
            rw [hn] at cs
            have hl : text.length ≤ 255 := by
              unfold strL at hn
              simp only [Bool.and_eq_true, decide_eq_true_eq] at hn
              exact hn.1
            have cq := fun w => rquote_any ⟨text.toArray⟩ w (by show text.toArray.size ≤ _; rw [List.size_toArray]; exact hl)
            rw [htl] at cq
            generalize (⟨(34 :: (escL text ++ [34])).toArray⟩ : ByteArray) = res at *
            clear hn hl
            go_enter Tryz.func19, Tryz.ntmps19
            go_wp2_with (first | (go_at_call 43; refine (cs _ hts).mono ?_; rintro e w1 ⟨rfl, rfl⟩) | (go_at_call 44; refine (cq _).mono ?_; rintro e w1 ⟨rfl, rfl⟩))
            go_ret2
            exact ⟨by rw [← HX.out, HY.out]; rfl, (Below.refl _ _).alloc (Nat.le_refl _) _⟩
          | false =>
            have HY : Hid (spV2 ⟨3, text, 0, false⟩ = .tuple #[.string ⟨#[]⟩, .int .i64 20]) := by show spV2 _ = _; unfold spV2; simp [spz, plainZ, hn]
            rw [hn] at cs
            clear hn
            go_enter Tryz.func19, Tryz.ntmps19
            go_wp2_with (first | (go_at_call 43; refine (cs _ hts).mono ?_; rintro e w1 ⟨rfl, rfl⟩))
            go_ret2
            exact ⟨by rw [← HX.out, HY.out]; rfl, (Below.refl _ _).alloc (Nat.le_refl _) _⟩
        · have k3' : (kind == 3) = false := by rw [beq_eq_false_iff_ne]; exact k3
          clear cn cs cd ch
          by_cases h0 : text = []
          · subst h0
            by_cases k0 : kind = 0
            · subst k0
              have HY : Hid (spV2 ⟨0, [], 0, false⟩ = .tuple #[.string ⟨#[]⟩, .int .i64 0]) := rfl
              go_enter Tryz.func19, Tryz.ntmps19
              go_wp2
              go_ret2
              exact ⟨by rw [← HX.out, HY.out]; rfl, (Below.refl _ _).alloc (Nat.le_refl _) _⟩
            · have k0' : (kind == 0) = false := by rw [beq_eq_false_iff_ne]; exact k0
              by_cases km : 4 ≤ kind ∧ kind ≤ 8
              · have k5 : kind = 4 ∨ kind = 5 ∨ kind = 6 ∨ kind = 7 ∨ kind = 8 := by omega
                clear km k0 k1 k2 k3 k0' k1' k2' k3'
                rcases k5 with rfl | rfl | rfl | rfl | rfl
                all_goals
                  go_enter Tryz.func19, Tryz.ntmps19
                  go_wp2
                  go_ret2
                  exact ⟨by rw [← HX.out]; rfl, (Below.refl _ _).alloc (Nat.le_refl _) _⟩
              · have HY : Hid (spV2 ⟨kind, [], 0, false⟩ = .tuple #[.string ⟨#[]⟩, .int .i64 20]) := by show spV2 _ = _; unfold spV2; simp [spz, k0, k1, k2, k3, km]
                by_cases k4 : 4 ≤ kind
                · have k8 : ¬ kind ≤ 8 := fun h => km ⟨k4, h⟩
                  clear km k0 k1 k2 k3
                  go_enter Tryz.func19, Tryz.ntmps19
                  go_wp2
                  go_ret2
                  exact ⟨by rw [← HX.out, HY.out]; rfl, (Below.refl _ _).alloc (Nat.le_refl _) _⟩
                · clear km k0 k1 k2 k3
                  go_enter Tryz.func19, Tryz.ntmps19
                  go_wp2
                  go_ret2
                  exact ⟨by rw [← HX.out, HY.out]; rfl, (Below.refl _ _).alloc (Nat.le_refl _) _⟩
          · have hte : text.isEmpty = false := by cases text with | nil => exact absurd rfl h0 | cons x y => rfl
            have HY : Hid (spV2 ⟨kind, text, 0, false⟩ = .tuple #[.string ⟨#[]⟩, .int .i64 20]) := by show spV2 _ = _; unfold spV2; simp [spz, h0, k1, k2, k3]
            clear h0 k1 k2 k3
            go_enter Tryz.func19, Tryz.ntmps19
            go_wp2
            all_goals
              go_ret2
              exact ⟨by rw [← HX.out, HY.out]; rfl, (Below.refl _ _).alloc (Nat.le_refl _) _⟩
    · have HY : Hid (spV2 ⟨kind, text, val, hex⟩ = .tuple #[.string ⟨#[]⟩, .int .i64 20]) := by
        have : plainZ ⟨kind, text, val, hex⟩ = false := by
          cases h : plainZ ⟨kind, text, val, hex⟩ with
          | false => rfl
          | true => exact absurd (plain_iff h) hp
        show spV2 _ = _
        unfold spV2
        simp [spz, this, k2]
      clear cn cs cd ch k2
      by_cases hv0 : val = 0
      · subst hv0
        have hh : hex = true := by cases hex with | true => rfl | false => exact absurd ⟨rfl, rfl⟩ hp
        subst hh
        clear hp
        go_enter Tryz.func19, Tryz.ntmps19
        go_wp2
        all_goals
          go_ret2
          exact ⟨by rw [← HX.out, HY.out]; rfl, (Below.refl _ _).alloc (Nat.le_refl _) _⟩
      · have hv0' : ((val : Int) == 0) = false := by rw [beq_eq_false_iff_ne]; omega
        clear hp hv0
        go_enter Tryz.func19, Tryz.ntmps19
        go_wp2
        all_goals
          go_ret2
          exact ⟨by rw [← HX.out, HY.out]; rfl, (Below.refl _ _).alloc (Nat.le_refl _) _⟩
end Go.Proofs.YtlbgppijeoonjaaGreatDoor
