import Derived.Test.YtiggbnkmggbpiaaGreatDoorAlv
namespace Go.Proofs.YtiggbnkmggbpiaaGreatDoor
open Go.RowKit
set_option linter.unusedVariables false

theorem inN_nat (s : ByteArray) (a : Nat) (h : a ≤ s.size) : inN s (a : Int) = a := by
  unfold inN
  rw [if_neg (by omega), if_neg (by omega)]
  rfl
theorem num_any (z : Int) (w : World) : Calls Tryz.prog 11 #[.int .i64 z] w fun e w' => e = .returned (.int .i64 z) ∧ w = w' := by
  go_enter Tryz.func11, Tryz.ntmps11
  go_wp2
  go_ret
  exact ⟨rfl, rfl⟩
/-- The cells of a fault. -/
def FltC (w : World) (b : Nat) (c a ln cl : Int) : Prop := w.cell? ⟨b, 0, none⟩ = some (.int .i64 c) ∧ w.cell? ⟨b, 1, none⟩ = some (.int .i64 a) ∧ w.cell? ⟨b, 2, none⟩ = some (.int .i64 ln) ∧ w.cell? ⟨b, 3, none⟩ = some (.int .i64 cl) ∧ w.cell? ⟨b, 4, none⟩ = some (.string ⟨#[]⟩)
theorem flt_of {w : World} {b : Nat} {c a ln cl : Int} (h : w.heap[b]? = some (.cells #[.int .i64 c, .int .i64 a, .int .i64 ln, .int .i64 cl, .string ⟨#[]⟩] 27 (0, 0))) : FltC w b c a ln cl := by
  have f1 := fun i => cell_of_row w b i _ _ (0, 0) h
  exact ⟨f1 0, f1 1, f1 2, f1 3, f1 4⟩
theorem flt_keep {w w' : World} {b : Nat} {c a ln cl : Int} (n : Nat) (h : w.heap[b]? = some (.cells #[.int .i64 c, .int .i64 a, .int .i64 ln, .int .i64 cl, .string ⟨#[]⟩] 27 (0, 0))) (hb : Below (w.drewN n).heap.size (w.drewN n) w') :
    w'.heap[b]? = some (.cells #[.int .i64 c, .int .i64 a, .int .i64 ln, .int .i64 cl, .string ⟨#[]⟩] 27 (0, 0)) := by
  have e : (w.drewN n).heap = w.heap := World.heap_drewN ..
  have := hb.block b (by rw [e]; exact heap_lt h)
  rw [e] at this
  exact this.trans h
set_option maxHeartbeats 4000000 in
set_option maxRecDepth 100000 in
theorem order_bad (B0 : Nat) (p : Nat → Addr) (s : ByteArray) (w : World) (hE : Env B0 p w) (hF : EnvF B0 p w) (hT : EnvT w) (hs : s.size < 4611686018427387904) (c a : Nat) (hx : scanA s.data.toList = .inr (c, a)) :
    Calls Tryz.prog 3 #[.string s] w fun e w' => e = .returned (.bool true) ∧ Below w.heap.size w w' := by
  have c1 := Scan_any B0 p s w hE hF hs
  rw [hx] at c1
  obtain ⟨h1, h2, h3, h4⟩ := scanA_bad hx
  rw [len_all] at h3 h4
  have H5 : Hid (¬ s.size ≤ 262144 → c = 24 ∧ a = 0) := fun hb => by
    unfold scanA at hx
    rw [if_pos (by rw [len_all]; omega)] at hx
    cases hx
    exact ⟨rfl, rfl⟩
  have cal : ∀ W, Below w.heap.size w W → Calls Tryz.prog 12 #[] W fun e w' => e = .returned (.bool true) ∧ Below W.heap.size W w' := fun W hb => alive_any B0 p W (hE.below (hb.mono hE.size)) (hF.below hE (hb.mono hE.size)) (hT.below hb)
  go_enter Tryz.func3, Tryz.ntmps3
  go_wp2_with fail
  refine c1.mono ?_
  rintro e w1 ⟨rfl, hb1⟩
  have hc0 : ((c : Int) == 0) = false := by rw [beq_eq_false_iff_ne]; omega
  have ha : ¬ s.size < a := by omega
  have ha' : ¬ (s.size : Int) < a := by omega
  have ca := fun w => at_any s (a : Int) w hs
  rw [inN_nat s a h3] at ca
  unfold spV at ca
  obtain ⟨ln, hln⟩ : ∃ ln, ln = lineN s.data.toList a := ⟨_, rfl⟩
  obtain ⟨cl, hcl⟩ : ∃ cl, cl = colN s.data.toList a := ⟨_, rfl⟩
  rw [← hln, ← hcl] at ca ⊢
  have hva : (w1.alloc (.cells #[.int .i64 (c : Int), .int .i64 (a : Int), .int .i64 (ln : Int), .int .i64 (cl : Int), .string ⟨#[]⟩] 27)).heap[w1.heap.size]? = some (.cells #[.int .i64 (c : Int), .int .i64 (a : Int), .int .i64 (ln : Int), .int .i64 (cl : Int), .string ⟨#[]⟩] 27 (0, 0)) := push_at w1.heap _
  have hba := hb1.alloc hb1.size (.cells #[.int .i64 (c : Int), .int .i64 (a : Int), .int .i64 (ln : Int), .int .i64 (cl : Int), .string ⟨#[]⟩] 27)
  clear c1 hln hcl hx
  go_wp2_with fail
  generalize (w1.alloc (.cells #[.int .i64 (c : Int), .int .i64 (a : Int), .int .i64 (ln : Int), .int .i64 (cl : Int), .string ⟨#[]⟩] 27)) = wa at *
  have f1 := fun i => cell_of_row wa w1.heap.size i _ _ (0, 0) hva
  have f10 := f1 0; have f11 := f1 1; have f12 := f1 2; have f13 := f1 3; have f14 := f1 4
  simp at f10 f11 f12 f13 f14
  clear f1
  by_cases hbig : s.size ≤ 262144
  · have hbig' : (s.size : Int) ≤ 262144 := by omega
    have hca := ca (wa.drewN 1)
    go_region_held_law (fun w' => w'.cell? ⟨w1.heap.size, 0, none⟩ = some (.int .i64 (c : Int)) ∧ w'.cell? ⟨w1.heap.size, 1, none⟩ = some (.int .i64 (a : Int)) ∧ w'.cell? ⟨w1.heap.size, 2, none⟩ = some (.int .i64 (ln : Int)) ∧ w'.cell? ⟨w1.heap.size, 3, none⟩ = some (.int .i64 (cl : Int)) ∧ w'.cell? ⟨w1.heap.size, 4, none⟩ = some (.string ⟨#[]⟩))
      (first | exact flt_of hva | exact k1 | (go_keep; done))
      (first | (go_at_call 10; refine hca.mono ?_; rintro e w2 ⟨rfl, hb2⟩; have hv2 := flt_keep 1 hva hb2; have k1 : FltC w2 w1.heap.size c a ln cl := flt_of hv2))
    obtain ⟨z0, z1, z2, z3, z4⟩ := k1
    have hbw2 : Below w.heap.size w w2 := (hba.trans ((below_drewN (Below.refl _ _) 1 : Below wa.heap.size wa (wa.drewN 1)).mono hba.size)).trans (hb2.mono (by rw [World.heap_drewN]; exact hba.size))
    clear hca
    have hpl := pre_list s a h3
    have hE2 := hE.below (hbw2.mono hE.size)
    have hF2 := hF.below hE (hbw2.mono hE.size)
    have c3 := Scan_any B0 p (s.extract 0 a) w2 hE2 hF2 (by rw [hpl.2]; omega)
    rw [hpl.1] at c3
    clear ca hva hpl f10 f11 f12 f13 f14
    go_wp2_with fail
    cases hx3 : scanA (s.data.toList.take a) with
    | inl ts3 =>
      rw [hx3] at c3
      refine c3.mono ?_
      rintro e w3 ⟨v3, rfl, hO3, hb3⟩
      obtain ⟨av, cv, rfl⟩ := own_shape7 hO3
      have hbw3 := hbw2.trans (hb3.mono hbw2.size)
      unfold zero5
      clear c3 hx3 hO3
      go_wp2_with fail
      refine (cal _ (hbw3.alloc hbw3.size _)).mono ?_
      rintro e w9 ⟨rfl, hb9⟩
      have hbz := (hbw3.alloc hbw3.size (.cells #[.int .i64 0, .int .i64 0, .int .i64 0, .int .i64 0, .string ⟨#[]⟩] 27)).trans (hb9.mono (hbw3.alloc hbw3.size (.cells #[.int .i64 0, .int .i64 0, .int .i64 0, .int .i64 0, .string ⟨#[]⟩] 27)).size)
      clear hb9 cal
      go_wp2
      go_ret
      exact ⟨rfl, hbz⟩
    | inr ca3 =>
      obtain ⟨c4, a4⟩ := ca3
      have hc22 : c = 22 := by
        rcases Nat.decEq c 22 with hne | he
        · obtain ⟨ts4, h⟩ := h4 hne hbig
          rw [hx3] at h; cases h
        · exact he
      have hc4 := scanA_bad hx3
      rw [hx3] at c3
      refine c3.mono ?_
      rintro e w3 ⟨rfl, hb3⟩
      have hbw3 := hbw2.trans (hb3.mono hbw2.size)
      have hv3 := (hb3.block _ (heap_lt hv2)).trans hv2
      have hc40 : ((c4 : Int) == 0) = false := by rw [beq_eq_false_iff_ne]; omega
      have z0' : ∀ o, (w3.alloc o).cell? ⟨w1.heap.size, 0, none⟩ = some (.int .i64 (c : Int)) := fun o => by
        rw [cell_below ((Below.refl w3.heap.size w3).alloc (Nat.le_refl _) o) _ _ (heap_lt hv3)]
        exact (flt_of hv3).1
      have cn := num_any (c : Int)
      have hc22' : ((c : Int) == 22) = true := by rw [hc22]; rfl
      generalize lineN (s.data.toList.take a) a4 = ln4 at *
      generalize colN (s.data.toList.take a) a4 = cl4 at *
      clear c3 hx3 hv2 hv3 hc22 hc4 h4
      go_wp2_with (go_at_call 11; refine (cn _).mono ?_; rintro e w8 ⟨rfl, rfl⟩)
      refine (cal _ (hbw3.alloc hbw3.size _)).mono ?_
      rintro e w9 ⟨rfl, hb9⟩
      have hbz := (hbw3.alloc hbw3.size (.cells #[.int .i64 (c4 : Int), .int .i64 (a4 : Int), .int .i64 (ln4 : Int), .int .i64 (cl4 : Int), .string ⟨#[]⟩] 27)).trans (hb9.mono (hbw3.alloc hbw3.size (.cells #[.int .i64 (c4 : Int), .int .i64 (a4 : Int), .int .i64 (ln4 : Int), .int .i64 (cl4 : Int), .string ⟨#[]⟩] 27)).size)
      clear hb9 cal
      go_wp2
      go_ret
      exact ⟨rfl, hbz⟩
  · have hbig' : ¬ (s.size : Int) ≤ 262144 := by omega
    go_quiet (fail)
    have hv2 : (wa.drewN nq).heap[w1.heap.size]? = some (.cells #[.int .i64 (c : Int), .int .i64 (a : Int), .int .i64 (ln : Int), .int .i64 (cl : Int), .string ⟨#[]⟩] 27 (0, 0)) := by rw [World.heap_drewN]; exact hva
    have hbw2 : Below w.heap.size w (wa.drewN nq) := below_drewN hba _
    generalize (wa.drewN nq) = w2 at *
    obtain ⟨z0, z1, z2, z3, z4⟩ := flt_of hv2
    have hpl := pre_list s a h3
    have hE2 := hE.below (hbw2.mono hE.size)
    have hF2 := hF.below hE (hbw2.mono hE.size)
    have c3 := Scan_any B0 p (s.extract 0 a) w2 hE2 hF2 (by rw [hpl.2]; omega)
    rw [hpl.1] at c3
    clear ca hva hpl f10 f11 f12 f13 f14
    go_wp2_with fail
    cases hx3 : scanA (s.data.toList.take a) with
    | inl ts3 =>
      rw [hx3] at c3
      refine c3.mono ?_
      rintro e w3 ⟨v3, rfl, hO3, hb3⟩
      obtain ⟨av, cv, rfl⟩ := own_shape7 hO3
      have hbw3 := hbw2.trans (hb3.mono hbw2.size)
      unfold zero5
      clear c3 hx3 hO3
      go_wp2_with fail
      refine (cal _ (hbw3.alloc hbw3.size _)).mono ?_
      rintro e w9 ⟨rfl, hb9⟩
      have hbz := (hbw3.alloc hbw3.size (.cells #[.int .i64 0, .int .i64 0, .int .i64 0, .int .i64 0, .string ⟨#[]⟩] 27)).trans (hb9.mono (hbw3.alloc hbw3.size (.cells #[.int .i64 0, .int .i64 0, .int .i64 0, .int .i64 0, .string ⟨#[]⟩] 27)).size)
      clear hb9 cal
      go_wp2
      go_ret
      exact ⟨rfl, hbz⟩
    | inr ca3 =>
      exfalso
      rw [(H5.out hbig).2, List.take_zero] at hx3
      have : scanA [] = .inl [(endK, 0)] := by
        refine good_scanA (.fin (Nat.le_refl _) ?_ ?_) (by simp)
        · rw [List.drop_nil, skip_nil]
        · rw [List.drop_nil, skip_nil]; rfl
      rw [this] at hx3
      cases hx3
end Go.Proofs.YtiggbnkmggbpiaaGreatDoor
