import Derived.Test.YtpoekphebmonnabUg
namespace Go.Proofs.Ytpoekphebmonnab
open Go.RowKit Go.Shelf Go.Sort
set_option linter.unusedVariables false
set_option linter.unusedSimpArgs false

attribute [local go_sem 5000] min_two
theorem soon_bound (l : List Alm) : soonL l ≤ 18446744073709551615 := soon_ge l nvr
set_option maxHeartbeats 4000000 in
set_option maxRecDepth 100000 in
theorem soonest_any (w : World) (b g n c : Nat) (al : List Alm) (G : Nat) (h : w.ownsRow b 79 2 (.slice (some ⟨g, 0, none⟩) n c) n (flP al)) (hn : n = al.length) (hl : al.length ≤ 64) (hG : G ≤ 2147483647) (hx : AlOK G al) :
    Calls Try.prog 47 #[.slice (some ⟨g, 0, none⟩) n c] w fun e w' => e = .returned (Q (soonL al : Nat)) ∧ Below w.heap.size w w' := by
  have HI : Hid (Below w.heap.size w w) := Below.refl _ _
  have HX : Hid (∀ (k : Nat) (x : Alm), al[k]? = some x → x.1 < 18446744073709551616 ∧ x.2 < 4294967296) := fun k x hk => by
    have hm := List.mem_of_getElem? hk
    have := hx x hm
    exact ⟨by omega, by omega⟩
  have HN : Hid (n = al.length) := hn
  have HO : Hid (w.ownsRow b 79 2 (.slice (some ⟨g, 0, none⟩) n c) n (flP al)) := h
  have hn64 : n ≤ 64 := by omega
  clear h hx hG hn
  go_enter Try.func47, Try.ntmps47
  go_wp2
  go_loopw [3, 5, 8] (fun v3 _ v8 wr => ∃ k m : Nat, k ≤ n ∧ v3 = Q m ∧ v8 = I k ∧ Hid (m = soonL (al.take k) ∧ Below w.heap.size w wr)) (fun _ _ v8 _ => n - (intOf v8).toNat)
  case atStart => exact ⟨0, 18446744073709551615, by omega, rfl, rfl, rfl, HI.out⟩
  case round =>
    clear HI
    obtain ⟨k, m, hk, rfl, rfl, HJ⟩ := hrel
    by_cases hlt : k < n
    · have hltI : (k : Int) < n := by omega
      obtain ⟨x, hx⟩ : ∃ x, al[k]? = some x := ⟨_, List.getElem?_eq_getElem (by rw [← HN.out]; exact hlt)⟩
      obtain ⟨q1, q2⟩ := HX.out k x hx
      obtain ⟨c0, c1, -⟩ := row_at (own_below HO.out HJ.out.2) HN.out hx
      have HS : Hid (soonL (al.take (k + 1)) = soonA m x) := by show _ = _; rw [take_snoc hx, soon_snoc, HJ.out.1]
      have HB : Hid (Below w.heap.size w (wr.alloc (.cells #[Q x.1, U x.2] 79))) := HJ.out.2.trans ((below_alloc wr _).mono HJ.out.2.size)
      have hc : (wr.alloc (.cells #[Q x.1, U x.2] 79)).cell? ⟨wr.heap.size, 0, none⟩ = some (Q x.1) := by rw [cell_of_row _ _ _ _ _ (0, 0) (heap_alloc_new wr _)]; rfl
      have hN := snone_any _ wr.heap.size 0 x.1 hc
      clear HJ hx
      by_cases hz : x.1 = 0
      · rw [show decide (x.1 = 0) = true by simpa using hz] at hN
        have HS2 : Hid (m = soonL (al.take (k + 1))) := by show _ = _; rw [HS.out]; unfold soonA; rw [if_pos hz]
        clear HS hz
        go_wp2_with (first | (go_at_call 50; refine hN.mono ?_; rintro e w1 ⟨rfl, rfl⟩))
        go_roundw
        case rel => exact ⟨k + 1, m, by omega, rfl, by go_num, HS2.out, HB.out⟩
        case measure => simp [intOf]; omega
      · rw [show decide (x.1 = 0) = false by simpa using hz] at hN
        have HS2 : Hid (mnN m x.1 = soonL (al.take (k + 1))) := by show _ = _; rw [HS.out]; unfold soonA; rw [if_neg hz]; rfl
        clear HS hz
        go_wp2_with (first | (go_at_call 50; refine hN.mono ?_; rintro e w1 ⟨rfl, rfl⟩))
        go_roundw
        case rel => exact ⟨k + 1, mnN m x.1, by omega, rfl, by go_num, HS2.out, HB.out⟩
        case measure => simp [intOf]; omega
    · obtain rfl : k = n := by omega
      have hge : ¬ ((k : Int) < k) := by omega
      go_wp2
      go_ret
      refine ⟨?_, HJ.out.2⟩
      have := HJ.out.1
      rw [List.take_of_length_le (by rw [← HN.out]; exact Nat.le_refl _)] at this
      rw [← this]
      rfl
section
variable {w w' : World} {B G L V : Nat} {v : Value} {al : List Alm}
theorem psA_ok {G t : Nat} {x : Alm} (h : x.1 ≤ G + 1 ∧ x.2 ≤ G) : (psA t x).1 ≤ G + 1 ∧ (psA t x).2 ≤ G := by
  unfold psA
  split
  · exact h
  · split
    · exact ⟨by omega, h.2⟩
    · exact ⟨by omega, h.2⟩
theorem AlOK.ps {G : Nat} {al : List Alm} (h : AlOK G al) (t : Nat) : AlOK G (al.map (psA t)) := fun x hx => by
  obtain ⟨y, hy, rfl⟩ := List.mem_map.1 hx
  exact psA_ok (h y hy)
set_option maxHeartbeats 4000000 in
set_option maxRecDepth 100000 in
theorem Tick_any (h : Ck w B v G L V al) : Calls Try.prog 15 #[cP B] w fun e w' => ∃ u, e = .returned u ∧ w'.ownsRow w.heap.size 3 1 u (dueF 1 0 al).length (inL (dueF 1 0 al)) ∧ Ck w' B v G L (aftN G V 1) (al.map (psA 1)) ∧ Fz (Cb B v) w w' := by
  obtain ⟨c0, c1, c2, c3⟩ := h.cells
  have hb := h.b
  have hN := none_any h
  have hX := fun W => Next_any W G V (by omega) (by omega)
  have HH : Hid (Ck w B v G L V al) := h
  have hV2 := aftN_le G V 1
  generalize hVV : aftN G V 1 = V2 at *
  have fz := h.frz 2
  clear hVV
  obtain ⟨g, c, rfl⟩ := h.a
  clear h
  go_enter Try.func15, Try.ntmps15
  go_wp2_with (first | (go_at_call 33; refine hN.mono ?_; rintro e w1 ⟨rfl, rfl⟩))
  go_region_with (first | (go_at_call 38; refine (hX _).mono ?_; rintro e w3 ⟨rfl, b3⟩; have H3 : Hid (Below w.heap.size w w3) := ((Below.refl _ w).drew).trans b3; clear b3; obtain ⟨k0, k1, k2, k3⟩ := (HH.out.below H3.out).cells; have fz3 := (HH.out.below H3.out).frz 2))
  all_goals
    have K4 := (HH.out.below H3.out).setV V2 hV2
    have f4 : Fz (Cb B (.slice (some ⟨g, 0, none⟩) al.length c)) w (w3.setCell ⟨B, 2, none⟩ (U V2)) := (Fz.of_below H3.out).set (.inl (.inl rfl)) 2 (U V2)
    obtain ⟨m0, m1, m2, m3⟩ := K4.cells
    have hP := pass_any (w3.setCell ⟨B, 2, none⟩ (U V2)) 0 g al.length c al 1 G K4.p rfl K4.n (by omega) K4.x (fun x hx h0 => by omega)
    have HK : Hid (Ck (w3.setCell ⟨B, 2, none⟩ (U V2)) B (.slice (some ⟨g, 0, none⟩) al.length c) G L V2 al ∧ Fz (Cb B (.slice (some ⟨g, 0, none⟩) al.length c)) w (w3.setCell ⟨B, 2, none⟩ (U V2))) := ⟨K4, f4⟩
    clear K4 f4 hX hN c0 c1 c2 c3 fz k0 k1 k2 k3 fz3
    generalize w3.setCell ⟨B, 2, none⟩ (U V2) = w4 at *
    go_wp2_with (first | (go_at_call 39; refine hP.mono ?_; clear hP; rintro e w5 ⟨u, rfl, o5, p5, f5⟩))
    go_ret
    have hgB : B ≠ g := fun e => HK.out.1.d (by rw [e]; rfl)
    refine ⟨u, rfl, own_base o5 HK.out.2.size, ⟨f5.heap HK.out.1.o hgB, by rw [List.length_map]; exact p5, HK.out.1.d, HK.out.1.b, by rw [List.length_map]; exact HK.out.1.n, HK.out.1.x.ps 1, by rw [List.length_map]; exact HK.out.1.a⟩, HK.out.2.trans (f5.mono (by rintro b rfl; exact .inr rfl))⟩
end
end Go.Proofs.Ytpoekphebmonnab
