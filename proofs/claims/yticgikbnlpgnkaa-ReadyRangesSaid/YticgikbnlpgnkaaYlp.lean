import Derived.Test.YticgikbnlpgnkaaYca
namespace Go.Proofs.Yticgikbnlpgnkaa
open Go.RowKit Go.ChangeShapes Go.WideShapes
set_option linter.unusedVariables false
set_option linter.unusedSimpArgs false

/-! ### ReadyPlays -/
def clP (x : Int × Int × Int) (i : Nat) (u : Value) : Prop := (i = 0 → u = I x.1) ∧ (i = 1 → u = I x.2.1) ∧ (i = 2 → u = I x.2.2)
theorem p_call : Try.prog.cellsOf 33 = 3 := by kernel_rfl
theorem list3 {α : Type} {l : List α} (h : l.length = 3) : ∃ c0 c1 c2, l = [c0, c1, c2] := by
  match l, h with
  | [c0, c1, c2], _ => exact ⟨c0, c1, c2, rfl⟩
theorem one_call {H : Type} {enc : TypeId × Value → H} {w : World} {spare : Nat → Bool} {held : Bool} (n : Nat) (cs : List Value) (z : DataW H × List MemPlace) (hl : cs.length = 3) (h : DataW.trod enc Try.prog w 0 spare held n 33 cs = some z) : ∃ x : Int × Int × Int, ∀ i, i < 3 → ∃ u, cs[i]? = some u ∧ clP x i u := by
  obtain ⟨c0, c1, c2, rfl⟩ := list3 hl
  obtain ⟨xs, n, hn, hx, hl, hlen, hfs⟩ := DataW.trod_struct Try.underlying33 h
  match xs, hlen with
  | [y0, y1, y2], _ =>
    have h0 := hfs 0 _ rfl
    have h1 := hfs 1 _ rfl
    have h2 := hfs 2 _ rfl
    simp [p_int] at h0 h1 h2
    obtain ⟨v0, e0, _, b0⟩ := DataW.trod_int Try.underlying3 h0
    obtain ⟨v1, e1, _, b1⟩ := DataW.trod_int Try.underlying3 h1
    obtain ⟨v2, e2, _, b2⟩ := DataW.trod_int Try.underlying3 h2
    simp at e0 e1 e2
    subst e0 e1 e2
    refine ⟨⟨v0, v1, v2⟩, fun i hi => ?_⟩
    have hi2 : i = 0 ∨ i = 1 ∨ i = 2 := by omega
    rcases hi2 with rfl | rfl | rfl
    · exact ⟨_, rfl, fun _ => rfl, (fun e => by cases e), (fun e => by cases e)⟩
    · exact ⟨_, rfl, (fun e => by cases e), fun _ => rfl, (fun e => by cases e)⟩
    · exact ⟨_, rfl, (fun e => by cases e), (fun e => by cases e), fun _ => rfl⟩
theorem RowsAt.three {w W : World} {a : Option Addr} {n c : Nat} {l : List (Int × Int × Int)} (h : RowsAt w 3 clP ⟨a, n, c⟩ l) (hb : Below w.heap.size w W) {j : Nat} {p q r : Int} (hj : l[j]? = some (p, q, r)) : ∃ g off, a = some ⟨g, off, none⟩ ∧ W.cell? ⟨g, off + j * 3, none⟩ = some (I p) ∧ W.cell? ⟨g, off + j * 3 + 1, none⟩ = some (I q) ∧ W.cell? ⟨g, off + j * 3 + 2, none⟩ = some (I r) := by
  obtain ⟨g, off, e, hg, hr⟩ := h.row j _ hj
  obtain ⟨u0, h0, k0⟩ := hr 0 (by decide)
  obtain ⟨u1, h1, k1⟩ := hr 1 (by decide)
  obtain ⟨u2, h2, k2⟩ := hr 2 (by decide)
  have e0 := k0.1 rfl
  have e1 := k1.2.1 rfl
  have e2 := k2.2.2 rfl
  subst e0 e1 e2
  exact ⟨g, off, e, (World.cell?_of_block (hb.block g hg)).trans h0, (World.cell?_of_block (hb.block g hg)).trans h1, (World.cell?_of_block (hb.block g hg)).trans h2⟩
structure PI (w wr : World) (Q D : Nat) (X Y : Nat → Prop) (rs : List Rr) : Prop where
  c : Cp wr Q D X Y rs
  b : Below w.heap.size w wr
  k : ∀ b, X b ∨ Y b → w.heap.size ≤ b
section
variable {w wr : World} {Q D : Nat} {X Y : Nat → Prop} {rs : List Rr}
theorem PI.below (h : PI w wr Q D X Y rs) {w' : World} (hb : Below wr.heap.size wr w') : PI w w' Q D X Y rs := ⟨h.c.below hb, h.b.trans (hb.mono h.b.size), h.k⟩
theorem PI.pair (h : PI w wr Q D X Y rs) {w1 w2 : World} {rs' : List Rr} (hc : Cp w2 Q D X Y rs') (hf : Fz X wr w1) (hg : Fz Y w1 w2) : PI w w2 Q D X Y rs' :=
  ⟨hc, (h.b.trans (hf.below h.b.size (fun b e => h.k b (.inl e)))).trans (hg.below (Nat.le_trans h.b.size hf.size) (fun b e => h.k b (.inr e))), h.k⟩
theorem PI.notX (h : PI w wr Q D X Y rs) : ¬ X wr.heap.size ∧ ¬ Y wr.heap.size := ⟨fun e => by have := h.c.x _ e; omega, fun e => by have := (h.c.d.yx _ e).1; omega⟩
end
set_option maxRecDepth 100000 in
set_option maxHeartbeats 16000000 in
theorem qplays_any (w : World) (s : Sl) (l : List (Int × Int)) (h : RowsAt w 2 rwP s l) (hl : l.length * 16 ≤ 140737488351232) (s2 : Sl) (cs : List (Int × Int × Int)) (h2 : RowsAt w 3 clP s2 cs) (hl2 : cs.length * 24 ≤ 140737488351232) : Calls Try.prog 7 #[.slice s.a s.n s.c, .slice s2.a s2.n s2.c] w fun e w' => e = .returned (.bool true) ∧ Below w.heap.size w w' := by
  have t1 := qmade_any w s l h hl
  clear h hl
  obtain ⟨a2, n2, c2⟩ := s2
  have hn2 := h2.n
  simp only at hn2
  subst hn2
  have HC : Hid (RowsAt w 3 clP ⟨a2, cs.length, c2⟩ cs) := h2
  clear h2
  simp only
  cases hf : fitB 64 l with
  | false =>
    have t2 := t1.mono (R' := fun e w' => e = .returned (.tuple #[.pointer none, .pointer none, .bool true]) ∧ Below w.heap.size w w') (fun e w' k => by
      obtain ⟨k1, k2 | k2⟩ := k
      · exact ⟨k2.2, k1⟩
      · rw [hf] at k2; exact absurd k2.1 (by simp))
    clear t1 hf
    go_enter Try.func7, Try.ntmps7
    go_wp2_with (first
      | (go_at_call 8; refine t2.mono ?_; clear t2; rintro e w1 ⟨rfl, b1⟩)
      | (go_at_call 9; refine (qheads_any _).mono ?_; rintro e w2 ⟨rfl, b2⟩))
    go_ret
    exact ⟨rfl, b1.trans (b2.mono b1.size)⟩
  | true =>
    have t2 := t1.mono (R' := fun e w' => ∃ Q D X Y, e = .returned (.tuple #[qP Q, dQ D, .bool true]) ∧ Hid (PI w w' Q D X Y (newR l))) (fun e w' k => by
      obtain ⟨k1, k2 | k2⟩ := k
      · rw [hf] at k2; exact absurd k2.1 (by simp)
      · obtain ⟨_, Q, D, X, Y, e1, k3, k4⟩ := k2
        exact ⟨Q, D, X, Y, e1, k3, k1, k4⟩)
    clear t1 hf
    go_enter Try.func7, Try.ntmps7
    go_wp2_with (first
      | (go_at_call 8; refine t2.mono ?_; clear t2; rintro e w1 ⟨Q, D, X, Y, rfl, HP⟩)
      | (go_at_call 9; refine (qheads_any _).mono ?_; rintro e w2 ⟨rfl, b2⟩; have HP2 : Hid (PI w w2 Q D X Y (newR l)) := HP.out.below b2; clear HP b2))
    go_loopw [5, 6, 8] (fun q p j wr => ∃ (k Q D : Nat) (X Y : Nat → Prop) (rs : List Rr), k ≤ cs.length ∧ j = .int .i64 k ∧ q = qP Q ∧ p = dQ D ∧ Hid (PI w wr Q D X Y rs)) (fun _ _ j _ => cs.length - (intOf j).toNat)
    case atStart => exact ⟨0, Q, D, X, Y, _, Nat.zero_le _, rfl, rfl, rfl, HP2.out⟩
    case round =>
      clear HP2
      obtain ⟨k, Q, D, X, Y, rs, hk, rfl, rfl, rfl, HI⟩ := hrel
      have hk0 : ¬ (k : Int) < 0 := by omega
      by_cases hlt : k < cs.length
      · obtain ⟨⟨kd, pr, id⟩, hx⟩ : ∃ x, cs[k]? = some x := ⟨_, List.getElem?_eq_getElem hlt⟩
        obtain ⟨g, off, rfl, x0, x1, x2⟩ := HC.out.three HI.out.b hx
        have hkI : (k : Int) < cs.length := by omega
        clear hx
        have hnX := HI.out.notX
        have HW : Hid (PI w (wr.alloc (.cells #[I kd, I pr, I id] 33)) Q D X Y rs) := HI.out.below (below_alloc wr _)
        have y0 : (wr.alloc (.cells #[I kd, I pr, I id] 33)).cell? ⟨wr.heap.size, 0, none⟩ = some (I kd) := by rw [cell_of_row _ _ _ _ _ (0, 0) (heap_alloc_new wr _)]; rfl
        have y1 : (wr.alloc (.cells #[I kd, I pr, I id] 33)).cell? ⟨wr.heap.size, 1, none⟩ = some (I pr) := by rw [cell_of_row _ _ _ _ _ (0, 0) (heap_alloc_new wr _)]; rfl
        have y2 : (wr.alloc (.cells #[I kd, I pr, I id] 33)).cell? ⟨wr.heap.size, 2, none⟩ = some (I id) := by rw [cell_of_row _ _ _ _ _ (0, 0) (heap_alloc_new wr _)]; rfl
        have hbx : wr.heap.size < (wr.alloc (.cells #[I kd, I pr, I id] 33)).heap.size := by simp
        have hst := run_storeCells_new (P := Try.prog) wr 33 #[.int .i64 0, .int .i64 0, .int .i64 0] #[I kd, I pr, I id] (by kernel_rfl) rfl (by simp [Value.oneCell'])
        clear HI
        by_cases e1 : kd = 1
        · subst e1
          have HW2 := HW
          obtain ⟨c, rs', tp, td⟩ := bothTail HW.out.c pr id
          clear HW
          go_wp2
          clear hst x0 x1 x2 y0
          generalize (wr.alloc (.cells #[I 1, I pr, I id] 33)) = W at *
          have t1 := tp W.drew ((Below.refl _ W).drew)
          clear tp
          go_region_held_law (fun w' => w'.cell? ⟨wr.heap.size, 1, none⟩ = some (I pr) ∧ w'.cell? ⟨wr.heap.size, 2, none⟩ = some (I id))
            (first | exact ⟨y1, y2⟩ | exact S3 | exact S1 | (go_keep; done))
            (first
              | (go_at_call 10; refine t1.mono ?_; clear t1; rintro e w1 ⟨rfl, m1, f1⟩; have S1 : w1.cell? ⟨wr.heap.size, 1, none⟩ = some (I pr) ∧ w1.cell? ⟨wr.heap.size, 2, none⟩ = some (I id) := ⟨f1.cell (a := W.drew) y1 hnX.1, f1.cell (a := W.drew) y2 hnX.1⟩; have t2 := td w1 m1; clear td m1)
              | (go_at_call 17; refine t2.mono ?_; clear t2; rintro e w3 ⟨rfl, c3, f3⟩; have S3 : w3.cell? ⟨wr.heap.size, 1, none⟩ = some (I pr) ∧ w3.cell? ⟨wr.heap.size, 2, none⟩ = some (I id) := ⟨f3.cell S1.1 hnX.2, f3.cell S1.2 hnX.2⟩))
          all_goals
            have H9 : Hid (PI w w3 Q D X Y rs') := HW2.out.pair c3 (((Fz.refl X W).drewN 1).trans f1) f3
            clear S1 S3 c3 f1 f3 y1 y2 HW2
            go_wp2
            go_roundw
            case rel => exact ⟨k + 1, Q, D, X, Y, rs', by omega, by go_num, rfl, rfl, H9.out⟩
            case measure => simp [intOf]; omega
        · skip
          by_cases e2 : kd = 2
          · subst e2
            have HW2 := HW
            obtain ⟨c, rs', tp, td⟩ := bothHead HW.out.c pr id
            clear HW
            go_wp2
            clear hst x0 x1 x2 y0
            generalize (wr.alloc (.cells #[I 2, I pr, I id] 33)) = W at *
            have t1 := tp W.drew ((Below.refl _ W).drew)
            clear tp
            go_region_held_law (fun w' => w'.cell? ⟨wr.heap.size, 1, none⟩ = some (I pr) ∧ w'.cell? ⟨wr.heap.size, 2, none⟩ = some (I id))
              (first | exact ⟨y1, y2⟩ | exact S3 | exact S1 | (go_keep; done))
              (first
                | (go_at_call 13; refine t1.mono ?_; clear t1; rintro e w1 ⟨rfl, m1, f1⟩; have S1 : w1.cell? ⟨wr.heap.size, 1, none⟩ = some (I pr) ∧ w1.cell? ⟨wr.heap.size, 2, none⟩ = some (I id) := ⟨f1.cell (a := W.drew) y1 hnX.1, f1.cell (a := W.drew) y2 hnX.1⟩; have t2 := td w1 m1; clear td m1)
                | (go_at_call 23; refine t2.mono ?_; clear t2; rintro e w3 ⟨rfl, c3, f3⟩; have S3 : w3.cell? ⟨wr.heap.size, 1, none⟩ = some (I pr) ∧ w3.cell? ⟨wr.heap.size, 2, none⟩ = some (I id) := ⟨f3.cell S1.1 hnX.2, f3.cell S1.2 hnX.2⟩))
            all_goals
              have H9 : Hid (PI w w3 Q D X Y rs') := HW2.out.pair c3 (((Fz.refl X W).drewN 1).trans f1) f3
              clear S1 S3 c3 f1 f3 y1 y2 HW2
              go_wp2
              go_roundw
              case rel => exact ⟨k + 1, Q, D, X, Y, rs', by omega, by go_num, rfl, rfl, H9.out⟩
              case measure => simp [intOf]; omega
          · skip
            by_cases e3 : kd = 3
            · subst e3
              have HW2 := HW
              obtain ⟨a, b, c, rs', tp, td, _⟩ := bothTake HW.out.c
              have t1 := tp _ (Below.refl _ _)
              clear HW tp y1 y2
              go_wp2_with (first
                | (go_at_call 12; refine t1.mono ?_; clear t1; rintro e w1 ⟨rfl, m1, f1⟩
                   have hst1 := run_storeCells_new (P := Try.prog) w1 35 #[.int .i64 0, .int .i64 0] #[I a, I b] (by kernel_rfl) rfl (by simp [Value.oneCell'])
                   have m2 := m1.below (below_alloc w1 (.cells #[I a, I b] 35))
                   have hnY : ¬ Y w1.heap.size := fun e => by have := (m1.d.yx _ e).1; omega
                   have z0 : (w1.alloc (.cells #[I a, I b] 35)).cell? ⟨w1.heap.size, 0, none⟩ = some (I a) := (by rw [cell_of_row _ _ _ _ _ (0, 0) (heap_alloc_new w1 _)]; rfl)
                   have z1 : (w1.alloc (.cells #[I a, I b] 35)).cell? ⟨w1.heap.size, 1, none⟩ = some (I b) := (by rw [cell_of_row _ _ _ _ _ (0, 0) (heap_alloc_new w1 _)]; rfl)
                   have t2 := td _ m2
                   clear td m1 m2)
                | (go_at_call 20; refine t2.mono ?_; clear t2; rintro e w3 ⟨rfl, c3, f3⟩
                   have hst3 := run_storeCells_new (P := Try.prog) w3 35 #[.int .i64 0, .int .i64 0] #[I a, I b] (by kernel_rfl) rfl (by simp [Value.oneCell'])
                   have z2 := f3.cell z0 hnY
                   have z3 := f3.cell z1 hnY
                   have hlt3 := World.block_lt_of_cell? _ _ z2
                   have z4 : ∀ o, (w3.alloc o).cell? ⟨w1.heap.size, 0, none⟩ = some (I a) := fun o => ((below_alloc w3 o).cell (p := ⟨w1.heap.size, 0, none⟩) hlt3).trans z2
                   have z5 : ∀ o, (w3.alloc o).cell? ⟨w1.heap.size, 1, none⟩ = some (I b) := fun o => ((below_alloc w3 o).cell (p := ⟨w1.heap.size, 1, none⟩) hlt3).trans z3
                   have H8 : Hid (PI w (w3.alloc (.cells #[I a, I b] 35)) Q D X Y rs') := (HW2.out.pair c3 (f1.trans (Fz.of_below (below_alloc w1 _))) f3).below (below_alloc w3 _)
                   clear hst1 c3 f1 f3 z0 z1 z2 z3 hlt3 HW2))
              go_roundw
              case rel => exact ⟨k + 1, Q, D, X, Y, rs', by omega, by go_num, rfl, rfl, H8.out⟩
              case measure => simp [intOf]; omega
            · skip
              by_cases e4 : kd = 4
              · subst e4
                have HW2 := HW
                obtain ⟨tp, td⟩ := bothClear HW.out.c
                have t1 := tp _ (Below.refl _ _)
                clear HW tp y1 y2
                go_wp2_with (first
                  | (go_at_call 24; refine t1.mono ?_; clear t1; rintro e w1 ⟨rfl, m1, f1⟩; have t2 := td _ m1; clear td m1)
                  | (go_at_call 25; refine t2.mono ?_; clear t2; rintro e w3 ⟨rfl, c3, f3⟩; have H8 : Hid (PI w w3 Q D X Y (clearR rs)) := HW2.out.pair c3 f1 f3; clear c3 f1 f3 HW2))
                go_roundw
                case rel => exact ⟨k + 1, Q, D, X, Y, _, by omega, by go_num, rfl, rfl, H8.out⟩
                case measure => simp [intOf]; omega
              · skip
                by_cases e5 : kd = 5
                · subst e5
                  have t1 := pCopy HW.out.c
                  go_wp2_with (first
                    | (go_at_call 26; refine t1.mono ?_; clear t1; rintro e w1 ⟨Q', X', rfl, q1, hx1, b1⟩; have t2 := dCopyC HW.out.c q1 hx1 b1; have HB1 : Hid (Below (wr.alloc (.cells #[I 5, I pr, I id] 33)).heap.size (wr.alloc (.cells #[I 5, I pr, I id] 33)) w1 ∧ ∀ b, X' b → (wr.alloc (.cells #[I 5, I pr, I id] 33)).heap.size ≤ b) := ⟨b1, fun b e => (hx1 b e).1⟩; clear q1 hx1 b1)
                    | (go_at_call 27; refine t2.mono ?_; clear t2; rintro e w2 ⟨D', Y', rfl, c2', hy2, b2⟩
                       obtain ⟨rs0, ho⟩ := c2'.old
                       have t3 := rClear ho
                       have v1 : w2.cell? ⟨wr.heap.size, 1, none⟩ = some (I pr) := (b2.cell (p := ⟨wr.heap.size, 1, none⟩) (Nat.lt_of_lt_of_le hbx HB1.out.1.size)).trans ((HB1.out.1.cell (p := ⟨wr.heap.size, 1, none⟩) hbx).trans y1)
                       have v2 : w2.cell? ⟨wr.heap.size, 2, none⟩ = some (I id) := (b2.cell (p := ⟨wr.heap.size, 2, none⟩) (Nat.lt_of_lt_of_le hbx HB1.out.1.size)).trans ((HB1.out.1.cell (p := ⟨wr.heap.size, 2, none⟩) hbx).trans y2)
                       have H2 : Hid (C2 w2 Q Q' D' X X' Y' rs ∧ (∀ b, Y' b → w1.heap.size ≤ b) ∧ Below w1.heap.size w1 w2) := ⟨c2', hy2, b2⟩
                       clear c2' hy2 b2 ho y1 y2)
                    | (go_at_call 24; refine t3.mono ?_; clear t3; rintro e w3 ⟨rfl, q3, f3⟩
                       have t4 := rTail_some q3 pr id
                       have v3 := f3.cell v1 hnX.1
                       have v4 := f3.cell v2 hnX.1
                       have H3 : Hid (C2 w3 Q Q' D' X X' Y' rs ∧ Fz X w2 w3) := ⟨H2.out.1.step ⟨_, q3⟩ f3, f3⟩
                       clear q3 f3 v1 v2)
                    | (go_at_call 10; refine t4.mono ?_; clear t4; rintro e w4 ⟨c9, rfl, o4, f4⟩
                       have H8 : Hid (PI w w4 Q' D' X' Y' rs) := (by
                         have hs0 := HW.out.b.size
                         have hs1 := HB1.out.1.size
                         have hs2 := H2.out.2.2.size
                         have hs3 := H3.out.2.size
                         have kX := fun b e => HW.out.k b (.inl e)
                         exact ⟨(H3.out.1.step o4 f4).cp, (((HW.out.b.trans (HB1.out.1.mono hs0)).trans (H2.out.2.2.mono (by omega))).trans (H3.out.2.below (by omega) kX)).trans (f4.below (by omega) kX), fun b e => by
                           rcases e with e | e
                           · have := HB1.out.2 b e; omega
                           · have := H2.out.2.1 b e; omega⟩)
                       clear o4 f4 v3 v4 H2 H3 HB1 HW))
                  go_roundw
                  case rel => exact ⟨k + 1, Q', D', X', Y', rs, by omega, by go_num, rfl, rfl, H8.out⟩
                  case measure => simp [intOf]; omega
                · skip
                  by_cases e6 : kd = 6
                  · subst e6
                    have t1 := qtells_any HW.out.c id
                    clear y1
                    go_wp2_with (first | (go_at_call 22; refine t1.mono ?_; clear t1; rintro e w3 ⟨rfl, b3⟩))
                    have H8 : Hid (PI w w3 Q D X Y rs) := HW.out.below b3
                    clear b3 HW
                    go_roundw
                    case rel => exact ⟨k + 1, Q, D, X, Y, rs, by omega, by go_num, rfl, rfl, H8.out⟩
                    case measure => simp [intOf]; omega
                  · skip
                    clear y1 y2
                    go_wp2
                    go_roundw
                    case rel => exact ⟨k + 1, Q, D, X, Y, rs, by omega, by go_num, rfl, rfl, HW.out⟩
                    case measure => simp [intOf]; omega
      · obtain rfl : k = cs.length := by omega
        have hge : ¬ ((cs.length : Int) < cs.length) := by omega
        have t3 := qtells_any HI.out.c (-2)
        go_wp2_with (first | (go_at_call 22; refine t3.mono ?_; clear t3; rintro e w3 ⟨rfl, b3⟩))
        go_ret
        exact ⟨rfl, HI.out.b.trans (b3.mono HI.out.b.size)⟩
end Go.Proofs.Yticgikbnlpgnkaa
