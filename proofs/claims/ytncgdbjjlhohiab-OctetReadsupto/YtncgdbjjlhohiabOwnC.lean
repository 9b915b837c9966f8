import Derived.Test.YtncgdbjjlhohiabOwnB
import Derived.ArgAppend
namespace Go.Proofs.Ytncgdbjjlhohiab
open Go.RowKit
set_option linter.unusedVariables false

theorem Y8_even (j : Nat) : Y8 (2 * j) = .int .u8 (2 * (j : Int) % 256) := by
  unfold Y8; congr 1
theorem Y8_odd (j : Nat) : Y8 (2 * j + 1) = .int .u8 ((2 * (j : Int) + 1) % 256) := by
  unfold Y8; congr 1
theorem Try.info30 : (Try.prog.info? 30).map (fun i => (i.zero, i.size, i.bytes)) = some (some (.slice none 0 0), 1, 24) := by kernel_rfl

set_option maxRecDepth 100000 in
set_option maxHeartbeats 8000000 in
theorem own_keep (w : World) (base N c0 b0 o0 : Nat) (a : Option Addr) (E : Nat → Value) (nn : Nat → Nat) (X0 : Nat → List Value) (I : OwnIn w base N a b0 o0 E nn X0) :
    Calls Try.prog 15 #[.slice a N c0] w fun e w' => e = .returned (.bool true) ∧ Below base w w' ∧ ∀ k, k < w.heap.size → (∀ i, i < N → (E i).ownBlock ≠ some k) → w'.heap[k]? = w.heap[k]? := by
  have hN := I.few
  obtain ⟨i5, hi5, hz50, hz51, hz52⟩ := info_parts Try.info5
  obtain ⟨i23, hi23, hz230, hz231, hz232⟩ := info_parts Try.info30
  go_enter Try.func15, Try.ntmps15
  go_wp2
  go_loopw [3] (fun i wr => ∃ j : Nat, ∃ X, j ≤ N ∧ i = .int .i64 j ∧ OwnSt w wr base N b0 E nn X ∧ ∀ k, k < j → X k = rep (nn k) (2 * k)) (fun i _ => N - (intOf i).toNat)
  case atStart => exact ⟨0, X0, by omega, rfl, ⟨I.fam, rfl, Below.refl _ _, fun _ _ _ => rfl⟩, fun k hk => by omega⟩
  case round =>
    obtain ⟨j, X, hj, rfl, S, hX⟩ := hrel
    by_cases hlt : j < N
    · have ha := I.outer (by omega)
      subst ha
      have HX : Hid (∀ k, k < j → X k = rep (nn k) (2 * k)) := hX
      have hnn := I.small j hlt
      have hcj := I.cell j hlt
      have hxl : (X j).length = nn j := by simpa using (S.fam.own j hlt).1
      obtain ⟨aj, cj, hEj⟩ := owns_shape (S.fam.own j hlt)
      rw [hEj] at hcj
      have HE : Hid (E j = .slice aj (nn j) cj) := hEj
      clear hX hEj
      go_wp2
      go_loopw [4] (fun i wx => ∃ t : Nat, t ≤ nn j ∧ i = .int .i64 t ∧ OwnSt w wx base N b0 E nn (fun k => if k = j then part (X j) t (2 * j) else X k)) (fun i _ => nn j - (intOf i).toNat)
      case atStart =>
        refine ⟨0, by omega, rfl, ?_⟩
        have : (fun k => if k = j then part (X j) 0 (2 * j) else X k) = X := by
          funext k
          by_cases e : k = j
          · rw [if_pos e, part_zero, e]
          · rw [if_neg e]
        rw [this]; exact S
      case round =>
        obtain ⟨t, ht, rfl, T⟩ := hrel
        have c1 := T.cell hcj
        by_cases hlt2 : t < nn j
        · obtain ⟨g, c, hg⟩ := owns_at (T.fam.own j hlt) (by omega)
          have hg' := hg
          rw [HE.out] at hg'
          simp only [Value.slice.injEq, true_and] at hg'
          obtain ⟨rfl, rfl⟩ := hg'
          have ho := T.fam.own j hlt
          simp only [if_pos] at ho
          rw [hg] at ho
          have f2 := ho.frozenAt t
          obtain ⟨v2, c2⟩ : ∃ v2, wr.cell? ⟨g, t, none⟩ = some v2 := by
            rw [ho.cellAt t (by omega)]
            exact ⟨_, List.getElem?_eq_getElem (by rw [part_len _ _ _ (by omega)]; omega)⟩
          have T2 := T.store I (j := t) hlt hg (Y8 (2 * j))
          have HT2 : Hid (OwnSt w (wr.setCell ⟨g, t, none⟩ (.int .u8 (2 * (j : Int) % 256))) base N b0 E nn (fun k => if k = j then part (X j) (t + 1) (2 * j) else X k)) := by
            have e : (fun k => if k = j then ((fun k => if k = j then part (X j) t (2 * j) else X k) j).set t (Y8 (2 * j)) else (fun k => if k = j then part (X j) t (2 * j) else X k) k) = (fun k => if k = j then part (X j) (t + 1) (2 * j) else X k) := by
              funext k
              by_cases e : k = j
              · simp only [if_pos e, if_pos, part_set (X j) t (2 * j) (by omega)]
              · simp only [if_neg e]
            rw [e, Y8_even] at T2
            exact T2
          clear T T2 ho hg
          go_wp2
          go_roundw
          case rel => exact ⟨t + 1, by omega, by go_num, HT2.out⟩
          case measure => simp [intOf]; omega
        · have htn : t = nn j := by omega
          go_wp2
          go_roundw
          case rel =>
            refine ⟨j + 1, _, by omega, by go_num, T, fun k hk => ?_⟩
            by_cases e : k = j
            · subst e
              rw [if_pos rfl, htn, ← hxl, part_all]
            · rw [if_neg e]; exact HX.out k (by omega)
          case measure => simp [intOf]; omega
    · have S2 : OwnSt w wr base N b0 E nn (over2 nn) := S.congr (fun k hk => hX k (by omega))
      clear S hX
      go_wp2
      go_loop [5] (fun i => ∃ j : Nat, j ≤ N ∧ i = .int .i64 j) (fun i => N - (intOf i).toNat)
      case atStart => exact ⟨0, by omega, rfl⟩
      case round =>
        obtain ⟨j, hj, rfl⟩ := hrel
        by_cases hlt : j < N
        · have ha := I.outer (by omega)
          subst ha
          have hnn := I.small j hlt
          obtain ⟨aj, cj, hEj⟩ := owns_shape (S2.fam.own j hlt)
          have c1 := S2.cell (I.cell j hlt)
          rw [hEj] at c1
          have HE : Hid (E j = .slice aj (nn j) cj) := hEj
          clear hEj
          go_wp2
          go_loop [6] (fun i => ∃ t : Nat, t ≤ nn j ∧ i = .int .i64 t) (fun i => nn j - (intOf i).toNat)
          case atStart => exact ⟨0, by omega, rfl⟩
          case round =>
            obtain ⟨t, ht, rfl⟩ := hrel
            by_cases hlt2 : t < nn j
            · obtain ⟨g, c, hg⟩ := owns_at (S2.fam.own j hlt) (by omega)
              have hg' := hg
              rw [HE.out] at hg'
              simp only [Value.slice.injEq, true_and] at hg'
              obtain ⟨rfl, rfl⟩ := hg'
              have ho := S2.fam.own j hlt
              rw [hg] at ho
              have c2 : wr.cell? ⟨g, t, none⟩ = some (.int .u8 (2 * (j : Int) % 256)) := by
                rw [ho.cellAt t (by omega), ← Y8_even]; exact rep_get _ _ _ hlt2
              clear ho hg
              go_wp2
              go_round
              case rel => exact ⟨t + 1, by omega, by go_num⟩
              case measure => simp [intOf]; omega
            · go_wp2
              go_round
              case rel => exact ⟨j + 1, by omega, by go_num⟩
              case measure => simp [intOf]; omega
        · have A0 : App w wr base N b0 E nn (.slice none 0 0) 0 E := ⟨S2, fun j hj => by omega, fun j hj => by omega, World.ownsRow_nil _ _ _ _⟩
          clear S2
          go_wp2
          go_loopw [7, 8] (fun v7 i wx => ∃ j : Nat, ∃ Y, j ≤ N ∧ i = .int .i64 j ∧ App w wx base N b0 E nn v7 j Y) (fun _ i _ => N - (intOf i).toNat)
          case atStart => exact ⟨0, E, by omega, rfl, A0⟩
          case round =>
            clear A0
            obtain ⟨j, Y, hj, rfl, A⟩ := hrel
            by_cases hlt : j < N
            · have ha := I.outer (by omega)
              subst ha
              have hnn := I.small j hlt
              obtain ⟨aj, cj, hEj⟩ := owns_shape (A.e.fam.own j hlt)
              have c1 := A.e.cell (I.cell j hlt)
              have X0' := AppX.start I A hlt
              rw [hEj] at c1 X0'
              clear hEj A
              go_wp2
              go_loopw [9, 10] (fun x i wx => ∃ t : Nat, t ≤ 20 ∧ i = .int .i64 t ∧ AppX w wx base N b0 E nn u7 j Y x t) (fun _ i _ => 20 - (intOf i).toNat)
              case atStart => exact ⟨0, by omega, rfl, X0'⟩
              case round =>
                clear X0' c1
                obtain ⟨t, ht, rfl, T⟩ := hrel
                obtain ⟨ax, cx, hx⟩ := owns_shape T.ox
                subst hx
                have hox := T.ox
                by_cases hlt2 : t < 20
                · by_cases hroom : nn j + t + 1 ≤ cx
                  · obtain ⟨g, hg⟩ : ∃ g, ax = some ⟨g, 0, none⟩ := by
                      rcases hox.2 with ⟨h', _⟩ | ⟨g, cap', cur, h', _⟩
                      · simp only [Value.slice.injEq] at h'; omega
                      · simp only [Value.slice.injEq] at h'; exact ⟨g, h'.1⟩
                    subst hg
                    go_wp2_with (at_builtin; refine wpList_append_fits _ rfl (.tmp 78) (.tmp 83) 30 rfl base 5 i5 1 Try.underlying30 hi5 hz51 g (nn j + t) cx _ rfl (hox.alloc _) ⟨wr.heap.size, 0, none⟩ 1 1 [Y8 (2 * j + 1)] rfl rfl ?c1 ?c2 hroom ?_)
                    case c1 =>
                      intro k u hk
                      match k, hk with
                      | 0, hk => simp at hk; subst hk; rw [Y8_odd]; simp [Addr.add]
                    case c2 => intro u hu; simp at hu; subst hu; rfl
                    intro w2 ho2 hg2
                    rw [← List.append_assoc] at ho2
                    have T2 := T.fits I hlt rfl ho2 hg2
                    clear T ho2 hg2 hox
                    go_wp2
                    go_roundw
                    case rel => exact ⟨t + 1, by omega, by go_num, T2⟩
                    case measure => simp [intOf]; omega
                  · have hnone : ax = none → nn j + t = 0 ∧ cx = 0 := by
                      intro e
                      rcases hox.2 with ⟨h', _⟩ | ⟨g, cap', cur, h', _⟩
                      · simp only [Value.slice.injEq] at h'; omega
                      · simp only [Value.slice.injEq, e] at h'; cases h'.1
                    have Hold : Hid (∀ b, ax = some b → ∀ k u, (rep (nn j) (2 * j) ++ rep t (2 * j + 1))[k]? = some u → wr.cell? (b.add k) = some u) := by
                      intro b e
                      rcases hox.2 with ⟨h', _⟩ | ⟨g, cap', cur, h', _⟩
                      · simp only [Value.slice.injEq, e] at h'; cases h'.1
                      · simp only [Value.slice.injEq, e, Option.some.injEq] at h'
                        rw [h'.1]
                        exact hox.cells (g := g) (by rw [e, h'.1]; rfl)
                    go_wp2_with (at_builtin; refine wpList_append_grows _ rfl (.tmp 78) (.tmp 83) 30 rfl 5 i5 (.int .u8 0) 1 1 Try.underlying30 hi5 hz50 hz51 hz52 rfl (by decide) ax (nn j + t) cx (rep (nn j) (2 * j) ++ rep t (2 * j + 1)) rfl hnone ?d0 ?d1 ⟨wr.heap.size, 0, none⟩ 1 1 [Y8 (2 * j + 1)] rfl rfl ?d2 ?d3 ?d4 ?d5 ?d6 ?_)
                    case d0 => simp [rep]
                    case d1 =>
                      intro b e k u hk
                      have h0 := Hold.out b e k u hk
                      exact cell_later ((Below.refl _ _).alloc (Nat.le_refl _) _) h0
                    case d2 =>
                      intro k u hk
                      match k, hk with
                      | 0, hk => simp at hk; subst hk; rw [Y8_odd]; simp [Addr.add]
                    case d3 => intro u hu; simp at hu; subst hu; rfl
                    case d4 => omega
                    case d5 => unfold maxLen; omega
                    case d6 => omega
                    intro x2 w2 ho2 hg2
                    rw [← List.append_assoc] at ho2
                    have T2 := T.grows I hlt (by omega) ho2 hg2
                    clear T ho2 hg2 hox Hold hnone
                    go_wp2
                    go_roundw
                    case rel => exact ⟨t + 1, by omega, by go_num, T2⟩
                    case measure => simp [intOf]; omega
                · have ht20 : t = 20 := by omega
                  subst ht20
                  have hal := T.app.al
                  go_wp2_with (at_builtin; refine wpList_append_own _ rfl (.tmp 85) (.tmp 87) 38 rfl w.heap.size 30 i23 (.slice none 0 0) 1 24 Try.underlying38 hi23 hz230 hz231 hz232 rfl (by decide) _ _ _ rfl (hal.alloc _) ⟨wr.heap.size, 0, none⟩ 1 1 [.slice ax (nn j + 20) cx] rfl rfl ?e1 ?e2 ?e3 ?e4 ?e5 ?_)
                  case e1 =>
                    intro k u hk
                    match k, hk with
                    | 0, hk => simp at hk; subst hk; simp [Addr.add]
                  case e2 => intro u hu; simp at hu; subst hu; rfl
                  case e3 => unfold maxLen; omega
                  case e4 => omega
                  case e5 => have := T.app.e.bel.size; simp; omega
                  intro v7' w2 ho2 hg2 _
                  have A2 := T.done I hlt ho2 hg2
                  clear T ho2 hg2 hal hox
                  go_wp2
                  go_roundw
                  case rel => exact ⟨j + 1, _, by omega, by go_num, A2⟩
                  case measure => simp [intOf]; omega
            · have hjN : j = N := by omega
              subst hjN
              have hbel := A.e.bel
              have HKp : Hid (∀ k, k < w.heap.size → (∀ i, i < j → (E i).ownBlock ≠ some k) → wr.heap[k]? = w.heap[k]?) := A.e.keep
              obtain ⟨a7, c7, h7⟩ : ∃ a c, u7 = .slice a j c := by
                rcases A.al.2 with ⟨h1, h2⟩ | ⟨g, cap', cur, hv, _⟩
                · exact ⟨none, 0, by rw [h1, h2]⟩
                · exact ⟨_, _, hv⟩
              subst h7
              go_wp2
              go_loopw [11] (fun i wx => ∃ k : Nat, k ≤ j ∧ i = .int .i64 k ∧ ∃ q, wx = wr.drewN q) (fun i _ => j - (intOf i).toNat)
              case atStart => exact ⟨0, by omega, rfl, 0, rfl⟩
              case round =>
                obtain ⟨k, hk, rfl, q, rfl⟩ := hrel
                by_cases hlt : k < j
                · have ha := I.outer (by omega)
                  subst ha
                  have hnn := I.small k hlt
                  have hEo := A.e.fam.own k hlt
                  have hYo := A.y k hlt
                  obtain ⟨ak, ck, hEk⟩ := owns_shape hEo
                  obtain ⟨g, cy, hYk⟩ := owns_at hYo (by omega)
                  have c1 := A.e.cell (I.cell k hlt)
                  obtain ⟨g7, hg7⟩ : ∃ g, a7 = some ⟨g, 0, none⟩ := by
                    rcases A.al.2 with ⟨h', h0⟩ | ⟨g, cap', cur, h', _⟩
                    · omega
                    · simp only [Value.slice.injEq] at h'; exact ⟨g, h'.1⟩
                  subst hg7
                  have c7' : wr.cell? ⟨g7, k, none⟩ = some (Y k) := by
                    rw [A.al.cellAt k (by omega)]; simp [hlt]
                  rw [hYk] at c7' hYo
                  rw [hEk] at c1 hEo
                  have HE : Hid (wr.ownsRow base 5 1 (.slice ak (nn k) ck) (nn k) (over2 nn k)) := hEo
                  have HY : Hid (wr.ownsRow base 5 1 (.slice (some ⟨g, 0, none⟩) (nn k + 20) cy) (nn k + 20) (rep (nn k) (2 * k) ++ rep 20 (2 * k + 1))) := hYo
                  clear hEk hYk hEo hYo
                  go_wp2
                  go_loopw [12] (fun i wx => ∃ t : Nat, t ≤ 20 ∧ i = .int .i64 t ∧ ∃ q, wx = wr.drewN q) (fun i _ => 20 - (intOf i).toNat)
                  case atStart => exact ⟨0, by omega, rfl, q, rfl⟩
                  case round =>
                    obtain ⟨t, ht, rfl, q, rfl⟩ := hrel
                    by_cases hlt2 : t < 20
                    · have c2 : wr.cell? ⟨g, nn k + t, none⟩ = some (.int .u8 ((2 * (k : Int) + 1) % 256)) := by
                        rw [HY.out.cellAt _ (by omega), ← Y8_odd, List.getElem?_append_right (by simp [rep]), rep_len]
                        exact rep_get _ _ _ (by omega)
                      have hb1 : (nn k : Int) + t < (nn k + 20 : Nat) := by omega
                      go_wp2
                      go_quiet (fail)
                      go_wp2
                      go_roundw
                      case rel => exact ⟨t + 1, by omega, by go_num, _, rfl⟩
                      case measure => simp [intOf]; omega
                    · go_wp2
                      go_loopw [13] (fun i wx => ∃ t : Nat, t ≤ nn k ∧ i = .int .i64 t ∧ ∃ q, wx = wr.drewN q) (fun i _ => nn k - (intOf i).toNat)
                      case atStart => exact ⟨0, by omega, rfl, q, rfl⟩
                      case round =>
                        obtain ⟨t2, ht2, rfl, q, rfl⟩ := hrel
                        by_cases hlt3 : t2 < nn k
                        · obtain ⟨g2, c2, hg2⟩ := owns_at HE.out (by omega)
                          simp only [Value.slice.injEq, true_and] at hg2
                          obtain ⟨rfl, rfl⟩ := hg2
                          have c3 : wr.cell? ⟨g2, t2, none⟩ = some (.int .u8 (2 * (k : Int) % 256)) := by
                            rw [HE.out.cellAt _ (by omega), ← Y8_even]; exact rep_get _ _ _ hlt3
                          go_wp2
                          go_roundw
                          case rel => exact ⟨t2 + 1, by omega, by go_num, _, rfl⟩
                          case measure => simp [intOf]; omega
                        · go_wp2
                          go_roundw
                          case rel => exact ⟨k + 1, by omega, by go_num, _, rfl⟩
                          case measure => simp [intOf]; omega
                · go_wp2
                  go_ret
                  exact ⟨rfl, drewN_below hbel q, HKp.out⟩
theorem own_walk (w : World) (base N c0 b0 o0 : Nat) (a : Option Addr) (E : Nat → Value) (nn : Nat → Nat) (X0 : Nat → List Value) (I : OwnIn w base N a b0 o0 E nn X0) :
    Calls Try.prog 15 #[.slice a N c0] w fun e w' => e = .returned (.bool true) ∧ Below base w w' :=
  (own_keep w base N c0 b0 o0 a E nn X0 I).mono fun e w' ⟨h1, h2, _⟩ => ⟨h1, h2⟩
end Go.Proofs.Ytncgdbjjlhohiab
