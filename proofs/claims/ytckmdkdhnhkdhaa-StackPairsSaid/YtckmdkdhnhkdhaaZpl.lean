import Derived.Test.YtckmdkdhnhkdhaaZfp
import Derived.Test.YtckmdkdhnhkdhaaZop
import Derived.Test.YtckmdkdhnhkdhaaZjb
import Derived.Test.YtckmdkdhnhkdhaaZal
namespace Go.Proofs.Ytckmdkdhnhkdhaa
open Go.RowKit Go.ChangeShapes Go.WideShapes
set_option linter.unusedVariables false
set_option linter.unusedSimpArgs false

/-! ### place -/
def pairP (x : Pa) (i : Nat) (u : Value) : Prop := (i = 0 → u = I x.1) ∧ (i = 1 → u = .string x.2)
theorem p_pair : Try.prog.cellsOf 42 = 2 := by kernel_rfl
theorem one_pair {H : Type} {enc : TypeId × Value → H} {w : World} {spare : Nat → Bool} {held : Bool} (n : Nat) (cs : List Value) (z : DataW H × List MemPlace) (hl : cs.length = 2) (h : DataW.trod enc Try.prog w 0 spare held n 42 cs = some z) : ∃ x : Pa, ∀ i, i < 2 → ∃ u, cs[i]? = some u ∧ pairP x i u := by
  obtain ⟨c0, c1, rfl⟩ := list2 hl
  obtain ⟨xs, n, hn, hx, hl, hlen, hfs⟩ := DataW.trod_struct Try.underlying42 h
  match xs, hlen with
  | [y0, y1], _ =>
    have h0 := hfs 0 _ rfl
    have h1 := hfs 1 _ rfl
    simp [p_int, p_string] at h0 h1
    obtain ⟨v0, e0, _, b0⟩ := DataW.trod_int Try.underlying3 h0
    obtain ⟨v1, e1, _⟩ := DataW.trod_string Try.underlying9 h1
    simp at e0 e1
    subst e0 e1
    refine ⟨⟨v0, v1⟩, fun i hi => ?_⟩
    have hi2 : i = 0 ∨ i = 1 := by omega
    rcases hi2 with rfl | rfl
    · exact ⟨_, rfl, fun _ => rfl, fun e => (by cases e)⟩
    · exact ⟨_, rfl, fun e => (by cases e), fun _ => rfl⟩
theorem pairs_cell {W : World} {a : Option Addr} {n c : Nat} {l : List Pa} (h : RowsAt W 2 pairP ⟨a, n, c⟩ l) {i : Nat} {x : Pa} (hx : l[i]? = some x) : ∃ g off, a = some ⟨g, off, none⟩ ∧ ∀ Z, Below W.heap.size W Z → Z.cell? ⟨g, off + i * 2, none⟩ = some (I x.1) ∧ Z.cell? ⟨g, off + i * 2 + 1, none⟩ = some (.string x.2) := by
  obtain ⟨g, off, e, hg, hr⟩ := h.row i _ hx
  refine ⟨g, off, e, fun Z hZ => ?_⟩
  obtain ⟨u0, h0, p0⟩ := hr 0 (by omega)
  obtain ⟨u1, h1, p1⟩ := hr 1 (by omega)
  have e0 := p0.1 rfl
  have e1 := p1.2 rfl
  subst e0 e1
  exact ⟨(hZ.cell (p := ⟨g, off + i * 2, none⟩) hg).trans (by simpa using h0), (hZ.cell (p := ⟨g, off + i * 2 + 1, none⟩) hg).trans h1⟩
/-- The first place of a thing. -/
def Canon (ths : List Pa) (k : Nat) : Prop := ∃ x, ths[k]? = some x ∧ ∀ (j : Nat) (y : Pa), j < k → ths[j]? = some y → pEq y x = false
set_option maxRecDepth 100000 in
set_option maxHeartbeats 4000000 in
theorem place_from (W w : World) (a : Option Addr) (c : Nat) (ths : List Pa) (h : RowsAt W 2 pairP ⟨a, ths.length, c⟩ ths) (hl : ths.length ≤ 17592186043904) (hb : Below W.heap.size W w) (v : Int) (m : Nat) (hm : m < ths.length) (hv : (v.tmod ths.length = m) ∨ (v.tmod ths.length < 0 ∧ v.tmod ths.length + ths.length = m)) : Calls Try.prog 19 #[.slice a ths.length c, I v] w fun e w' => ∃ k : Nat, e = .returned (I k) ∧ Canon ths k ∧ Below w.heap.size w w' := by
  obtain ⟨⟨km, sm⟩, hxm⟩ : ∃ x, ths[m]? = some x := ⟨_, List.getElem?_eq_getElem hm⟩
  obtain ⟨ga, off, rfl, hcm⟩ := pairs_cell h hxm
  have HM : Hid (∀ Z, Below W.heap.size W Z → Z.cell? ⟨ga, off + m * 2, none⟩ = some (I km) ∧ Z.cell? ⟨ga, off + m * 2 + 1, none⟩ = some (.string sm)) := hcm
  have HX : Hid (ths[m]? = some (km, sm)) := hxm
  have hz : ¬ ((ths.length : Int) = 0) := by omega
  have hb1 := Int.tmod_lt_of_pos v (b := (ths.length : Int)) (by omega)
  have hb2 := Int.lt_tmod_of_pos v (b := (ths.length : Int)) (by omega)
  have hm0 : ¬ (m : Int) < 0 := by omega
  have hm1 : (m : Int) < ths.length := by omega
  clear hcm hxm
  rcases hv with hv | ⟨hv0, hv⟩
  · have hv9 : ¬ v.tmod ths.length < 0 := by omega
    go_enter Try.func19, Try.ntmps19
    go_wp2
    go_loopw [5] (fun vi wr => ∃ i : Nat, i ≤ m ∧ vi = .int .i64 i ∧ Hid (Below w.heap.size w wr ∧ ∀ (j : Nat) (y : Pa), j < i → ths[j]? = some y → pEq y (km, sm) = false)) (fun vi _ => m - (intOf vi).toNat)
    case atStart => exact ⟨0, Nat.zero_le _, rfl, Below.refl _ _, fun j y hj => by omega⟩
    case round =>
      obtain ⟨i, hi, rfl, HB⟩ := hrel
      obtain ⟨m0, m1⟩ := HM.out wr (hb.trans (HB.out.1.mono hb.size))
      by_cases hlt : i < m
      · have hltI : (i : Int) < m := by omega
        have hi0 : ¬ (i : Int) < 0 := by omega
        have hi1 : (i : Int) < ths.length := by omega
        obtain ⟨⟨kx, sx⟩, hx⟩ : ∃ x, ths[i]? = some x := ⟨_, List.getElem?_eq_getElem (by omega)⟩
        obtain ⟨ga', off', ea, hcx⟩ := pairs_cell h hx
        cases ea
        obtain ⟨x0, x1⟩ := hcx wr (hb.trans (HB.out.1.mono hb.size))
        have HXi : Hid (ths[i]? = some (kx, sx)) := hx
        clear hcx hx
        by_cases h1 : kx = km
        · by_cases h2 : sx.toList = sm.toList
          · have HQ : Hid (pEq (kx, sx) (km, sm) = true) := by show _ = _; simp [pEq, h1, h2]
            go_wp2
            go_quiet (fail)
            go_wp2
            go_ret
            refine ⟨i, rfl, ⟨(kx, sx), HXi.out, fun j y hj hy => ?_⟩, below_drewN _ HB.out.1⟩
            cases e : pEq y (kx, sx) with
            | false => rfl
            | true => have := pEq_trans e HQ.out; rw [HB.out.2 j y hj hy] at this; cases this
          · have HQ : Hid (pEq (kx, sx) (km, sm) = false) := by show _ = _; simp [pEq]; intro e; first | exact absurd e h1 | exact h2
            go_wp2
            go_quiet (fail)
            have H9 : Hid (Below w.heap.size w (wr.drewN nq) ∧ ∀ (j : Nat) (y : Pa), j < i + 1 → ths[j]? = some y → pEq y (km, sm) = false) := ⟨below_drewN nq HB.out.1, fun j y hj hy => by
              by_cases e : j = i
              · subst e
                rw [HXi.out] at hy
                cases hy
                exact HQ.out
              · exact HB.out.2 j y (by omega) hy⟩
            clear HB m0 m1 x0 x1
            generalize wr.drewN nq = w9 at *
            go_wp2
            go_roundw
            case rel => exact ⟨i + 1, by omega, by go_num, H9.out⟩
            case measure => simp [intOf]; omega
        · have HQ : Hid (pEq (kx, sx) (km, sm) = false) := by show _ = _; simp [pEq]; intro e; first | exact absurd e h1 | exact h2
          go_wp2
          go_quiet (fail)
          have H9 : Hid (Below w.heap.size w (wr.drewN nq) ∧ ∀ (j : Nat) (y : Pa), j < i + 1 → ths[j]? = some y → pEq y (km, sm) = false) := ⟨below_drewN nq HB.out.1, fun j y hj hy => by
            by_cases e : j = i
            · subst e
              rw [HXi.out] at hy
              cases hy
              exact HQ.out
            · exact HB.out.2 j y (by omega) hy⟩
          clear HB m0 m1 x0 x1
          generalize wr.drewN nq = w9 at *
          go_wp2
          go_roundw
          case rel => exact ⟨i + 1, by omega, by go_num, H9.out⟩
          case measure => simp [intOf]; omega
      · obtain rfl : i = m := by omega
        have hge : ¬ ((i : Int) < i) := by omega
        go_wp2
        go_ret
        exact ⟨i, rfl, ⟨_, HX.out, HB.out.2⟩, HB.out.1⟩
  · go_enter Try.func19, Try.ntmps19
    go_wp2
    go_loopw [5] (fun vi wr => ∃ i : Nat, i ≤ m ∧ vi = .int .i64 i ∧ Hid (Below w.heap.size w wr ∧ ∀ (j : Nat) (y : Pa), j < i → ths[j]? = some y → pEq y (km, sm) = false)) (fun vi _ => m - (intOf vi).toNat)
    case atStart => exact ⟨0, Nat.zero_le _, rfl, Below.refl _ _, fun j y hj => by omega⟩
    case round =>
      obtain ⟨i, hi, rfl, HB⟩ := hrel
      obtain ⟨m0, m1⟩ := HM.out wr (hb.trans (HB.out.1.mono hb.size))
      by_cases hlt : i < m
      · have hltI : (i : Int) < m := by omega
        have hi0 : ¬ (i : Int) < 0 := by omega
        have hi1 : (i : Int) < ths.length := by omega
        obtain ⟨⟨kx, sx⟩, hx⟩ : ∃ x, ths[i]? = some x := ⟨_, List.getElem?_eq_getElem (by omega)⟩
        obtain ⟨ga', off', ea, hcx⟩ := pairs_cell h hx
        cases ea
        obtain ⟨x0, x1⟩ := hcx wr (hb.trans (HB.out.1.mono hb.size))
        have HXi : Hid (ths[i]? = some (kx, sx)) := hx
        clear hcx hx
        by_cases h1 : kx = km
        · by_cases h2 : sx.toList = sm.toList
          · have HQ : Hid (pEq (kx, sx) (km, sm) = true) := by show _ = _; simp [pEq, h1, h2]
            go_wp2
            go_quiet (fail)
            go_wp2
            go_ret
            refine ⟨i, rfl, ⟨(kx, sx), HXi.out, fun j y hj hy => ?_⟩, below_drewN _ HB.out.1⟩
            cases e : pEq y (kx, sx) with
            | false => rfl
            | true => have := pEq_trans e HQ.out; rw [HB.out.2 j y hj hy] at this; cases this
          · have HQ : Hid (pEq (kx, sx) (km, sm) = false) := by show _ = _; simp [pEq]; intro e; first | exact absurd e h1 | exact h2
            go_wp2
            go_quiet (fail)
            have H9 : Hid (Below w.heap.size w (wr.drewN nq) ∧ ∀ (j : Nat) (y : Pa), j < i + 1 → ths[j]? = some y → pEq y (km, sm) = false) := ⟨below_drewN nq HB.out.1, fun j y hj hy => by
              by_cases e : j = i
              · subst e
                rw [HXi.out] at hy
                cases hy
                exact HQ.out
              · exact HB.out.2 j y (by omega) hy⟩
            clear HB m0 m1 x0 x1
            generalize wr.drewN nq = w9 at *
            go_wp2
            go_roundw
            case rel => exact ⟨i + 1, by omega, by go_num, H9.out⟩
            case measure => simp [intOf]; omega
        · have HQ : Hid (pEq (kx, sx) (km, sm) = false) := by show _ = _; simp [pEq]; intro e; first | exact absurd e h1 | exact h2
          go_wp2
          go_quiet (fail)
          have H9 : Hid (Below w.heap.size w (wr.drewN nq) ∧ ∀ (j : Nat) (y : Pa), j < i + 1 → ths[j]? = some y → pEq y (km, sm) = false) := ⟨below_drewN nq HB.out.1, fun j y hj hy => by
            by_cases e : j = i
            · subst e
              rw [HXi.out] at hy
              cases hy
              exact HQ.out
            · exact HB.out.2 j y (by omega) hy⟩
          clear HB m0 m1 x0 x1
          generalize wr.drewN nq = w9 at *
          go_wp2
          go_roundw
          case rel => exact ⟨i + 1, by omega, by go_num, H9.out⟩
          case measure => simp [intOf]; omega
      · obtain rfl : i = m := by omega
        have hge : ¬ ((i : Int) < i) := by omega
        go_wp2
        go_ret
        exact ⟨i, rfl, ⟨_, HX.out, HB.out.2⟩, HB.out.1⟩
theorem place_any (W w : World) (a : Option Addr) (c : Nat) (ths : List Pa) (h : RowsAt W 2 pairP ⟨a, ths.length, c⟩ ths) (hl : ths.length ≤ 17592186043904) (h0 : 0 < ths.length) (hb : Below W.heap.size W w) (v : Int) : Calls Try.prog 19 #[.slice a ths.length c, I v] w fun e w' => ∃ k : Nat, e = .returned (I k) ∧ Canon ths k ∧ Below w.heap.size w w' := by
  have hb1 := Int.tmod_lt_of_pos v (b := (ths.length : Int)) (by omega)
  have hb2 := Int.lt_tmod_of_pos v (b := (ths.length : Int)) (by omega)
  by_cases hs : v.tmod ths.length < 0
  · exact place_from W w a c ths h hl hb v (v.tmod ths.length + ths.length).toNat (by omega) (.inr ⟨hs, by omega⟩)
  · exact place_from W w a c ths h hl hb v (v.tmod ths.length).toNat (by omega) (.inl (by omega))
end Go.Proofs.Ytckmdkdhnhkdhaa
