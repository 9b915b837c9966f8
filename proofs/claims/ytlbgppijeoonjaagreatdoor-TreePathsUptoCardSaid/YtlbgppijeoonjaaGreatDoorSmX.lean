import Derived.Test.YtlbgppijeoonjaaGreatDoorTreX
import Derived.Deep.RegionLaw
namespace Go.Proofs.YtlbgppijeoonjaaGreatDoor
open Go.RowKit
set_option linter.unusedVariables false

/-! ### SameAttr, SameAttrs -/
/-- The same attributes, but for their spots where sp is false. -/
inductive SmA (sp : Bool) : List At → List At → Prop
  | nil : SmA sp [] []
  | cons {name : List UInt8} {o l c o' l' c' : Int} {v : Vl} {br : Bool} {ps ps' us us' : List At} {nd : Bool} {nt : List UInt8} : (sp = true → o = o' ∧ l = l' ∧ c = c') → SmA sp ps ps' → SmA sp us us' → SmA sp (.mk name o l c v br ps nd nt :: us) (.mk name o' l' c' v br ps' nd nt :: us')
theorem rowsA_at (qs : List (At × Value)) (j : Nat) (q : At × Value) (hq : qs[j]? = some q) (i : Nat) (hi : i < 12) : (rowsA qs)[j * 12 + i]? = (atC q.1 q.2)[i]? := by
  induction qs generalizing j with
  | nil => simp at hq
  | cons p ps ih =>
    have hs : (atC p.1 p.2).toList.length = 12 := by obtain ⟨a, b⟩ := p; cases a; rfl
    cases j with
    | zero =>
      obtain rfl : p = q := by simpa using hq
      show ((atC p.1 p.2).toList ++ rowsA ps)[0 * 12 + i]? = _
      rw [List.getElem?_append_left (by rw [hs]; omega), Nat.zero_mul, Nat.zero_add, Array.getElem?_toList]
    | succ j =>
      show ((atC p.1 p.2).toList ++ rowsA ps)[(j + 1) * 12 + i]? = _
      rw [List.getElem?_append_right (by rw [hs]; omega), hs, show (j + 1) * 12 + i - 12 = j * 12 + i from by omega]
      exact ih j (by simpa using hq)
set_option maxHeartbeats 4000000 in
set_option maxRecDepth 100000 in
theorem sameAttr_of (w W : World) (hb : Below w.heap.size w W) (sp : Bool) (name : List UInt8) (o l c o' l' c' : Int) (vk : Int) (vt : List UInt8) (vn : Nat) (vh br nd : Bool) (nt : List UInt8) (pa : Option Addr) (pn pc : Nat) (pa' : Option Addr) (pn' pc' : Nat) (hs : sp = true → o = o' ∧ l = l' ∧ c = c')
    (hcall : ∀ W, Below w.heap.size w W → Calls Tryz.prog 28 #[.slice pa pn pc, .slice pa' pn' pc', .bool sp] W fun e w' => e = .returned (.bool true) ∧ Below w.heap.size w w') :
    Calls Tryz.prog 11 #[.agg #[.string ⟨name.toArray⟩, .int .i64 o, .int .i64 l, .int .i64 c, .int .i64 vk, .string ⟨vt.toArray⟩, .int .u32 (vn : Int), .bool vh, .bool br, .slice pa pn pc, .bool nd, .string ⟨nt.toArray⟩], .agg #[.string ⟨name.toArray⟩, .int .i64 o', .int .i64 l', .int .i64 c', .int .i64 vk, .string ⟨vt.toArray⟩, .int .u32 (vn : Int), .bool vh, .bool br, .slice pa' pn' pc', .bool nd, .string ⟨nt.toArray⟩], .bool sp] W fun e w' => e = .returned (.bool true) ∧ Below w.heap.size w w' := by
  have hsz := hb.size
  cases sp with
  | true =>
    obtain ⟨rfl, rfl, rfl⟩ := hs rfl
    go_enter Tryz.func11, Tryz.ntmps11
    go_wp2_with (go_at_call 28; refine (hcall _ ((hb.alloc hb.size _).alloc (by simp; omega) _)).mono ?_; rintro e w' ⟨rfl, hb'⟩)
    go_ret
    exact ⟨rfl, hb'⟩
  | false =>
    go_enter Tryz.func11, Tryz.ntmps11
    go_wp2_with (go_at_call 28; refine (hcall _ ((hb.alloc hb.size _).alloc (by simp; omega) _)).mono ?_; rintro e w' ⟨rfl, hb'⟩)
    go_ret
    exact ⟨rfl, hb'⟩
end Go.Proofs.YtlbgppijeoonjaaGreatDoor

namespace Go.Proofs.YtlbgppijeoonjaaGreatDoor
open Go.RowKit
set_option linter.unusedVariables false

/-- Two attributes alike but for their parameters, and what is asked of these. -/
def EqA (sp : Bool) (a b : At) : Prop := match a, b with
  | .mk name o l c v br ps nd nt, .mk name' o' l' c' v' br' ps' nd' nt' => name = name' ∧ v = v' ∧ br = br' ∧ nd = nd' ∧ nt = nt' ∧ (sp = true → o = o' ∧ l = l' ∧ c = c')
def SameC (sp : Bool) (l l' : List At) : Prop := ∀ (w : World) (F F' : Nat → Prop) (v v' : Value), AttrsAt w F v l → AttrsAt w F' v' l' →
  Calls Tryz.prog 28 #[v, v', .bool sp] w fun e w' => e = .returned (.bool true) ∧ Below w.heap.size w w'
set_option maxHeartbeats 4000000 in
set_option maxRecDepth 100000 in
theorem sameAttrs_row (w : World) (sp : Bool) (g off cap g' off' cap' : Nat) (ps ps' : List (At × Value)) (F F' : Nat → Prop) (hg : g < w.heap.size) (hg' : g' < w.heap.size)
    (hc : ∀ j u, (rowsA ps)[j]? = some u → w.cell? ⟨g, off + j, none⟩ = some u) (hc' : ∀ j u, (rowsA ps')[j]? = some u → w.cell? ⟨g', off' + j, none⟩ = some u)
    (N : Nat) (hl : ps.length = N) (hl' : ps'.length = N) (hN : N ≤ maxLen)
    (hA : ∀ p, p ∈ ps → AttrsAt w F p.2 p.1.params) (hA' : ∀ p, p ∈ ps' → AttrsAt w F' p.2 p.1.params)
    (hE : ∀ (j : Nat) (p p' : At × Value), ps[j]? = some p → ps'[j]? = some p' → EqA sp p.1 p'.1 ∧ SameC sp p.1.params p'.1.params) :
    Calls Tryz.prog 28 #[.slice (some ⟨g, off, none⟩) N cap, .slice (some ⟨g', off', none⟩) N cap', .bool sp] w fun e w' => e = .returned (.bool true) ∧ Below w.heap.size w w' := by
  have HX : Hid (ps.length = N) := hl
  have HX' : Hid (ps'.length = N) := hl'
  have hN2 : (N : Int) ≤ 9223372036854775807 := by unfold maxLen at hN; omega
  clear hl hl' hN
  go_enter Tryz.func28, Tryz.ntmps28
  go_wp2
  go_loopw [7] (fun i wr => ∃ j : Nat, j ≤ N ∧ i = .int .i64 j ∧ Below w.heap.size w wr) (fun i _ => N - (intOf i).toNat)
  case atStart => exact ⟨0, by omega, rfl, Below.refl _ _⟩
  case round =>
    obtain ⟨j, hj, rfl, hb⟩ := hrel
    by_cases hlt : j < N
    · have hlt' : (j : Int) < N := by omega
      have hj0 : (0 : Int) ≤ j := by omega
      obtain ⟨p, hp⟩ : ∃ x, ps[j]? = some x := ⟨ps[j]'(by rw [HX.out]; exact hlt), List.getElem?_eq_getElem _⟩
      obtain ⟨p', hp'⟩ : ∃ x, ps'[j]? = some x := ⟨ps'[j]'(by rw [HX'.out]; exact hlt), List.getElem?_eq_getElem _⟩
      obtain ⟨hEq, hSC⟩ := hE j p p' hp hp'
      have hAp := hA p (List.mem_of_getElem? hp)
      have hAp' := hA' p' (List.mem_of_getElem? hp')
      have hx : ∀ i u, i < 12 → (atC p.1 p.2)[i]? = some u → wr.cell? ⟨g, off + j * 12 + i, none⟩ = some u := fun i u hi hu => by
        rw [cell_below hb _ _ hg, Nat.add_assoc]
        exact hc _ _ ((rowsA_at ps j p hp i hi).trans hu)
      have hy : ∀ i u, i < 12 → (atC p'.1 p'.2)[i]? = some u → wr.cell? ⟨g', off' + j * 12 + i, none⟩ = some u := fun i u hi hu => by
        rw [cell_below hb _ _ hg', Nat.add_assoc]
        exact hc' _ _ ((rowsA_at ps' j p' hp' i hi).trans hu)
      obtain ⟨a, pv⟩ := p
      obtain ⟨a', pv'⟩ := p'
      obtain ⟨pa, pn, pc, rfl⟩ := attrsAt_shape hAp
      obtain ⟨pa', pn', pc', rfl⟩ := attrsAt_shape hAp'
      obtain ⟨name, o, l, c, ⟨vk, vt, vn, vh⟩, br, prm, nd, nt⟩ := a
      obtain ⟨name', o', l', c', v', br', prm', nd', nt'⟩ := a'
      obtain ⟨rfl, rfl, rfl, rfl, rfl, hs⟩ := hEq
      have cs : ∀ W, Below w.heap.size w W → Calls Tryz.prog 11 #[.agg #[.string ⟨name.toArray⟩, .int .i64 o, .int .i64 l, .int .i64 c, .int .i64 vk, .string ⟨vt.toArray⟩, .int .u32 (vn : Int), .bool vh, .bool br, .slice pa pn pc, .bool nd, .string ⟨nt.toArray⟩], .agg #[.string ⟨name.toArray⟩, .int .i64 o', .int .i64 l', .int .i64 c', .int .i64 vk, .string ⟨vt.toArray⟩, .int .u32 (vn : Int), .bool vh, .bool br, .slice pa' pn' pc', .bool nd, .string ⟨nt.toArray⟩], .bool sp] W fun e w' => e = .returned (.bool true) ∧ Below w.heap.size w w' := fun W hW =>
        sameAttr_of w W hW sp name o l c o' l' c' vk vt vn vh br nd nt pa pn pc pa' pn' pc' hs (fun W2 hW2 => (hSC W2 F F' _ _ (attrsAt_below hW2 hAp) (attrsAt_below hW2 hAp')).mono fun e w' ⟨h1, h2⟩ => ⟨h1, hW2.trans (h2.mono hW2.size)⟩)
      have x0 : wr.cell? ⟨g, off + j * 12, none⟩ = some (.string ⟨name.toArray⟩) := hx 0 _ (by omega) rfl
      have x1 : wr.cell? ⟨g, off + j * 12 + 1, none⟩ = some (.int .i64 o) := hx 1 _ (by omega) rfl
      have x2 : wr.cell? ⟨g, off + j * 12 + 2, none⟩ = some (.int .i64 l) := hx 2 _ (by omega) rfl
      have x3 : wr.cell? ⟨g, off + j * 12 + 3, none⟩ = some (.int .i64 c) := hx 3 _ (by omega) rfl
      have x4 : wr.cell? ⟨g, off + j * 12 + 4, none⟩ = some (.int .i64 vk) := hx 4 _ (by omega) rfl
      have x5 : wr.cell? ⟨g, off + j * 12 + 5, none⟩ = some (.string ⟨vt.toArray⟩) := hx 5 _ (by omega) rfl
      have x6 : wr.cell? ⟨g, off + j * 12 + 6, none⟩ = some (.int .u32 (vn : Int)) := hx 6 _ (by omega) rfl
      have x7 : wr.cell? ⟨g, off + j * 12 + 7, none⟩ = some (.bool vh) := hx 7 _ (by omega) rfl
      have x8 : wr.cell? ⟨g, off + j * 12 + 8, none⟩ = some (.bool br) := hx 8 _ (by omega) rfl
      have x9 : wr.cell? ⟨g, off + j * 12 + 9, none⟩ = some (.slice pa pn pc) := hx 9 _ (by omega) rfl
      have x10 : wr.cell? ⟨g, off + j * 12 + 10, none⟩ = some (.bool nd) := hx 10 _ (by omega) rfl
      have x11 : wr.cell? ⟨g, off + j * 12 + 11, none⟩ = some (.string ⟨nt.toArray⟩) := hx 11 _ (by omega) rfl
      have y0 : wr.cell? ⟨g', off' + j * 12, none⟩ = some (.string ⟨name.toArray⟩) := hy 0 _ (by omega) rfl
      have y1 : wr.cell? ⟨g', off' + j * 12 + 1, none⟩ = some (.int .i64 o') := hy 1 _ (by omega) rfl
      have y2 : wr.cell? ⟨g', off' + j * 12 + 2, none⟩ = some (.int .i64 l') := hy 2 _ (by omega) rfl
      have y3 : wr.cell? ⟨g', off' + j * 12 + 3, none⟩ = some (.int .i64 c') := hy 3 _ (by omega) rfl
      have y4 : wr.cell? ⟨g', off' + j * 12 + 4, none⟩ = some (.int .i64 vk) := hy 4 _ (by omega) rfl
      have y5 : wr.cell? ⟨g', off' + j * 12 + 5, none⟩ = some (.string ⟨vt.toArray⟩) := hy 5 _ (by omega) rfl
      have y6 : wr.cell? ⟨g', off' + j * 12 + 6, none⟩ = some (.int .u32 (vn : Int)) := hy 6 _ (by omega) rfl
      have y7 : wr.cell? ⟨g', off' + j * 12 + 7, none⟩ = some (.bool vh) := hy 7 _ (by omega) rfl
      have y8 : wr.cell? ⟨g', off' + j * 12 + 8, none⟩ = some (.bool br) := hy 8 _ (by omega) rfl
      have y9 : wr.cell? ⟨g', off' + j * 12 + 9, none⟩ = some (.slice pa' pn' pc') := hy 9 _ (by omega) rfl
      have y10 : wr.cell? ⟨g', off' + j * 12 + 10, none⟩ = some (.bool nd) := hy 10 _ (by omega) rfl
      have y11 : wr.cell? ⟨g', off' + j * 12 + 11, none⟩ = some (.string ⟨nt.toArray⟩) := hy 11 _ (by omega) rfl
      have cs1 := cs wr.drew hb.drew
      clear hx hy hc hc' hE hA hA' hp hp' hAp hAp' hSC hs cs
      go_wp2
      go_region_law
          (first
            | (refine step_call rfl 11 _ (by first | rfl | go_simp) cs1 ?_; rintro e w3 ⟨rfl, hb3⟩; refine Or.inl ⟨_, rfl, ?_⟩))
      all_goals
        clear cs1 x0 x1 x2 x3 x4 x5 x6 x7 x8 x9 x10 x11 y0 y1 y2 y3 y4 y5 y6 y7 y8 y9 y10 y11
        go_wp2
        go_roundw
        case rel => exact ⟨j + 1, by omega, by go_num, hb3⟩
        case measure => simp [intOf]; omega
    · have hlt' : ¬ (j : Int) < N := by omega
      go_wp2
      go_ret
      exact ⟨rfl, hb⟩
end Go.Proofs.YtlbgppijeoonjaaGreatDoor

