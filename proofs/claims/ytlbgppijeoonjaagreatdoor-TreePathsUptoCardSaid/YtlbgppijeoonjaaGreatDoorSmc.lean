import Derived.Test.YtlbgppijeoonjaaGreatDoorSmX
import Derived.Test.YtlbgppijeoonjaaGreatDoorFnd
namespace Go.Proofs.YtlbgppijeoonjaaGreatDoor
open Go.RowKit
set_option linter.unusedVariables false

set_option maxHeartbeats 1000000 in
theorem sameAttrs_zero (w : World) (sp : Bool) (a a' : Option Addr) (cap cap' : Nat) :
    Calls Tryz.prog 28 #[.slice a 0 cap, .slice a' 0 cap', .bool sp] w fun e w' => e = .returned (.bool true) ∧ Below w.heap.size w w' := by
  go_enter Tryz.func28, Tryz.ntmps28
  go_wp2
  go_loopw [7] (fun i wr => i = .int .i64 0 ∧ Below w.heap.size w wr) (fun _ _ => 0)
  case atStart => exact ⟨rfl, Below.refl _ _⟩
  case round =>
    obtain ⟨rfl, hb⟩ := hrel
    go_wp2
    go_ret
    exact ⟨rfl, hb⟩
def ElE (sp : Bool) (l l' : List At) : Prop := l.length = l'.length ∧ ∀ (j : Nat) (a a' : At), l[j]? = some a → l'[j]? = some a' → EqA sp a a' ∧ SameC sp a.params a'.params
theorem same_of_el {sp : Bool} {l l' : List At} (h : ElE sp l l') : SameC sp l l' := by
  intro w F F' v v' hA hA'
  obtain ⟨hl, hE⟩ := h
  cases hA with
  | @nil a cap =>
    cases hA' with
    | @nil a' cap' => exact sameAttrs_zero w sp a a' cap cap'
    | @row g off cap' ps b c d e f =>
      have h0 : ps.length = 0 := by simpa using hl.symm
      rw [h0]
      exact sameAttrs_zero w sp a _ cap cap'
  | @row g off cap ps b c d e f =>
    cases hA' with
    | @nil a' cap' =>
      have h0 : ps.length = 0 := by simpa using hl
      rw [h0]
      exact sameAttrs_zero w sp _ a' cap cap'
    | @row g' off' cap' ps' b' c' d' e' f' =>
      have hl2 : ps'.length = ps.length := by simpa using hl.symm
      rw [hl2]
      refine sameAttrs_row w sp g off cap g' off' cap' ps ps' F F' c c' d d' ps.length rfl hl2 (Nat.le_trans e.1 e.2) f f' (fun j p p' hp hp' => ?_)
      exact hE j p.1 p'.1 (by rw [List.getElem?_map, hp]; rfl) (by rw [List.getElem?_map, hp']; rfl)
theorem el_of_sm {sp : Bool} {l l' : List At} (h : SmA sp l l') : ElE sp l l' := by
  induction h with
  | nil => exact ⟨rfl, fun j a a' e => by cases e⟩
  | @cons name o l c o' l' c' v br ps ps' us us' nd nt hs hp hu ihp ihu =>
    refine ⟨by simp [ihu.1], fun j a a' ha ha' => ?_⟩
    cases j with
    | zero =>
      cases ha
      cases ha'
      exact ⟨⟨rfl, rfl, rfl, rfl, rfl, hs⟩, same_of_el ihp⟩
    | succ j => exact ihu.2 j a a' (by simpa using ha) (by simpa using ha')
theorem sameAttrs_any {sp : Bool} {l l' : List At} (h : SmA sp l l') : SameC sp l l' := same_of_el (el_of_sm h)
theorem smA_refl (sp : Bool) : ∀ l : List At, SmA sp l l
  | [] => .nil
  | .mk name o l c v br ps nd nt :: us => .cons (fun _ => ⟨rfl, rfl, rfl⟩) (smA_refl sp ps) (smA_refl sp us)
/-- Two objects alike (but for their spots, where they are not asked). -/
def SmO (sp : Bool) (a b : Ob) : Prop := a.kind = b.kind ∧ a.name = b.name ∧ a.noted = b.noted ∧ a.note = b.note ∧ (sp = true → a.o = b.o ∧ a.l = b.l ∧ a.c = b.c) ∧ SmA sp a.attrs b.attrs
theorem smO_refl (sp : Bool) (a : Ob) : SmO sp a a := ⟨rfl, rfl, rfl, rfl, fun _ => ⟨rfl, rfl, rfl⟩, smA_refl sp _⟩
set_option maxHeartbeats 8000000 in
set_option maxRecDepth 100000 in
theorem same_row (w : World) (sp : Bool) (tv tc : List UInt8) (tnd : Bool) (tnt : List UInt8) (g off cap g' off' cap' : Nat) (qs qs' : List (Ob × Value)) (F F' : Nat → Prop) (hg : g < w.heap.size) (hg' : g' < w.heap.size)
    (hc : ∀ j u, (rowsO qs)[j]? = some u → w.cell? ⟨g, off + j, none⟩ = some u) (hc' : ∀ j u, (rowsO qs')[j]? = some u → w.cell? ⟨g', off' + j, none⟩ = some u)
    (N : Nat) (hl : qs.length = N) (hl' : qs'.length = N) (hN : N ≤ maxLen)
    (hA : ∀ q, q ∈ qs → AttrsAt w F q.2 q.1.attrs) (hA' : ∀ q, q ∈ qs' → AttrsAt w F' q.2 q.1.attrs)
    (hE : ∀ (j : Nat) (q q' : Ob × Value), qs[j]? = some q → qs'[j]? = some q' → SmO sp q.1 q'.1) :
    Calls Tryz.prog 22 #[.agg #[.string ⟨tv.toArray⟩, .string ⟨tc.toArray⟩, .slice (some ⟨g, off, none⟩) N cap, .bool tnd, .string ⟨tnt.toArray⟩], .agg #[.string ⟨tv.toArray⟩, .string ⟨tc.toArray⟩, .slice (some ⟨g', off', none⟩) N cap', .bool tnd, .string ⟨tnt.toArray⟩], .bool sp] w fun e w' => e = .returned (.bool true) ∧ Below w.heap.size w w' := by
  have HX : Hid (qs.length = N) := hl
  have HX' : Hid (qs'.length = N) := hl'
  have hN2 : (N : Int) ≤ 9223372036854775807 := by unfold maxLen at hN; omega
  clear hl hl' hN
  go_enter Tryz.func22, Tryz.ntmps22
  go_wp2
  have hb0 := ((Below.refl w.heap.size w).alloc (Nat.le_refl _) (.cells #[.string ⟨tv.toArray⟩, .string ⟨tc.toArray⟩, .slice (some ⟨g, off, none⟩) N cap, .bool tnd, .string ⟨tnt.toArray⟩] 24)).alloc (by simp) (.cells #[.string ⟨tv.toArray⟩, .string ⟨tc.toArray⟩, .slice (some ⟨g', off', none⟩) N cap', .bool tnd, .string ⟨tnt.toArray⟩] 24)
  have h1 := heap2_0' w (.cells #[.string ⟨tv.toArray⟩, .string ⟨tc.toArray⟩, .slice (some ⟨g, off, none⟩) N cap, .bool tnd, .string ⟨tnt.toArray⟩] 24) (.cells #[.string ⟨tv.toArray⟩, .string ⟨tc.toArray⟩, .slice (some ⟨g', off', none⟩) N cap', .bool tnd, .string ⟨tnt.toArray⟩] 24)
  have h2 := heap2_1' w (.cells #[.string ⟨tv.toArray⟩, .string ⟨tc.toArray⟩, .slice (some ⟨g, off, none⟩) N cap, .bool tnd, .string ⟨tnt.toArray⟩] 24) (.cells #[.string ⟨tv.toArray⟩, .string ⟨tc.toArray⟩, .slice (some ⟨g', off', none⟩) N cap', .bool tnd, .string ⟨tnt.toArray⟩] 24)
  generalize ((w.alloc (.cells #[.string ⟨tv.toArray⟩, .string ⟨tc.toArray⟩, .slice (some ⟨g, off, none⟩) N cap, .bool tnd, .string ⟨tnt.toArray⟩] 24)).alloc (.cells #[.string ⟨tv.toArray⟩, .string ⟨tc.toArray⟩, .slice (some ⟨g', off', none⟩) N cap', .bool tnd, .string ⟨tnt.toArray⟩] 24)) = w0 at *
  go_loopw [7] (fun i wr => ∃ j : Nat, j ≤ N ∧ i = .int .i64 j ∧ Below w0.heap.size w0 wr) (fun i _ => N - (intOf i).toNat)
  case atStart => exact ⟨0, by omega, rfl, Below.refl _ _⟩
  case round =>
    obtain ⟨j, hj, rfl, hb⟩ := hrel
    have hbw := hb0.trans (hb.mono hb0.size)
    have k1 := (hb.block _ (heap_lt h1)).trans h1
    have k2 := (hb.block _ (heap_lt h2)).trans h2
    obtain ⟨⟨_, _, t2, _, _⟩, _⟩ := var5 k1
    obtain ⟨⟨_, _, u2, _, _⟩, _⟩ := var5 k2
    by_cases hlt : j < N
    · have hlt' : (j : Int) < N := by omega
      have hj0 : (0 : Int) ≤ j := by omega
      obtain ⟨p, hp⟩ : ∃ x, qs[j]? = some x := ⟨qs[j]'(by rw [HX.out]; exact hlt), List.getElem?_eq_getElem _⟩
      obtain ⟨p', hp'⟩ : ∃ x, qs'[j]? = some x := ⟨qs'[j]'(by rw [HX'.out]; exact hlt), List.getElem?_eq_getElem _⟩
      have hEq := hE j p p' hp hp'
      have hAp := hA p (List.mem_of_getElem? hp)
      have hAp' := hA' p' (List.mem_of_getElem? hp')
      have hx : ∀ i u, i < 8 → (obC p.1 p.2)[i]? = some u → wr.cell? ⟨g, off + j * 8 + i, none⟩ = some u := fun i u hi hu => by
        rw [cell_below hbw _ _ hg, Nat.add_assoc]
        exact hc _ _ ((rowsO_at qs j p hp i hi).trans hu)
      have hy : ∀ i u, i < 8 → (obC p'.1 p'.2)[i]? = some u → wr.cell? ⟨g', off' + j * 8 + i, none⟩ = some u := fun i u hi hu => by
        rw [cell_below hbw _ _ hg', Nat.add_assoc]
        exact hc' _ _ ((rowsO_at qs' j p' hp' i hi).trans hu)
      obtain ⟨a, pv⟩ := p
      obtain ⟨a', pv'⟩ := p'
      obtain ⟨pa, pn, pc, rfl⟩ := attrsAt_shape hAp
      obtain ⟨pa', pn', pc', rfl⟩ := attrsAt_shape hAp'
      obtain ⟨ok, on, o, l, c, at1, nd, nt⟩ := a
      obtain ⟨ok', on', o', l', c', at2, nd', nt'⟩ := a'
      obtain ⟨e1, e2, e3, e4, hs, hSm⟩ := hEq
      dsimp only at e1 e2 e3 e4 hs hSm
      subst e1 e2 e3 e4
      have cs : ∀ W, Below w.heap.size w W → Calls Tryz.prog 28 #[.slice pa pn pc, .slice pa' pn' pc', .bool sp] W fun e w' => e = .returned (.bool true) ∧ Below W.heap.size W w' := fun W hW =>
        sameAttrs_any hSm W F F' _ _ (attrsAt_below hW hAp) (attrsAt_below hW hAp')
      have hgl : g < wr.heap.size := Nat.lt_of_lt_of_le hg hbw.size
      have hgl' : g' < wr.heap.size := Nat.lt_of_lt_of_le hg' hbw.size
      have hb1l := heap_lt k1
      have hb2l := heap_lt k2
      have al : ∀ a i u, a < wr.heap.size → wr.cell? ⟨a, i, none⟩ = some u → (∀ o, (wr.alloc o).cell? ⟨a, i, none⟩ = some u) ∧ ∀ o o2, ((wr.alloc o).alloc o2).cell? ⟨a, i, none⟩ = some u := fun a i u hl hu =>
        ⟨fun o => by rw [cell_below ((Below.refl wr.heap.size wr).alloc (Nat.le_refl _) o) _ _ hl]; exact hu, fun o o2 => by rw [cell_below (((Below.refl wr.heap.size wr).alloc (Nat.le_refl _) o).alloc (by simp) o2) _ _ hl]; exact hu⟩
      have x0 : wr.cell? ⟨g, off + j * 8, none⟩ = some (.string ⟨ok.toArray⟩) := hx 0 _ (by omega) rfl
      obtain ⟨x0a, x0b⟩ := al _ _ _ hgl x0
      have x1 : wr.cell? ⟨g, off + j * 8 + 1, none⟩ = some (.string ⟨on.toArray⟩) := hx 1 _ (by omega) rfl
      obtain ⟨x1a, x1b⟩ := al _ _ _ hgl x1
      have x2 : wr.cell? ⟨g, off + j * 8 + 2, none⟩ = some (.int .i64 o) := hx 2 _ (by omega) rfl
      obtain ⟨x2a, x2b⟩ := al _ _ _ hgl x2
      have x3 : wr.cell? ⟨g, off + j * 8 + 3, none⟩ = some (.int .i64 l) := hx 3 _ (by omega) rfl
      obtain ⟨x3a, x3b⟩ := al _ _ _ hgl x3
      have x4 : wr.cell? ⟨g, off + j * 8 + 4, none⟩ = some (.int .i64 c) := hx 4 _ (by omega) rfl
      obtain ⟨x4a, x4b⟩ := al _ _ _ hgl x4
      have x5 : wr.cell? ⟨g, off + j * 8 + 5, none⟩ = some (.slice pa pn pc) := hx 5 _ (by omega) rfl
      obtain ⟨x5a, x5b⟩ := al _ _ _ hgl x5
      have x6 : wr.cell? ⟨g, off + j * 8 + 6, none⟩ = some (.bool nd) := hx 6 _ (by omega) rfl
      obtain ⟨x6a, x6b⟩ := al _ _ _ hgl x6
      have x7 : wr.cell? ⟨g, off + j * 8 + 7, none⟩ = some (.string ⟨nt.toArray⟩) := hx 7 _ (by omega) rfl
      obtain ⟨x7a, x7b⟩ := al _ _ _ hgl x7
      have y0 : wr.cell? ⟨g', off' + j * 8, none⟩ = some (.string ⟨ok.toArray⟩) := hy 0 _ (by omega) rfl
      obtain ⟨y0a, y0b⟩ := al _ _ _ hgl' y0
      have y1 : wr.cell? ⟨g', off' + j * 8 + 1, none⟩ = some (.string ⟨on.toArray⟩) := hy 1 _ (by omega) rfl
      obtain ⟨y1a, y1b⟩ := al _ _ _ hgl' y1
      have y2 : wr.cell? ⟨g', off' + j * 8 + 2, none⟩ = some (.int .i64 o') := hy 2 _ (by omega) rfl
      obtain ⟨y2a, y2b⟩ := al _ _ _ hgl' y2
      have y3 : wr.cell? ⟨g', off' + j * 8 + 3, none⟩ = some (.int .i64 l') := hy 3 _ (by omega) rfl
      obtain ⟨y3a, y3b⟩ := al _ _ _ hgl' y3
      have y4 : wr.cell? ⟨g', off' + j * 8 + 4, none⟩ = some (.int .i64 c') := hy 4 _ (by omega) rfl
      obtain ⟨y4a, y4b⟩ := al _ _ _ hgl' y4
      have y5 : wr.cell? ⟨g', off' + j * 8 + 5, none⟩ = some (.slice pa' pn' pc') := hy 5 _ (by omega) rfl
      obtain ⟨y5a, y5b⟩ := al _ _ _ hgl' y5
      have y6 : wr.cell? ⟨g', off' + j * 8 + 6, none⟩ = some (.bool nd) := hy 6 _ (by omega) rfl
      obtain ⟨y6a, y6b⟩ := al _ _ _ hgl' y6
      have y7 : wr.cell? ⟨g', off' + j * 8 + 7, none⟩ = some (.string ⟨nt.toArray⟩) := hy 7 _ (by omega) rfl
      obtain ⟨y7a, y7b⟩ := al _ _ _ hgl' y7
      obtain ⟨t2a, t2b⟩ := al _ _ _ hb1l t2
      obtain ⟨u2a, u2b⟩ := al _ _ _ hb2l u2
      have hal := (((Below.refl wr.heap.size wr).alloc (Nat.le_refl _) (.cells #[.string ⟨ok.toArray⟩, .string ⟨on.toArray⟩, .int .i64 o, .int .i64 l, .int .i64 c, .slice pa pn pc, .bool nd, .string ⟨nt.toArray⟩] 71)).alloc (by simp) (.cells #[.string ⟨ok.toArray⟩, .string ⟨on.toArray⟩, .int .i64 o', .int .i64 l', .int .i64 c', .slice pa' pn' pc', .bool nd, .string ⟨nt.toArray⟩] 71)).drew
      have z1 : ((wr.alloc (.cells #[.string ⟨ok.toArray⟩, .string ⟨on.toArray⟩, .int .i64 o, .int .i64 l, .int .i64 c, .slice pa pn pc, .bool nd, .string ⟨nt.toArray⟩] 71)).alloc (.cells #[.string ⟨ok.toArray⟩, .string ⟨on.toArray⟩, .int .i64 o', .int .i64 l', .int .i64 c', .slice pa' pn' pc', .bool nd, .string ⟨nt.toArray⟩] 71)).drew.heap[wr.heap.size]? = some (.cells #[.string ⟨ok.toArray⟩, .string ⟨on.toArray⟩, .int .i64 o, .int .i64 l, .int .i64 c, .slice pa pn pc, .bool nd, .string ⟨nt.toArray⟩] 71 (0, 0)) := heap2_0' wr _ _
      have z2 : ((wr.alloc (.cells #[.string ⟨ok.toArray⟩, .string ⟨on.toArray⟩, .int .i64 o, .int .i64 l, .int .i64 c, .slice pa pn pc, .bool nd, .string ⟨nt.toArray⟩] 71)).alloc (.cells #[.string ⟨ok.toArray⟩, .string ⟨on.toArray⟩, .int .i64 o', .int .i64 l', .int .i64 c', .slice pa' pn' pc', .bool nd, .string ⟨nt.toArray⟩] 71)).drew.heap[wr.heap.size + 1]? = some (.cells #[.string ⟨ok.toArray⟩, .string ⟨on.toArray⟩, .int .i64 o', .int .i64 l', .int .i64 c', .slice pa' pn' pc', .bool nd, .string ⟨nt.toArray⟩] 71 (0, 0)) := heap2_1' wr _ _
      have hal' := (((Below.refl wr.heap.size wr).alloc (Nat.le_refl _) (.cells #[.string ⟨ok.toArray⟩, .string ⟨on.toArray⟩, .int .i64 o', .int .i64 l', .int .i64 c', .slice pa' pn' pc', .bool nd, .string ⟨nt.toArray⟩] 71)).alloc (by simp) (.cells #[.string ⟨ok.toArray⟩, .string ⟨on.toArray⟩, .int .i64 o, .int .i64 l, .int .i64 c, .slice pa pn pc, .bool nd, .string ⟨nt.toArray⟩] 71)).drew
      have z2' : ((wr.alloc (.cells #[.string ⟨ok.toArray⟩, .string ⟨on.toArray⟩, .int .i64 o', .int .i64 l', .int .i64 c', .slice pa' pn' pc', .bool nd, .string ⟨nt.toArray⟩] 71)).alloc (.cells #[.string ⟨ok.toArray⟩, .string ⟨on.toArray⟩, .int .i64 o, .int .i64 l, .int .i64 c, .slice pa pn pc, .bool nd, .string ⟨nt.toArray⟩] 71)).drew.heap[wr.heap.size]? = some (.cells #[.string ⟨ok.toArray⟩, .string ⟨on.toArray⟩, .int .i64 o', .int .i64 l', .int .i64 c', .slice pa' pn' pc', .bool nd, .string ⟨nt.toArray⟩] 71 (0, 0)) := heap2_0' wr _ _
      have z1' : ((wr.alloc (.cells #[.string ⟨ok.toArray⟩, .string ⟨on.toArray⟩, .int .i64 o', .int .i64 l', .int .i64 c', .slice pa' pn' pc', .bool nd, .string ⟨nt.toArray⟩] 71)).alloc (.cells #[.string ⟨ok.toArray⟩, .string ⟨on.toArray⟩, .int .i64 o, .int .i64 l, .int .i64 c, .slice pa pn pc, .bool nd, .string ⟨nt.toArray⟩] 71)).drew.heap[wr.heap.size + 1]? = some (.cells #[.string ⟨ok.toArray⟩, .string ⟨on.toArray⟩, .int .i64 o, .int .i64 l, .int .i64 c, .slice pa pn pc, .bool nd, .string ⟨nt.toArray⟩] 71 (0, 0)) := heap2_1' wr _ _
      clear hx hy hc hc' hE hA hA' hp hp' hAp hAp' hSm al k1 k2 hb1l hb2l hgl hgl'
      have HS : Hid (sp = true → o = o' ∧ l = l' ∧ c = c') := hs
      clear hs
      go_wp2
      go_region
      · clear x0 x0a x0b x1 x1a x1b x2 x2a x2b x3 x3a x3b x4 x4a x4b x5 x5a x5b x6 x6a x6b x7 x7a x7b y0 y0a y0b y1 y1a y1b y2 y2a y2b y3 y3a y3b y4 y4a y4b y5 y5a y5b y6 y6a y6b y7 y7a y7b t2 u2 t2a t2b u2a u2b hal' z1' z2'
        generalize ((wr.alloc (.cells #[.string ⟨ok.toArray⟩, .string ⟨on.toArray⟩, .int .i64 o, .int .i64 l, .int .i64 c, .slice pa pn pc, .bool nd, .string ⟨nt.toArray⟩] 71)).alloc (.cells #[.string ⟨ok.toArray⟩, .string ⟨on.toArray⟩, .int .i64 o', .int .i64 l', .int .i64 c', .slice pa' pn' pc', .bool nd, .string ⟨nt.toArray⟩] 71)).drew = w2 at *
        obtain ⟨⟨a0, a1, a2, a3, a4, a5, a6, a7⟩, _⟩ := var8 z1
        obtain ⟨⟨b0, b1, b2, b3, b4, b5, b6, b7⟩, _⟩ := var8 z2
        have hbw2 := hbw.trans (hal.mono hbw.size)
        have cs2 := cs w2 hbw2
        have hb2 := hb.trans (hal.mono hb.size)
        clear z1 z2 hal cs hbw hbw2
        cases sp with
        | true =>
          obtain ⟨rfl, rfl, rfl⟩ := HS.out rfl
          clear HS
          go_wp2_with (go_at_call 28; refine cs2.mono ?_; rintro e w3 ⟨rfl, hb3⟩)
          have hb4 := hb2.trans (hb3.mono hb2.size)
          clear hb2 hb3 cs2
          go_wp2
          go_roundw
          case rel => exact ⟨j + 1, by omega, by go_num, hb4⟩
          case measure => simp [intOf]; omega
        | false =>
          clear HS
          go_wp2_with (go_at_call 28; refine cs2.mono ?_; rintro e w3 ⟨rfl, hb3⟩)
          have hb4 := hb2.trans (hb3.mono hb2.size)
          clear hb2 hb3 cs2
          go_wp2
          go_roundw
          case rel => exact ⟨j + 1, by omega, by go_num, hb4⟩
          case measure => simp [intOf]; omega
      · clear x0 x0a x0b x1 x1a x1b x2 x2a x2b x3 x3a x3b x4 x4a x4b x5 x5a x5b x6 x6a x6b x7 x7a x7b y0 y0a y0b y1 y1a y1b y2 y2a y2b y3 y3a y3b y4 y4a y4b y5 y5a y5b y6 y6a y6b y7 y7a y7b t2 u2 t2a t2b u2a u2b hal z1 z2
        generalize ((wr.alloc (.cells #[.string ⟨ok.toArray⟩, .string ⟨on.toArray⟩, .int .i64 o', .int .i64 l', .int .i64 c', .slice pa' pn' pc', .bool nd, .string ⟨nt.toArray⟩] 71)).alloc (.cells #[.string ⟨ok.toArray⟩, .string ⟨on.toArray⟩, .int .i64 o, .int .i64 l, .int .i64 c, .slice pa pn pc, .bool nd, .string ⟨nt.toArray⟩] 71)).drew = w2 at *
        obtain ⟨⟨a0, a1, a2, a3, a4, a5, a6, a7⟩, _⟩ := var8 z1'
        obtain ⟨⟨b0, b1, b2, b3, b4, b5, b6, b7⟩, _⟩ := var8 z2'
        have hbw2 := hbw.trans (hal'.mono hbw.size)
        have cs2 := cs w2 hbw2
        have hb2 := hb.trans (hal'.mono hb.size)
        clear z1' z2' hal' cs hbw hbw2
        cases sp with
        | true =>
          obtain ⟨rfl, rfl, rfl⟩ := HS.out rfl
          clear HS
          go_wp2_with (go_at_call 28; refine cs2.mono ?_; rintro e w3 ⟨rfl, hb3⟩)
          have hb4 := hb2.trans (hb3.mono hb2.size)
          clear hb2 hb3 cs2
          go_wp2
          go_roundw
          case rel => exact ⟨j + 1, by omega, by go_num, hb4⟩
          case measure => simp [intOf]; omega
        | false =>
          clear HS
          go_wp2_with (go_at_call 28; refine cs2.mono ?_; rintro e w3 ⟨rfl, hb3⟩)
          have hb4 := hb2.trans (hb3.mono hb2.size)
          clear hb2 hb3 cs2
          go_wp2
          go_roundw
          case rel => exact ⟨j + 1, by omega, by go_num, hb4⟩
          case measure => simp [intOf]; omega
    · have hlt' : ¬ (j : Int) < N := by omega
      clear hc hc' hE hA hA'
      go_wp2
      go_ret
      exact ⟨rfl, hbw⟩
set_option maxHeartbeats 1000000 in
theorem same_zero (w : World) (sp : Bool) (tv tc : List UInt8) (tnd : Bool) (tnt : List UInt8) (a a' : Option Addr) (cap cap' : Nat) :
    Calls Tryz.prog 22 #[.agg #[.string ⟨tv.toArray⟩, .string ⟨tc.toArray⟩, .slice a 0 cap, .bool tnd, .string ⟨tnt.toArray⟩], .agg #[.string ⟨tv.toArray⟩, .string ⟨tc.toArray⟩, .slice a' 0 cap', .bool tnd, .string ⟨tnt.toArray⟩], .bool sp] w fun e w' => e = .returned (.bool true) ∧ Below w.heap.size w w' := by
  go_enter Tryz.func22, Tryz.ntmps22
  go_wp2
  have hb0 := ((Below.refl w.heap.size w).alloc (Nat.le_refl _) (.cells #[.string ⟨tv.toArray⟩, .string ⟨tc.toArray⟩, .slice a 0 cap, .bool tnd, .string ⟨tnt.toArray⟩] 24)).alloc (by simp) (.cells #[.string ⟨tv.toArray⟩, .string ⟨tc.toArray⟩, .slice a' 0 cap', .bool tnd, .string ⟨tnt.toArray⟩] 24)
  have h1 := heap2_0' w (.cells #[.string ⟨tv.toArray⟩, .string ⟨tc.toArray⟩, .slice a 0 cap, .bool tnd, .string ⟨tnt.toArray⟩] 24) (.cells #[.string ⟨tv.toArray⟩, .string ⟨tc.toArray⟩, .slice a' 0 cap', .bool tnd, .string ⟨tnt.toArray⟩] 24)
  generalize ((w.alloc (.cells #[.string ⟨tv.toArray⟩, .string ⟨tc.toArray⟩, .slice a 0 cap, .bool tnd, .string ⟨tnt.toArray⟩] 24)).alloc (.cells #[.string ⟨tv.toArray⟩, .string ⟨tc.toArray⟩, .slice a' 0 cap', .bool tnd, .string ⟨tnt.toArray⟩] 24)) = w0 at *
  go_loopw [7] (fun i wr => i = .int .i64 0 ∧ Below w0.heap.size w0 wr) (fun _ _ => 0)
  case atStart => exact ⟨rfl, Below.refl _ _⟩
  case round =>
    obtain ⟨rfl, hb⟩ := hrel
    have k1 := (hb.block _ (heap_lt h1)).trans h1
    obtain ⟨⟨_, _, t2, _, _⟩, _⟩ := var5 k1
    have hbw := hb0.trans (hb.mono hb0.size)
    clear k1 h1 hb0 hb
    go_wp2
    go_ret
    exact ⟨rfl, hbw⟩
/-- Same, of two trees in memory. -/
theorem same_any (w : World) (sp : Bool) (t t' : Tr) (pv pv' : Value) (F F' : Nat → Prop) (h : ObjsAt w F pv t.objs) (h' : ObjsAt w F' pv' t'.objs) (h1 : t.version = t'.version) (h2 : t.cpu = t'.cpu) (h3 : t.noted = t'.noted) (h4 : t.note = t'.note)
    (hl : t.objs.length = t'.objs.length) (hE : ∀ (j : Nat) (a a' : Ob), t.objs[j]? = some a → t'.objs[j]? = some a' → SmO sp a a') :
    Calls Tryz.prog 22 #[.agg (trC t pv), .agg (trC t' pv'), .bool sp] w fun e w' => e = .returned (.bool true) ∧ Below w.heap.size w w' := by
  obtain ⟨tv, tc, tobs, tnd, tnt⟩ := t
  obtain ⟨tv', tc', tobs', tnd', tnt'⟩ := t'
  dsimp only at h1 h2 h3 h4 hl h h' hE
  subst h1 h2 h3 h4
  unfold trC
  cases h with
  | @nil a cap =>
    cases h' with
    | @nil a' cap' => exact same_zero w sp tv tc tnd tnt a a' cap cap'
    | @row g off cap' qs b c d e f =>
      have h0 : qs.length = 0 := by simpa using hl.symm
      rw [h0]
      exact same_zero w sp tv tc tnd tnt a _ cap cap'
  | @row g off cap qs b c d e f =>
    cases h' with
    | @nil a' cap' =>
      have h0 : qs.length = 0 := by simpa using hl
      rw [h0]
      exact same_zero w sp tv tc tnd tnt _ a' cap cap'
    | @row g' off' cap' qs' b' c' d' e' f' =>
      have hl2 : qs'.length = qs.length := by simpa using hl.symm
      rw [hl2]
      refine same_row w sp tv tc tnd tnt g off cap g' off' cap' qs qs' F F' c c' d d' qs.length rfl hl2 (Nat.le_trans e.1 e.2) f f' (fun j p p' hp hp' => ?_)
      exact hE j p.1 p'.1 (by rw [List.getElem?_map, hp]; rfl) (by rw [List.getElem?_map, hp']; rfl)
end Go.Proofs.YtlbgppijeoonjaaGreatDoor
