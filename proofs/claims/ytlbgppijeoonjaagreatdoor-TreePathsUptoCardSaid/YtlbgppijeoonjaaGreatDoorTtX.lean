import Derived.Test.YtlbgppijeoonjaaGreatDoorTat
import Derived.Deep.RegionHeldLaw
namespace Go.Proofs.YtlbgppijeoonjaaGreatDoor
open Go.RowKit
set_option linter.unusedVariables false

set_option maxRecDepth 100000 in
theorem attrs_zero (d : Nat) (a : Option Addr) (cap : Nat) (w : World) : Calls Tryz.prog 38 #[.slice a 0 cap, .int .i64 (d : Int)] w fun e w' => ∃ v, e = .returned v ∧ OwnT w' w.heap.size v [] ∧ Below w.heap.size w w' := by
  go_enter Tryz.func38, Tryz.ntmps38
  go_wp2
  go_loopw [6, 5] (fun i v wr => i = .int .i64 0 ∧ v = .slice none 0 0 ∧ wr = w) (fun i _ _ => 0)
  case atStart => exact ⟨rfl, rfl, rfl⟩
  case round =>
    obtain ⟨rfl, rfl, rfl⟩ := hrel
    go_wp2
    go_ret
    exact ⟨_, rfl, ⟨by rfl, .inl ⟨rfl, rfl⟩⟩, Below.refl _ _⟩
theorem attrT_pos (d : Nat) (a : At) : 1 ≤ (attrT d a).length := by
  obtain ⟨name, o, ln, c, v, br, ps, nd, nt⟩ := a
  rw [attrT]
  simp
theorem attrsT_len (d : Nat) (l : List At) : l.length ≤ (attrsT d l).length := by
  induction l with
  | nil => simp
  | cons a l ih =>
    have := attrT_pos d a
    rw [attrsT, List.length_append, List.length_cons]
    omega
theorem attrsT_par (d : Nat) (l : List At) (a : At) (ha : a ∈ l) (hb : a.br = true) : (attrsT (d + 1) a.params).length + 5 ≤ (attrsT d l).length := by
  obtain ⟨l1, l2, rfl⟩ := List.append_of_mem ha
  obtain ⟨name, o, ln, c, v, br, ps, nd, nt⟩ := a
  have hb' : br = true := hb
  subst hb'
  rw [attrsT_app, attrsT, attrT, List.length_append, List.length_append]
  show (attrsT (d + 1) ps).length + 5 ≤ _
  simp
  omega
theorem attrs_all (n : Nat) : ∀ (d : Nat) (l : List At), (attrsT d l).length ≤ n → d + (attrsT d l).length ≤ 1099511627776 → CAts d l := by
  induction n with
  | zero =>
    intro d l hn hd w F pv hA
    cases hA with
    | nil => exact attrs_zero d _ _ w
    | @row g off cap ps _ _ _ _ _ =>
      have := attrsT_len d (ps.map Prod.fst)
      have h0 : ps = [] := by
        apply List.eq_nil_of_length_eq_zero
        rw [List.length_map] at this
        omega
      subst h0
      exact attrs_zero d _ _ w
  | succ n ih =>
    intro d l hn hd w F pv hA
    cases hA with
    | nil => exact attrs_zero d _ _ w
    | @row g off cap ps hF hg hc hcap hP =>
      have hlen := attrsT_len d (ps.map Prod.fst)
      rw [List.length_map] at hlen
      have hI : ∀ p, p ∈ ps → p.1.br = true → CAts (d + 1) p.1.params := fun p hp hb => by
        have := attrsT_par d (ps.map Prod.fst) p.1 (List.mem_map.2 ⟨p, hp, rfl⟩) hb
        exact ih (d + 1) p.1.params (by omega) (by omega)
      by_cases h4 : d = 4
      · subst h4
        exact attrs_row4 w F g off cap ps hg hc ps.length rfl hP hI hd (by omega)
      · exact attrs_row d w F g off cap ps hg hc ps.length rfl hP hI hd (by omega) h4
theorem attrs_c (d : Nat) (l : List At) (h : d + (attrsT d l).length ≤ 1099511627776) : CAts d l := attrs_all _ d l (Nat.le_refl _) h
end Go.Proofs.YtlbgppijeoonjaaGreatDoor

namespace Go.Proofs.YtlbgppijeoonjaaGreatDoor
open Go.RowKit
set_option linter.unusedVariables false

/-! ### The law's tokens of a whole tree -/
theorem objsT_app (a b : List Ob) : objsT (a ++ b) = objsT a ++ objsT b := by
  induction a with
  | nil => rfl
  | cons x a ih => rw [List.cons_append, objsT, objsT, ih, List.append_assoc]
theorem objsT_take (l : List Ob) (j : Nat) (a : Ob) (h : l[j]? = some a) : objsT (l.take (j + 1)) = objsT (l.take j) ++ objT a := by
  rw [List.take_add_one, h, objsT_app]
  show _ ++ objsT [a] = _
  rw [objsT, objsT, List.append_nil]
theorem objsT_le (l : List Ob) (j : Nat) : (objsT (l.take j)).length ≤ (objsT l).length := by
  conv => rhs; rw [← List.take_append_drop j l, objsT_app, List.length_append]
  omega
theorem st_eq {w W : World} {L : List (Nat × Obj)} {v : Value} {xs ys : List Tz} (h : xs = ys) (hS : St w W L v ys) : St w W L v xs := by rw [h]; exact hS
theorem noted_pos (nd : Bool) (nt : List UInt8) : 1 ≤ (notedT nd nt).length := by
  unfold notedT
  split
  · simp
  · split <;> simp
theorem keep1 {w W : World} {g g' : Nat} {O O' : Obj} {v : Value} {xs : List Tz} (h : St w W [(g, O), (g', O')] v xs) : W.heap[g]? = some O := (h.keep g O (by simp)).1
theorem keep2 {w W : World} {g g' : Nat} {O O' : Obj} {v : Value} {xs : List Tz} (h : St w W [(g, O), (g', O')] v xs) : W.heap[g']? = some O' := (h.keep g' O' (by simp)).1
theorem keep0 {w W : World} {g : Nat} {O : Obj} {v : Value} {xs : List Tz} (h : St w W [(g, O)] v xs) : W.heap[g]? = some O := (h.keep g O (by simp)).1
set_option maxHeartbeats 8000000 in
set_option maxRecDepth 100000 in
theorem tokens_any (w : World) (F : Nat → Prop) (tv tc : List UInt8) (tnd : Bool) (tnt : List UInt8) (oa : Option Addr) (ocap N : Nat) (qs : List (Ob × Value)) (hl : qs.length = N)
    (hrow : ∀ j q, qs[j]? = some q → ∃ g off, oa = some ⟨g, off, none⟩ ∧ g < w.heap.size ∧ ∀ i u, i < 8 → (obC q.1 q.2)[i]? = some u → w.cell? ⟨g, off + j * 8 + i, none⟩ = some u)
    (hA : ∀ q, q ∈ qs → AttrsAt w F q.2 q.1.attrs) (hN : N ≤ 1099511627776) (hb1 : (objsT (qs.map Prod.fst)).length + 20 ≤ 1099511627776) :
    Calls Tryz.prog 18 #[.agg #[.string ⟨tv.toArray⟩, .string ⟨tc.toArray⟩, .slice oa N ocap, .bool tnd, .string ⟨tnt.toArray⟩]] w fun e w' => ∃ v, e = .returned v ∧ OwnT w' w.heap.size v ([zN oilV, zM 6, ⟨3, tv, 0, false⟩, zM 7, zN cpuW, zN tc, zM 4] ++ objsT (qs.map Prod.fst) ++ [zM 5] ++ notedT tnd tnt) ∧ Below w.heap.size w w' := by
  have HX : Hid (qs.length = N) := hl
  have hN2 : (N : Int) ≤ 9223372036854775807 := by omega
  have hNt := noted_len tnd tnt
  clear hl
  go_enter Tryz.func18, Tryz.ntmps18
  go_wp2
  have hV0 := heap_alloc_new w (.cells #[.string ⟨tv.toArray⟩, .string ⟨tc.toArray⟩, .slice oa N ocap, .bool tnd, .string ⟨tnt.toArray⟩] 24)
  have hB0 := (Below.refl w.heap.size w).alloc (Nat.le_refl _) (.cells #[.string ⟨tv.toArray⟩, .string ⟨tc.toArray⟩, .slice oa N ocap, .bool tnd, .string ⟨tnt.toArray⟩] 24)
  have hsz0 : w.heap.size < (w.alloc (.cells #[.string ⟨tv.toArray⟩, .string ⟨tc.toArray⟩, .slice oa N ocap, .bool tnd, .string ⟨tnt.toArray⟩] 24)).heap.size := by simp
  generalize w.alloc (.cells #[.string ⟨tv.toArray⟩, .string ⟨tc.toArray⟩, .slice oa N ocap, .bool tnd, .string ⟨tnt.toArray⟩] 24) = W0 at *
  have kS : ∀ W, Below W0.heap.size W0 W → W.cell? ⟨w.heap.size, 0, none⟩ = some (.string ⟨tv.toArray⟩) ∧ W.cell? ⟨w.heap.size, 1, none⟩ = some (.string ⟨tc.toArray⟩) := fun W hW => by
    obtain ⟨⟨q0, q1, q2, q3, q4⟩, fq⟩ := var5 ((hW.block _ (heap_lt hV0)).trans hV0)
    exact ⟨q0, q1⟩
  obtain ⟨b0, b1⟩ := kS W0 (Below.refl _ _)
  have hbz : Below W0.heap.size W0 W0.drew := (Below.refl W0.heap.size W0).drew
  go_region_held_law (fun w' => w'.cell? ⟨w.heap.size, 0, none⟩ = some (.string ⟨tv.toArray⟩) ∧ w'.cell? ⟨w.heap.size, 1, none⟩ = some (.string ⟨tc.toArray⟩))
    (first | exact ⟨b0, b1⟩ | exact kS _ hbz | exact kS _ (hbz.alloc hbz.size _) | exact kS _ (below_drewN (Below.refl _ _) _) | (go_keep; done))
    (first
      | (go_at_call 36; refine (name_c _ _).mono ?_; rintro e wz ⟨rfl, hz⟩; have hbz := hbz.trans (hz.mono hbz.size))
      | (go_at_call 37; refine (mark_c _ _).mono ?_; rintro e wz ⟨rfl, hz⟩; have hbz := hbz.trans (hz.mono hbz.size)))
  have hS0 : St w (wz.alloc (.cells (tzsL [zN oilV, zM 6, ⟨3, tv, 0, false⟩, zM 7, zN cpuW, zN tc, zM 4]).toArray 57)) [(w.heap.size, .cells #[.string ⟨tv.toArray⟩, .string ⟨tc.toArray⟩, .slice oa N ocap, .bool tnd, .string ⟨tnt.toArray⟩] 24 (0, 0))] (.slice (some ⟨wz.heap.size, 0, none⟩) 7 7) [zN oilV, zM 6, ⟨3, tv, 0, false⟩, zM 7, zN cpuW, zN tc, zM 4] := by
    have hBz := hB0.trans (hbz.mono hB0.size)
    have hal := (Below.refl wz.heap.size wz).alloc (Nat.le_refl _) (.cells (tzsL [zN oilV, zM 6, ⟨3, tv, 0, false⟩, zM 7, zN cpuW, zN tc, zM 4]).toArray 57)
    refine ⟨World.ownsRow_lit (base := w.heap.size) (e := 57) (size := 7) wz _ 7 hBz.size (by decide) rfl, hBz.trans (hal.mono hBz.size), fun g O h => ?_⟩
    simp at h
    obtain ⟨rfl, rfl⟩ := h
    have hVz := (hbz.block _ (heap_lt hV0)).trans hV0
    exact ⟨(hal.block _ (heap_lt hVz)).trans hVz, fun e => by simp [Value.ownBlock] at e; have := hbz.size; omega⟩
  clear hbz kS b0 b1 hV0 hB0 hsz0
  go_wp2
  go_loopw [4, 3] (fun i v wr => ∃ j : Nat, j ≤ N ∧ i = .int .i64 j ∧ St w wr [(w.heap.size, .cells #[.string ⟨tv.toArray⟩, .string ⟨tc.toArray⟩, .slice oa N ocap, .bool tnd, .string ⟨tnt.toArray⟩] 24 (0, 0))] v ([zN oilV, zM 6, ⟨3, tv, 0, false⟩, zM 7, zN cpuW, zN tc, zM 4] ++ objsT ((qs.map Prod.fst).take j))) (fun i _ _ => N - (intOf i).toNat)
  case atStart => exact ⟨0, by omega, rfl, st_eq (by simp [objsT]) hS0⟩
  case round =>
    clear hS0
    obtain ⟨j, hj, rfl, hSt⟩ := hrel
    obtain ⟨⟨k0, k1, k2, k3, k4⟩, fk⟩ := var5 (keep0 hSt)
    by_cases hlt : j < N
    · have hlt' : (j : Int) < N := by omega
      have hj0 : (0 : Int) ≤ j := by omega
      obtain ⟨q, hq⟩ : ∃ x, qs[j]? = some x := ⟨qs[j]'(by rw [HX.out]; exact hlt), List.getElem?_eq_getElem _⟩
      have hAq := hA q (List.mem_of_getElem? hq)
      have hbel := hSt.below
      obtain ⟨g, off, rfl, hg, hc⟩ := hrow j q hq
      have hx : ∀ i u, i < 8 → (obC q.1 q.2)[i]? = some u → wr.cell? ⟨g, off + j * 8 + i, none⟩ = some u := fun i u hi hu => by
        rw [cell_below hbel _ _ hg]
        exact hc i u hi hu
      have hnext := objsT_take (qs.map Prod.fst) j q.1 (by rw [List.getElem?_map, hq]; rfl)
      have hle := objsT_le (qs.map Prod.fst) (j + 1)
      rw [hnext, List.length_append] at hle
      have HNX : Hid (objsT ((qs.map Prod.fst).take (j + 1)) = objsT ((qs.map Prod.fst).take j) ++ objT q.1) := hnext
      clear hnext hc hrow hA hq
      generalize objsT ((qs.map Prod.fst).take j) = ys at *
      generalize hxs : [zN oilV, zM 6, ⟨3, tv, 0, false⟩, zM 7, zN cpuW, zN tc, zM 4] ++ ys = xs at *
      have HXS : Hid ([zN oilV, zM 6, ⟨3, tv, 0, false⟩, zM 7, zN cpuW, zN tc, zM 4] ++ ys = xs) := hxs
      have hxl : xs.length = ys.length + 7 := by rw [← hxs]; simp
      clear hxs
      obtain ⟨⟨ok, on, oo, ol, oc, oat, ond, ont⟩, pv⟩ := q
      obtain ⟨pa, pn, pc, rfl⟩ := attrsAt_shape hAq
      dsimp only at hAq hle HNX
      have hlo : (attrsT 0 oat).length + 5 ≤ (objT ⟨ok, on, oo, ol, oc, oat, ond, ont⟩).length := by unfold objT; simp; have := noted_pos ond ont; omega
      have hNl := noted_len ond ont
      have hXl : xs.length + (attrsT 0 oat).length ≤ 1099511627776 := by omega
      have cA : ∀ W, Below w.heap.size w W → Calls Tryz.prog 38 #[.slice pa pn pc, .int .i64 0] W fun e w' => ∃ v, e = .returned v ∧ OwnT w' W.heap.size v (attrsT 0 oat) ∧ Below W.heap.size W w' := fun W hW => attrs_c 0 oat (by omega) W F _ (attrsAt_below hW hAq)
      have x0 : wr.cell? ⟨g, off + j * 8, none⟩ = some (.string ⟨ok.toArray⟩) := hx 0 _ (by omega) rfl
      have x1 : wr.cell? ⟨g, off + j * 8 + 1, none⟩ = some (.string ⟨on.toArray⟩) := hx 1 _ (by omega) rfl
      have x2 : wr.cell? ⟨g, off + j * 8 + 2, none⟩ = some (.int .i64 oo) := hx 2 _ (by omega) rfl
      have x3 : wr.cell? ⟨g, off + j * 8 + 3, none⟩ = some (.int .i64 ol) := hx 3 _ (by omega) rfl
      have x4 : wr.cell? ⟨g, off + j * 8 + 4, none⟩ = some (.int .i64 oc) := hx 4 _ (by omega) rfl
      have x5 : wr.cell? ⟨g, off + j * 8 + 5, none⟩ = some (.slice pa pn pc) := hx 5 _ (by omega) rfl
      have x6 : wr.cell? ⟨g, off + j * 8 + 6, none⟩ = some (.bool ond) := hx 6 _ (by omega) rfl
      have x7 : wr.cell? ⟨g, off + j * 8 + 7, none⟩ = some (.string ⟨ont.toArray⟩) := hx 7 _ (by omega) rfl
      obtain ⟨av, cv, rfl⟩ := own_shape7 hSt.own
      clear hx hAq HX hle hlo
      have HXL : Hid (xs.length = ys.length + 7) := hxl
      clear hxl
      go_wp2
      have hV0 := heap_alloc_new wr (.cells #[.string ⟨ok.toArray⟩, .string ⟨on.toArray⟩, .int .i64 oo, .int .i64 ol, .int .i64 oc, .slice pa pn pc, .bool ond, .string ⟨ont.toArray⟩] 71)
      have hal := (Below.refl wr.heap.size wr).alloc (Nat.le_refl _) (.cells #[.string ⟨ok.toArray⟩, .string ⟨on.toArray⟩, .int .i64 oo, .int .i64 ol, .int .i64 oc, .slice pa pn pc, .bool ond, .string ⟨ont.toArray⟩] 71)
      have hS0 : St w (wr.alloc (.cells #[.string ⟨ok.toArray⟩, .string ⟨on.toArray⟩, .int .i64 oo, .int .i64 ol, .int .i64 oc, .slice pa pn pc, .bool ond, .string ⟨ont.toArray⟩] 71)) [(wr.heap.size, .cells #[.string ⟨ok.toArray⟩, .string ⟨on.toArray⟩, .int .i64 oo, .int .i64 ol, .int .i64 oc, .slice pa pn pc, .bool ond, .string ⟨ont.toArray⟩] 71 (0, 0)), (w.heap.size, .cells #[.string ⟨tv.toArray⟩, .string ⟨tc.toArray⟩, .slice (some ⟨g, off, none⟩) N ocap, .bool tnd, .string ⟨tnt.toArray⟩] 24 (0, 0))] (.slice av xs.length cv) xs := by
        refine ⟨own_below hSt.own hal, hbel.trans (hal.mono hbel.size), fun g O h => ?_⟩
        simp at h
        rcases h with ⟨rfl, rfl⟩ | ⟨rfl, rfl⟩
        · exact ⟨hV0, fun e => by have := (hSt.own.lt _ e).2; omega⟩
        · exact ⟨(hal.block _ (heap_lt (keep0 hSt))).trans (keep0 hSt), (hSt.keep _ _ (List.mem_singleton.2 rfl)).2⟩
      clear x0 x1 x2 x3 x4 x5 x6 x7 hV0 hal hbel hSt k0 k1 k2 k3 k4 fk
      generalize wr.alloc (.cells #[.string ⟨ok.toArray⟩, .string ⟨on.toArray⟩, .int .i64 oo, .int .i64 ol, .int .i64 oc, .slice pa pn pc, .bool ond, .string ⟨ont.toArray⟩] 71) = W0 at *
      generalize wr.heap.size = b at *
      have hV0 := keep1 hS0
      have kS : ∀ W, Below W0.heap.size W0 W → W.cell? ⟨b, 0, none⟩ = some (.string ⟨ok.toArray⟩) ∧ W.cell? ⟨b, 1, none⟩ = some (.string ⟨on.toArray⟩) := fun W hW => by
        obtain ⟨⟨q0, q1, q2, q3, q4, q5, q6, q7⟩, fq⟩ := var8 ((hW.block _ (heap_lt hV0)).trans hV0)
        exact ⟨q0, q1⟩
      obtain ⟨b0, b1⟩ := kS W0 (Below.refl _ _)
      have hbz : Below W0.heap.size W0 W0.drew := (Below.refl W0.heap.size W0).drew
      go_region_held_law (fun w' => w'.cell? ⟨b, 0, none⟩ = some (.string ⟨ok.toArray⟩) ∧ w'.cell? ⟨b, 1, none⟩ = some (.string ⟨on.toArray⟩))
        (first | exact ⟨b0, b1⟩ | exact kS4 | exact kS _ hbz | exact kS _ (hbz.alloc hbz.size _) | exact kS _ (below_drewN (Below.refl _ _) _) | (go_keep; done))
        (first
          | (go_at_call 36; refine (name_c _ _).mono ?_; rintro e wz ⟨rfl, hz⟩; have hbz := hbz.trans (hz.mono hbz.size))
          | (go_at_call 37; refine (mark_c _ _).mono ?_; rintro e wz ⟨rfl, hz⟩; have hbz := hbz.trans (hz.mono hbz.size))
          | (refine step_app_lit rfl _ _ rfl (hS0.call hbz) rfl [zN ok, zN on, zM 4] _ rfl 3 rfl (by simp; omega) ?_; intro v4 w4 hS4; have kS4 := (fun (h : _ ∧ _) => (⟨h.1.1, h.1.2.1⟩ : w4.cell? ⟨b, 0, none⟩ = some (.string ⟨ok.toArray⟩) ∧ w4.cell? ⟨b, 1, none⟩ = some (.string ⟨on.toArray⟩))) (var8 (keep1 hS4))))
      clear b0 b1 kS kS4 hbz hS0 hV0
      obtain ⟨⟨q0, q1, q2, q3, q4, q5, q6, q7⟩, fq⟩ := var8 (keep1 hS4)
      go_wp2_with (first | (go_at_call 38; refine (cA _ hS4.below).mono ?_; rintro e u5 ⟨pv5, rfl, hO5, hu5⟩; have hT5 := hS4.call hu5) | (at_builtin; refine wpList_app_own rfl _ _ rfl hT5 rfl (attrsT 0 oat) _ hO5 rfl (by simp; omega) ?_))
      intro v5 w5 hS5
      clear q0 q1 q2 q3 q4 q5 q6 q7 fq hT5 hu5 hS4
      obtain ⟨⟨q0, q1, q2, q3, q4, q5, q6, q7⟩, fq⟩ := var8 (keep1 hS5)
      go_wp2_with (first | (go_at_call 37; refine (mark_c _ _).mono ?_; rintro e u6 ⟨rfl, hu6⟩; have hT6 := hS5.call hu6) | (at_builtin; refine wpList_app_lit rfl _ _ rfl hT6 rfl [zM 5] _ rfl 1 rfl (by simp; omega) ?_))
      intro v6 w6 hS6
      clear q0 q1 q2 q3 q4 q5 q6 q7 fq hT6 hu6 hS5
      obtain ⟨⟨q0, q1, q2, q3, q4, q5, q6, q7⟩, fq⟩ := var8 (keep1 hS6)
      go_wp2_with (first | (go_at_call 39; refine (noted_c _ _ _).mono ?_; rintro e u7 ⟨pv7, rfl, hO7, hu7⟩; have hT7 := hS6.call hu7) | (at_builtin; refine wpList_app_own rfl _ _ rfl hT7 rfl (notedT ond ont) _ hO7 rfl (by simp; omega) ?_))
      intro v7 w7 hS7
      clear q0 q1 q2 q3 q4 q5 q6 q7 fq hT7 hu7 hS6
      obtain ⟨⟨q0, q1, q2, q3, q4, q5, q6, q7⟩, fq⟩ := var8 (keep1 hS7)
      go_wp2
      go_roundw
      case rel =>
        refine ⟨j + 1, by omega, by go_num, st_eq (by rw [HNX.out, ← List.append_assoc, HXS.out]; unfold objT; simp) ⟨hS7.own, hS7.below, fun g O h => hS7.keep g O (List.mem_cons_of_mem _ h)⟩⟩
      case measure => simp [intOf]; omega
    · have hlt' : ¬ (j : Int) < N := by omega
      obtain rfl : j = N := by omega
      have hS4 := hSt
      rw [List.take_of_length_le (by rw [List.length_map, HX.out]; exact Nat.le_refl _)] at hS4
      clear hSt hrow hA
      generalize hys : objsT (qs.map Prod.fst) = ys at *
      have HYS : Hid (objsT (qs.map Prod.fst) = ys) := hys
      clear hys
      go_wp2_with (first | (go_at_call 37; refine (mark_c _ _).mono ?_; rintro e u5 ⟨rfl, hu5⟩; have hT5 := hS4.call hu5) | (at_builtin; refine wpList_app_lit rfl _ _ rfl hT5 rfl [zM 5] _ rfl 1 rfl (by simp; omega) ?_))
      intro v5 w5 hS5
      clear k0 k1 k2 k3 k4 fk hT5 hu5 hS4
      obtain ⟨⟨k0, k1, k2, k3, k4⟩, fk⟩ := var5 (keep0 hS5)
      go_wp2_with (first | (go_at_call 39; refine (noted_c _ _ _).mono ?_; rintro e u6 ⟨pv6, rfl, hO6, hu6⟩; have hT6 := hS5.call hu6) | (at_builtin; refine wpList_app_own rfl _ _ rfl hT6 rfl (notedT tnd tnt) _ hO6 rfl (by simp; omega) ?_))
      intro v6 w6 hS6
      go_wp2
      go_ret
      exact ⟨_, rfl, own_eq (by rw [HYS.out]; simp) hS6.own, hS6.below⟩
end Go.Proofs.YtlbgppijeoonjaaGreatDoor

