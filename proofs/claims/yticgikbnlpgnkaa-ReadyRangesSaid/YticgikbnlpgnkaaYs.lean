import Derived.Test.YticgikbnlpgnkaaYr
namespace Go.Proofs.Yticgikbnlpgnkaa
open Go.RowKit
set_option linter.unusedVariables false
set_option linter.unusedSimpArgs false

/-! ### The document's queue: Tail, Head, Take, All -/
theorem DQ.lenN {w : World} {D : Nat} {N Y : Nat → Prop} {rs : List Rr} (h : DQ w D N Y rs) : True := trivial
section
variable {w : World} {D : Nat} {N Y : Nat → Prop} {rs : List Rr}
theorem dTail_no (h : DQ w D N Y rs) {p : Int} (hp : Noway rs p) (hn : rs.length ≤ 64) (v : Int) : Calls Try.prog 17 #[dQ D, I p, I v] w fun e w' => e = .returned (I 130) ∧ w = w' := by
  obtain ⟨vr, vl, vh, ls, h⟩ := h
  have t := dput_no h hp hn v false
  clear h hp
  go_enter Try.func17, Try.ntmps17
  go_wp2_with (first | (go_at_call 38; refine t.mono ?_; rintro e w1 ⟨rfl, rfl⟩))
  go_ret
  exact ⟨rfl, rfl⟩
theorem dHead_no (h : DQ w D N Y rs) {p : Int} (hp : Noway rs p) (hn : rs.length ≤ 64) (v : Int) : Calls Try.prog 23 #[dQ D, I p, I v] w fun e w' => e = .returned (I 130) ∧ w = w' := by
  obtain ⟨vr, vl, vh, ls, h⟩ := h
  have t := dput_no h hp hn v true
  clear h hp
  go_enter Try.func23, Try.ntmps23
  go_wp2_with (first | (go_at_call 38; refine t.mono ?_; rintro e w1 ⟨rfl, rfl⟩))
  go_ret
  exact ⟨rfl, rfl⟩
theorem dTail_full (h : DQ w D N Y rs) {i : Nat} {x : Rr} (hi : rs[i]? = some x) (hF : Fall rs) (hn : rs.length ≤ 64) (hl : x.l.length = x.c) (v : Int) : Calls Try.prog 17 #[dQ D, I x.p, I v] w fun e w' => e = .returned (I 131) ∧ Below w.heap.size w w' := by
  obtain ⟨vr, vl, vh, ls, h⟩ := h
  have t := dput_full h hi hF hn hl v false
  clear h hi hF hl
  go_enter Try.func17, Try.ntmps17
  go_wp2_with (first | (go_at_call 38; refine t.mono ?_; rintro e w1 ⟨rfl, q, rfl⟩))
  go_ret
  exact ⟨rfl, below_drewN q (Below.refl _ _)⟩
theorem dHead_full (h : DQ w D N Y rs) {i : Nat} {x : Rr} (hi : rs[i]? = some x) (hF : Fall rs) (hn : rs.length ≤ 64) (hl : x.l.length = x.c) (v : Int) : Calls Try.prog 23 #[dQ D, I x.p, I v] w fun e w' => e = .returned (I 131) ∧ Below w.heap.size w w' := by
  obtain ⟨vr, vl, vh, ls, h⟩ := h
  have t := dput_full h hi hF hn hl v true
  clear h hi hF hl
  go_enter Try.func23, Try.ntmps23
  go_wp2_with (first | (go_at_call 38; refine t.mono ?_; rintro e w1 ⟨rfl, q, rfl⟩))
  go_ret
  exact ⟨rfl, below_drewN q (Below.refl _ _)⟩
theorem dTail_ok (h : DQ w D N Y rs) {i : Nat} {x : Rr} (hi : rs[i]? = some x) (hF : Fall rs) (hn : rs.length ≤ 64) (hN : ∀ b, N b → b < w.heap.size) (hl : x.l.length < x.c) (hc : x.c ≤ 65536) (hh : x.h ≤ 65536) (v : Int) : Calls Try.prog 17 #[dQ D, I x.p, I v] w fun e w' => e = .returned (I 0) ∧ DQ w' D N Y (rs.set i ⟨x.p, x.c, max x.h (x.l.length + 1), x.l ++ [v]⟩) ∧ Fz Y w w' := by
  obtain ⟨vr, vl, vh, ls, h⟩ := h
  have t := dput_tail h hi hF hn hN hl hc hh v
  clear h hi hF hl hN hc hh
  go_enter Try.func17, Try.ntmps17
  go_wp2_with (first | (go_at_call 38; refine t.mono ?_; rintro e w1 ⟨rfl, q, f⟩))
  go_ret
  exact ⟨rfl, q, f⟩
theorem dHead_ok (h : DQ w D N Y rs) {i : Nat} {x : Rr} (hi : rs[i]? = some x) (hF : Fall rs) (hn : rs.length ≤ 64) (hN : ∀ b, N b → b < w.heap.size) (hl : x.l.length < x.c) (hc : x.c ≤ 65536) (hh : x.h ≤ 65536) (v : Int) : Calls Try.prog 23 #[dQ D, I x.p, I v] w fun e w' => e = .returned (I 0) ∧ DQ w' D N Y (rs.set i ⟨x.p, x.c, max x.h (x.l.length + 1), v :: x.l⟩) ∧ Fz Y w w' := by
  obtain ⟨vr, vl, vh, ls, h⟩ := h
  have t := dput_head h hi hF hn hN hl hc hh v
  clear h hi hF hl hN hc hh
  go_enter Try.func23, Try.ntmps23
  go_wp2_with (first | (go_at_call 38; refine t.mono ?_; rintro e w1 ⟨rfl, q, f⟩))
  go_ret
  exact ⟨rfl, q, f⟩
theorem eTake_no (h : DQ w D N Y rs) (h0 : ∀ (i : Nat) (r : Rr), rs[i]? = some r → r.l = []) (hn : rs.length ≤ 64) : Calls Try.prog 20 #[dQ D] w fun e w' => e = .returned (.tuple #[qV 0 0, I 132]) ∧ Below w.heap.size w w' := by
  obtain ⟨vr, vl, vh, ls, h⟩ := h
  have b1 := below_alloc w (.cells #[.int .i64 0, .int .i64 0] 35)
  have t := dHighest_no (h.below b1) h0 hn
  clear h h0
  go_enter Try.func20, Try.ntmps20
  go_wp2_with (first | (go_at_call 41; refine t.mono ?_; rintro e w1 ⟨rfl, rfl⟩))
  exact bodyPost_ret (v := .tuple #[qV 0 0, I 132]) (by simp [results, Try.results20, go_sem]) rfl ⟨rfl, b1⟩
end
/-- s[1:] -/
theorem sl_one {w : World} {s : Sl} {v : Int} {t : List Int} (h : RowsAt w 1 inP s (v :: t)) : ∃ (g off : Nat) (s' : Sl), s.a = some ⟨g, off, none⟩ ∧ w.cell? ⟨g, off, none⟩ = some (I v) ∧ (∀ wx, (Instr.slice 76 (.slice (some ⟨g, off, none⟩) (t.length + 1) s.c) (some (I 1)) none none).run Try.prog wx = .ok (.slice s'.a s'.n s'.c) wx) ∧ s'.n = t.length ∧ RowsAt w 1 inP s' t ∧ ∀ g2 off2, s'.a = some ⟨g2, off2, none⟩ → g2 = g := by
  obtain ⟨sa, sn, sc⟩ := s
  have hn : sn = t.length + 1 := by have := h.n; simpa using this
  subst hn
  have hcc := h.c
  have hmm := h.m
  simp only at hcc hmm
  obtain ⟨g, off, e, hg, hr⟩ := h.row 0 v rfl
  simp only at e
  subst e
  obtain ⟨u, hu, hp⟩ := hr 0 (by decide)
  cases hp
  have hR : ∀ wx, (Instr.slice 76 (.slice (some ⟨g, off, none⟩) (t.length + 1) sc) (some (I 1)) none none).run Try.prog wx = .ok (.slice (some ⟨g, if sc = 1 then off else off + 1, none⟩) t.length (sc - 1)) wx := fun wx => by
    rw [run_slice_l wx 76 _ (t.length + 1) sc iundS .i64 1 (by omega) (by omega), ielem_sz]
    have e1 : (1 : Int).toNat = 1 := rfl
    simp only [Result.andThen, sliced, e1, Option.map_some, Nat.mul_one, addr_add, Nat.add_sub_cancel]
    by_cases hs : sc = 1
    · simp [hs]
    · simp [hs]
  refine ⟨g, off, ⟨some ⟨g, if sc = 1 then off else off + 1, none⟩, t.length, sc - 1⟩, rfl, by simpa using hu, hR, rfl, ⟨rfl, (show t.length ≤ sc - 1 by omega), (show sc - 1 ≤ maxLen by omega), fun j x hj => ?_⟩, fun g2 off2 e => ?_⟩
  · have hlt := (List.getElem?_eq_some_iff.1 hj).1
    have hs : ¬ sc = 1 := by omega
    obtain ⟨g2, off2, e2, hg2, hr2⟩ := h.row (j + 1) x (by simpa using hj)
    simp only at e2
    cases e2
    refine ⟨g, off + 1, by simp [hs], hg2, fun i hi => ?_⟩
    obtain ⟨u2, hu2, hp2⟩ := hr2 i hi
    refine ⟨u2, ?_, hp2⟩
    rw [← hu2]
    congr 2
    omega
  · simp only [Option.some.injEq, Addr.mk.injEq] at e
    exact e.1.symm
section
variable {w : World} {D : Nat} {N Y : Nat → Prop} {rs : List Rr}
set_option maxRecDepth 100000 in
set_option maxHeartbeats 4000000 in
theorem eTake_ok (h : DQ w D N Y rs) {i : Nat} {x : Rr} {v : Int} {t : List Int} (hi : rs[i]? = some x) (hl : x.l = v :: t) (hj : ∀ (j : Nat) (b : Rr), j < i → rs[j]? = some b → b.l = []) (hF : Fall rs) (hn : rs.length ≤ 64) : Calls Try.prog 20 #[dQ D] w fun e w' => e = .returned (.tuple #[qV x.p v, I 0]) ∧ DQ w' D N Y (rs.set i ⟨x.p, x.c, x.h, t⟩) ∧ Fz Y w w' := by
  obtain ⟨vr, vl, vh, ls, h⟩ := h
  have b1 := below_alloc w (.cells #[.int .i64 0, .int .i64 0] 35)
  have hR0 := heap_alloc_new w (.cells #[.int .i64 0, .int .i64 0] 35)
  have h1 := h.below b1
  have t1 := dHighest_ok h1 hi (by rw [hl]; simp) hj hn
  have t2 := dfind_ok h1 hi hF hn
  have hlt := (List.getElem?_eq_some_iff.1 hi).1
  have hi1 : ¬ (i : Int) < 0 := by omega
  have hiI : (i : Int) < rs.length := by omega
  obtain ⟨-, c1, -⟩ := h1.cells
  obtain ⟨g, c, s, hvl, hs, hcl, hz, hr⟩ := h1.lAt hi
  rw [hl] at hr
  obtain ⟨sg, so, s', hsa, hcv, hsl, hsn', hr', hsb⟩ := sl_one hr
  have hsn := hr.n
  obtain ⟨D2, F2⟩ := h1.setL hi hvl hr' (fun b off e => by
    obtain rfl := hsb b off e
    exact (h1.s i x s hi hs).2 b so hsa)
  have HD : Hid (DV _ D N Y _ vr vl vh _ ∧ Fz Y _ _) := ⟨D2, F2⟩
  obtain ⟨sa, sn, sc⟩ := s
  simp only at hsn hsa
  subst hsa
  have hsn2 : sn = t.length + 1 := by simpa using hsn
  subst hsn2
  obtain ⟨sa', sn', sc'⟩ := s'
  simp only at hsn'
  subst hsn'
  simp only at hsl hcl
  change Hid (DV ((w.alloc (.cells #[.int .i64 0, .int .i64 0] 35)).setCell ⟨g, i, none⟩ (.slice sa' t.length sc')) D N Y _ vr vl vh _ ∧ Fz Y (w.alloc (.cells #[.int .i64 0, .int .i64 0] 35)) ((w.alloc (.cells #[.int .i64 0, .int .i64 0] 35)).setCell ⟨g, i, none⟩ (.slice sa' t.length sc'))) at HD
  have hgR : g ≠ w.heap.size := by
    obtain ⟨cg, hcg⟩ := own_blk h.l (g := g) (by rw [hvl]; rfl)
    have := heap_lt hcg
    omega
  have hYw : ∀ b, Y b → b < w.heap.size := fun b hb => (h.yn b hb).1
  have hpos : (0 : Int) < ((t.length + 1 : Nat) : Int) := by omega
  have hzi := hz i
  rw [hvl] at c1
  clear D2 F2 h h1 hi hj hF hvl hs hr hr' hsb hl hz hsn
  have HR : Hid ((w.alloc (.cells #[.int .i64 0, .int .i64 0] 35)).heap[w.heap.size]? = some (.cells #[.int .i64 0, .int .i64 0] 35)) := hR0
  have HB : Hid (Below w.heap.size w (w.alloc (.cells #[.int .i64 0, .int .i64 0] 35))) := b1
  clear hR0 b1
  obtain ⟨W, hW⟩ : ∃ W, w.alloc (.cells #[.int .i64 0, .int .i64 0] 35) = W := ⟨_, rfl⟩
  have t3 := t1.mono (R' := fun e w' => e = .returned (.tuple #[I x.p, .bool true]) ∧ W = w') (fun e w' ⟨k1, k2⟩ => ⟨k1, hW.symm.trans k2⟩)
  rw [hW] at t2 c1 hcl hcv hzi HD HR HB
  clear t1 hW
  go_enter Try.func20, Try.ntmps20
  go_wp2_with (first
    | (go_at_call 41; refine t3.mono ?_; clear t3; rintro e w1 ⟨rfl, rfl⟩)
    | (go_at_call 42; refine t2.mono ?_; clear t2; rintro e w1 ⟨rfl, rfl⟩))
  go_region
  all_goals
    have HR2 : ((W.setCell ⟨g, i, none⟩ (.slice sa' t.length sc')).drew).heap[w.heap.size]? = some (.cells #[.int .i64 0, .int .i64 0] 35) := (heap_setCell_other W ⟨g, i, none⟩ w.heap.size _ (fun e => hgR e.symm)).trans HR.out
    have D3 := HD.out.1.below ((Below.refl _ _).drew)
    have F3 : Fz Y w ((W.setCell ⟨g, i, none⟩ (.slice sa' t.length sc')).drew) := ((Fz.of_below HB.out).trans HD.out.2).drewN 1
    clear c1 hcl hcv hzi HD HR HB hsl
    generalize (W.setCell ⟨g, i, none⟩ (.slice sa' t.length sc')).drew = W3 at *
    have z0 : W3.frozen? ⟨w.heap.size, 0, none⟩ = false := frozen_of_row _ _ 0 _ _ HR2
    have z1 : W3.frozen? ⟨w.heap.size, 1, none⟩ = false := frozen_of_row _ _ 1 _ _ HR2
    have y0 : W3.cell? ⟨w.heap.size, 0, none⟩ = some (.int .i64 0) := by rw [cell_of_row _ _ _ _ _ (0, 0) HR2]; rfl
    have y1 : W3.cell? ⟨w.heap.size, 1, none⟩ = some (.int .i64 0) := by rw [cell_of_row _ _ _ _ _ (0, 0) HR2]; rfl
    have hF4 : Fz (fun b => b = w.heap.size) W3 ((W3.setCell ⟨w.heap.size, 0, none⟩ (I x.p)).setCell ⟨w.heap.size, 1, none⟩ (I v)) := ((Fz.refl (fun b => b = w.heap.size) W3).set (b := w.heap.size) (.inl rfl) 0 _).set (b := w.heap.size) (.inl rfl) 1 _
    have hq := heap_setCell_same _ w.heap.size 1 _ _ (I v) (heap_setCell_same W3 w.heap.size 0 _ _ (I x.p) HR2)
    have e5 : ((W3.setCell ⟨w.heap.size, 0, none⟩ (I x.p)).setCell ⟨w.heap.size, 1, none⟩ (I v)).cell? ⟨w.heap.size, 0, none⟩ = some (I x.p) := by rw [cell_of_row _ _ _ _ _ (0, 0) hq]; rfl
    have e6 : ((W3.setCell ⟨w.heap.size, 0, none⟩ (I x.p)).setCell ⟨w.heap.size, 1, none⟩ (I v)).cell? ⟨w.heap.size, 1, none⟩ = some (I v) := by rw [cell_of_row _ _ _ _ _ (0, 0) hq]; rfl
    have D5 := D3.kept hF4 (ty_ne D3.o HR2 (by decide)) (fun b hb e => by
      obtain ⟨cb, hcb⟩ := own_blk D3.r hb
      exact ty_ne hcb HR2 (by decide) e) (fun b hb e => by have := hYw b hb; omega) (fun j s b off hs e e2 => by
      obtain ⟨y, hy⟩ := D3.ls_of hs
      obtain ⟨_, _, cs, hcs⟩ := (D3.s j y s hy hs).2 b off e
      exact ty_ne hcs HR2 (by decide) e2)
    clear HR2 hq D3
    go_wp2
    refine bodyPost_ret (v := .tuple #[qV x.p v, I 0]) (by simp [results, Try.results20, go_sem, e5, e6]) rfl ⟨rfl, ⟨_, _, _, _, D5⟩, F3.step hF4 (fun b e => .inr (by omega))⟩
end
end Go.Proofs.Yticgikbnlpgnkaa
