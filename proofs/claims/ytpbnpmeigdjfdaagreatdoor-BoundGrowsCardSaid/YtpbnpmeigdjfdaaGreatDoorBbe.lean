import Derived.Test.YtpbnpmeigdjfdaaGreatDoorBbc
import Derived.Deep.RegionHeldLaw
namespace Go.Proofs.YtpbnpmeigdjfdaaGreatDoor
open Go.RowKit Go.Sort
set_option linter.unusedSimpArgs false
set_option linter.unusedVariables false
set_option maxHeartbeats 16000000
set_option maxRecDepth 100000
def bring (r : Nat) (x : Nat × Nat) : Nat := (r + x.2 - 1) / x.2 * x.1
def totN (rs : List (Nat × Nat)) (r : Nat) : Nat := (rs.map (bring r)).sum
def needN (own : Nat) (rs : List (Nat × Nat)) (r : Nat) : Nat := own + totN rs r
def rvP (x : Nat × Nat) (i : Nat) (u : Value) : Prop := match i with | 0 => u = U x.1 | _ => u = U x.2
def RvOK (rs : List (Nat × Nat)) : Prop := ∀ x ∈ rs, x.1 ≤ 2147483647 ∧ 1 ≤ x.2 ∧ x.2 ≤ 2147483647
theorem rv_at {w : World} {s : Sl} {l : List (Nat × Nat)} (h : RowsAt w 2 rvP s l) {j : Nat} {x : Nat × Nat} (hj : l[j]? = some x) : ∃ g off, s.a = some ⟨g, off, none⟩ ∧ g < w.heap.size ∧ w.cell? ⟨g, off + j * 2, none⟩ = some (U x.1) ∧ w.cell? ⟨g, off + j * 2 + 1, none⟩ = some (U x.2) := by
 obtain ⟨g, off, e, hg, hr⟩ := h.row j x hj
 obtain ⟨u0, a0, b0⟩ := hr 0 (by omega)
 have e0 : u0 = U x.1 := b0
 rw [e0] at a0
 obtain ⟨u1, a1, b1⟩ := hr 1 (by omega)
 have e1 : u1 = U x.2 := b1
 rw [e1] at a1
 rw [Nat.add_zero] at a0
 exact ⟨g, off, e, hg, a0, a1⟩
theorem totN_take {rs : List (Nat × Nat)} {j : Nat} {x : Nat × Nat} (h : rs[j]? = some x) (r : Nat) : totN (rs.take (j + 1)) r = totN (rs.take j) r + bring r x := by
 unfold totN
 rw [List.take_add_one, h, Option.toList_some, List.map_append, List.sum_append]
 simp
theorem bring_le {r : Nat} {x : Nat × Nat} (hr : r ≤ 1000000) (hx : x.1 ≤ 2147483647 ∧ 1 ≤ x.2 ∧ x.2 ≤ 2147483647) : (r + x.2 - 1) / x.2 ≤ 1000000 ∧ bring r x ≤ 2147483647000000 := by
 have h1 : (r + x.2 - 1) / x.2 ≤ 1000000 := by
  have : (r + x.2 - 1) / x.2 < r + 1 := by
   rw [Nat.div_lt_iff_lt_mul (by omega)]
   have : (r + 1) * x.2 = r * x.2 + x.2 := by rw [Nat.add_mul, Nat.one_mul]
   have h2 : r * 1 ≤ r * x.2 := Nat.mul_le_mul_left r hx.2.1
   omega
  omega
 refine ⟨h1, ?_⟩
 unfold bring
 exact Nat.mul_le_mul h1 hx.1
theorem heap_keptB {w w' : World} {r : Option Nat} {g : Nat} {o : Obj} (h : w.heap[g]? = some o) (hg : w.grownBy w' r) (hne : some g ≠ r) : w'.heap[g]? = some o := (hg.block g (heap_lt h) hne).trans h
theorem heap_keptD {w w' : World} {r : Option Nat} {g : Nat} {o : Obj} (h : w.heap[g]? = some o) (hg : w.grownBy w' r) (hne : some g ≠ r) : w'.drew.heap[g]? = some o := by
 have := heap_keptB (w' := w') h hg hne
 exact this
theorem lay_any (w : World) (k s lim : Nat) (B L : Nat) (t : TypeId) (hB : w.cell? ⟨B, 0, none⟩ = some (U s)) (hf : w.frozen? ⟨B, 0, none⟩ = false) (hL : w.cell? ⟨L, 0, none⟩ = some (U lim)) (hs : s + k < 18446744073709551616) (hl : lim < 10000000) :
  Calls Tryz.prog 63 #[U k, .pointer (some ⟨B, 0, none⟩), .pointer (some ⟨L, 0, none⟩)] w fun e w' => e = .returned (.tuple #[]) ∧ w' = w.setCell ⟨B, 0, none⟩ (U (min (s + k) (lim + 1))) := by
 go_enter Tryz.func63, Tryz.ntmps63
 go_wp2
 all_goals
  (first
   | rw [show ((s : Int) + (k : Int)) = ((min (s + k) (lim + 1) : Nat) : Int) by omega]
   | rw [show ((lim : Int) + 1) = ((min (s + k) (lim + 1) : Nat) : Int) by omega])
  exact bodyPost_end (v := .tuple #[]) (by simp [results, Tryz.results63, go_sem]) rfl ⟨rfl, rfl⟩
theorem needed_any (w : World) (own : Nat) (s : Sl) (rs : List (Nat × Nat)) (h : RowsAt w 2 rvP s rs) (hk : RvOK rs) (time lim : Nat) (ht : time ≤ lim) (hl : lim ≤ 1000000) (ho : own ≤ lim) :
  Calls Tryz.prog 47 #[U own, .slice s.a s.n s.c, U time, U lim] w fun e w' => e = .returned (U (min (needN own rs time) (lim + 1))) ∧ Below w.heap.size w w' := by
 obtain ⟨sa, sn, sc⟩ := s
 have HN : Hid (sn = rs.length) := h.n
 have hc : sn ≤ sc := h.c
 have hm : sc ≤ maxLen := h.m
 dsimp only
 unfold maxLen at hm
 have HH : Hid (RowsAt w 2 rvP ⟨sa, sn, sc⟩ rs) := h
 have HK : Hid (RvOK rs) := hk
 have hb2 : Below w.heap.size w ((w.alloc (.cells #[U lim] 38)).alloc (.cells #[U own] 38)) := ((Below.refl w.heap.size w).alloc (Nat.le_refl _) _).alloc (by simp) _
 have hV0 := heap_two0 w (.cells #[U lim] 38) (.cells #[U own] 38)
 have hV1 := heap_two w (.cells #[U lim] 38) (.cells #[U own] 38)
 have hsz2 : Hid (((w.alloc (.cells #[U lim] 38)).alloc (.cells #[U own] 38)).heap.size = w.heap.size + 2) := by show _ = _; simp
 go_enter Tryz.func47, Tryz.ntmps47
 go_upto_region 3 with fail
 generalize hW2 : (w.alloc (.cells #[U lim] 38)).alloc (.cells #[U own] 38) = W2 at *
 clear hW2
 have HS0 : Hid (w.heap.size + 2 ≤ W2.heap.size) := by show _ ≤ _; rw [hsz2.out]; exact Nat.le_refl _
 have H0 : Hid (Below w.heap.size w W2 ∧ w.heap.size + 2 ≤ W2.heap.size ∧ W2.heap[w.heap.size]? = some (.cells #[U lim] 38 (0, 0)) ∧ W2.heap[w.heap.size + 1]? = some (.cells #[U (min (own + totN (rs.take 0) time) (lim + 1))] 38 (0, 0))) := by
  refine ⟨hb2, HS0.out, hV0, ?_⟩
  rw [hV1, show min (own + totN (rs.take 0) time) (lim + 1) = own by unfold totN; simp; omega]
 clear hb2 hV0 hV1 hsz2 HS0 h hk
 go_wp2
 go_loopw [12, 17] (fun _ iv wr => ∃ j : Nat, j ≤ sn ∧ iv = .int .i64 j ∧ Hid (Below w.heap.size w wr ∧ w.heap.size + 2 ≤ wr.heap.size ∧ wr.heap[w.heap.size]? = some (.cells #[U lim] 38 (0, 0)) ∧ wr.heap[w.heap.size + 1]? = some (.cells #[U (min (own + totN (rs.take j) time) (lim + 1))] 38 (0, 0)))) (fun _ iv _ => sn - (intOf iv).toNat)
 case atStart => exact ⟨0, by omega, rfl, H0.out⟩
 case round =>
  clear H0
  obtain ⟨j, hj, rfl, HJ⟩ := hrel
  by_cases hlt : j < sn
  ·have hlt' : (j : Int) < sn := by omega
   obtain ⟨x, hx⟩ : ∃ x, rs[j]? = some x := ⟨_, List.getElem?_eq_getElem (by rw [← HN.out]; exact hlt)⟩
   obtain ⟨hB, hsz, hL, hS⟩ := HJ.out
   obtain ⟨g, off, e, hg, a0, a1⟩ := rv_at (HH.out.belowS hB) hx
   dsimp only at e
   have hng : g ≠ wr.heap.size := Nat.ne_of_lt hg
   have hxo := HK.out x (List.mem_of_getElem? hx)
   have HTN := totN_take hx time
   obtain ⟨rsj, hrsj⟩ : ∃ r9, r9 = rs.take (j + 1) := ⟨_, rfl⟩
   rw [← hrsj] at HTN
   have HRJ : Hid (rsj = rs.take (j + 1)) := hrsj
   clear hrsj
   obtain ⟨S0, hS0⟩ : ∃ S0, S0 = min (own + totN (rs.take j) time) (lim + 1) := ⟨_, rfl⟩
   rw [← hS0] at hS
   have HNX : Hid (min (S0 + bring time x) (lim + 1) = min (own + totN rsj time) (lim + 1)) := by show _ = _; rw [hS0, HTN]; omega
   have hS1 : S0 ≤ 1000001 := by omega
   have hal := below_alloc wr (.cells #[U x.1, U x.2] 115)
   have H3 : Hid (Below w.heap.size w (wr.alloc (.cells #[U x.1, U x.2] 115)) ∧ w.heap.size + 2 ≤ wr.heap.size ∧ (wr.alloc (.cells #[U x.1, U x.2] 115)).heap[w.heap.size]? = some (.cells #[U lim] 38 (0, 0)) ∧ (wr.alloc (.cells #[U x.1, U x.2] 115)).heap[w.heap.size + 1]? = some (.cells #[U S0] 38 (0, 0)) ∧ (wr.alloc (.cells #[U x.1, U x.2] 115)).heap[wr.heap.size]? = some (.cells #[U x.1, U x.2] 115 (0, 0)) ∧ (wr.alloc (.cells #[U x.1, U x.2] 115)).heap.size = wr.heap.size + 1) := ⟨hB.trans (hal.mono hB.size), hsz, (hal.block _ (heap_lt hL)).trans hL, (hal.block _ (heap_lt hS)).trans hS, heap_alloc_new _ _, by simp⟩
   have hbr := bring_le (r := time) (by omega) hxo
   obtain ⟨xw, xe⟩ := x
   unfold bring at *
   dsimp only at *
   subst e
   clear hx HJ hal hB hL hS hS0 HTN
   go_upto_region 6 with fail
   clear a0 a1 hng hg
   generalize wr.alloc (.cells #[U xw, U xe] 115) = w3 at *
   generalize wr.heap.size = T at *
   obtain ⟨hB3, hsz3, hL3, hS3, hT3, hz3⟩ := H3.out
   have c0 := cell_at3 hT3 0
   have c1 := cell_at3 hT3 1
   simp at c0 c1
   have k0 := cell_at3 hS3 0
   have k1 := cell_at3 hL3 0
   simp at k0 k1
   have kf := frozen_of_row w3 (w.heap.size + 1) 0 _ _ hS3
   have hwr : IntKind.u64.wrap (((time : Int) + (xe : Int) - 1) / (xe : Int) * (xw : Int)) = (((time + xe - 1) / xe * xw : Nat) : Int) := by
    rw [show ((time : Int) + (xe : Int) - 1) = ((time + xe - 1 : Nat) : Int) by omega, Int.natCast_mul, Int.natCast_ediv, ← Int.natCast_ediv, ← Int.natCast_mul, IntKind.wrap_u64]
    generalize (time + xe - 1) / xe * xw = q at *
    omega
   have KL : Hid (∀ W, W.cell? ⟨w.heap.size + 1, 0, none⟩ = some (U S0) → W.frozen? ⟨w.heap.size + 1, 0, none⟩ = false → W.cell? ⟨w.heap.size, 0, none⟩ = some (U lim) → Calls Tryz.prog 63 #[.int .u64 (IntKind.u64.wrap (((time : Int) + (xe : Int) - 1) / (xe : Int) * (xw : Int))), .pointer (some ⟨w.heap.size + 1, 0, none⟩), .pointer (some ⟨w.heap.size, 0, none⟩)] W fun e w' => e = .returned (.tuple #[]) ∧ w' = W.setCell ⟨w.heap.size + 1, 0, none⟩ (U (min (own + totN rsj time) (lim + 1)))) := fun W h1 h2 h3 => by
    rw [hwr, ← HNX.out]
    exact lay_any W _ S0 lim _ _ 38 h1 h2 h3 (by omega) (by omega)
   have HTB : Hid (T ≠ w.heap.size + 1) := by show _ ≠ _; omega
   have HT : T ≠ w.heap.size + 1 := HTB.out
   have HBW : Hid (Below w.heap.size w ((w3.setCell ⟨w.heap.size + 1, 0, none⟩ (U (min (own + totN rsj time) (lim + 1)))).drew) ∧ w.heap.size + 2 ≤ ((w3.setCell ⟨w.heap.size + 1, 0, none⟩ (U (min (own + totN rsj time) (lim + 1)))).drew).heap.size ∧ ((w3.setCell ⟨w.heap.size + 1, 0, none⟩ (U (min (own + totN rsj time) (lim + 1)))).drew).heap[w.heap.size]? = some (.cells #[U lim] 38 (0, 0)) ∧ ((w3.setCell ⟨w.heap.size + 1, 0, none⟩ (U (min (own + totN rsj time) (lim + 1)))).drew).heap[w.heap.size + 1]? = some (.cells #[U (min (own + totN rsj time) (lim + 1))] 38 (0, 0))) := by
    have hg := grown_set w3 (w.heap.size + 1) 0 (U (min (own + totN rsj time) (lim + 1)))
    exact ⟨(hB3.grown hg hB3.size (fun k e => by cases e; omega)).drew, by show _ ≤ (w3.setCell _ _).heap.size; simp; omega, heap_keptD hL3 hg (fun e => by have := Option.some.inj e; omega), heap_setCell_same w3 _ 0 _ _ _ hS3⟩
   have HSK : ((w3.setCell ⟨w.heap.size + 1, 0, none⟩ (U (min (own + totN rsj time) (lim + 1)))).drew).cell? ⟨T, 0, none⟩ = some (U xw) ∧ ((w3.setCell ⟨w.heap.size + 1, 0, none⟩ (U (min (own + totN rsj time) (lim + 1)))).drew).cell? ⟨T, 1, none⟩ = some (U xe) := by
    have hg := grown_set w3 (w.heap.size + 1) 0 (U (min (own + totN rsj time) (lim + 1)))
    have q : ((w3.setCell ⟨w.heap.size + 1, 0, none⟩ (U (min (own + totN rsj time) (lim + 1)))).drew).heap[T]? = some (.cells #[U xw, U xe] 115 (0, 0)) := heap_keptD hT3 hg (fun e => by have := Option.some.inj e; omega)
    have c0 := cell_at3 q 0
    have c1 := cell_at3 q 1
    simp at c0 c1
    exact ⟨c0, c1⟩
   clear hbr hwr HNX hB3 hsz3 hL3 hS3 hT3 hz3 H3
   obtain ⟨S1, hS1⟩ : ∃ S1, S1 = min (own + totN rsj time) (lim + 1) := ⟨_, rfl⟩
   rw [← hS1] at KL HBW HSK
   have HS1 : Hid (S1 = min (own + totN rsj time) (lim + 1)) := hS1
   clear hS1
   generalize hBB : w.heap.size + 1 = B at *
   go_region_held_law (fun W' => W'.cell? ⟨T, 0, none⟩ = some (U xw) ∧ W'.cell? ⟨T, 1, none⟩ = some (U xe)) (first | exact ⟨c0, c1⟩ | exact HSK | (go_keep; done)) (first
    | (go_at_call 63; refine (KL.out _ (by first | exact k0 | (go_keep; done)) (by first | exact kf | (go_keep; done)) (by first | exact k1 | (go_keep; done))).mono ?_; rintro e w4 ⟨rfl, rfl⟩))
   clear KL c0 c1 k0 k1 kf HSK
   generalize ((w3.setCell ⟨B, 0, none⟩ (U S1)).drew) = w5 at *
   go_wp2
   subst hBB
   go_roundw
   case rel => exact ⟨j + 1, by omega, by go_num, by show _ ∧ _ ∧ _ ∧ _; rw [← HRJ.out, ← HS1.out]; exact HBW.out⟩
   case measure => simp [intOf]; omega
  ·obtain rfl : j = sn := by omega
   have hlt' : ¬ (j : Int) < j := by omega
   obtain ⟨hB, hsz, hL, hS⟩ := HJ.out
   rw [List.take_of_length_le (by rw [← HN.out]; exact Nat.le_refl _)] at hS
   have k0 := cell_at3 hS 0
   simp at k0
   have HB : Hid (Below w.heap.size w wr) := hB
   have HE : Hid (min (needN own rs time) (lim + 1) = min (own + totN rs time) (lim + 1)) := rfl
   clear HJ hB hL hS hsz
   generalize min (own + totN rs time) (lim + 1) = S1 at *
   go_wp2
   go_ret
   exact ⟨by rw [HE.out]; rfl, HB.out⟩
def wst (own : Nat) (rs : List (Nat × Nat)) (lim : Nat) : Nat × Bool := match (List.range (lim + 1)).find? (fun r => needN own rs r == r) with | some r => (r, true) | none => (0, false)
theorem bring_mono {r s : Nat} (x : Nat × Nat) (h : r ≤ s) : bring r x ≤ bring s x := Nat.mul_le_mul_right _ (Nat.div_le_div_right (by omega))
theorem tot_mono {r s : Nat} (rs : List (Nat × Nat)) (h : r ≤ s) : totN rs r ≤ totN rs s := by
 unfold totN
 induction rs with
 | nil => exact Nat.le_refl _
 | cons x l ih =>
  simp only [List.map_cons, List.sum_cons]
  exact Nat.add_le_add (bring_mono x h) ih
theorem need_mono {own : Nat} {rs : List (Nat × Nat)} {r s : Nat} (h : r ≤ s) : needN own rs r ≤ needN own rs s := Nat.add_le_add_left (tot_mono rs h) _
theorem find_range {p : Nat → Bool} {n : Nat} : (List.range n).find? p = none ↔ ∀ r, r < n → p r = false := by
 rw [List.find?_eq_none]
 constructor
 ·intro h r hr
  have := h r (List.mem_range.2 hr)
  simpa using this
 ·intro h r hr
  have := h r (List.mem_range.1 hr)
  simp [this]
theorem find_range_some {p : Nat → Bool} {n r : Nat} (hr : r < n) (hp : p r = true) (hl : ∀ q, q < r → p q = false) : (List.range n).find? p = some r := by
 rw [List.find?_eq_some_iff_append]
 refine ⟨hp, List.range r, (List.range n).drop (r + 1), ?_, fun q hq => by have := hl q (List.mem_range.1 hq); simp [this]⟩
 have h1 := List.take_append_drop r (List.range n)
 rw [List.drop_eq_getElem_cons (by simpa using hr)] at h1
 simp only [List.getElem_range] at h1
 rw [List.take_range, Nat.min_eq_left (by omega)] at h1
 exact h1.symm
structure Way (own : Nat) (rs : List (Nat × Nat)) (t : Nat) : Prop where
 l : ∀ r, needN own rs r = r → t ≤ r
 u : t ≤ needN own rs t
theorem Way.start (own : Nat) (rs : List (Nat × Nat)) : Way own rs own := ⟨fun r h => by unfold needN at h; omega, by unfold needN; omega⟩
theorem Way.next {own : Nat} {rs : List (Nat × Nat)} {t : Nat} (h : Way own rs t) : Way own rs (needN own rs t) := ⟨fun r hr => by rw [← hr]; exact need_mono (h.l r hr), need_mono h.u⟩
theorem Way.met {own : Nat} {rs : List (Nat × Nat)} {t lim : Nat} (h : Way own rs t) (ht : t ≤ lim) (he : needN own rs t = t) : wst own rs lim = (t, true) := by
 unfold wst
 rw [find_range_some (r := t) (by omega) (by simpa using he) (fun q hq => by
  have : needN own rs q ≠ q := fun e => by have := h.l q e; omega
  simpa using this)]
theorem Way.over {own : Nat} {rs : List (Nat × Nat)} {t lim : Nat} (h : Way own rs t) (ht : lim < t) : wst own rs lim = (0, false) := by
 unfold wst
 rw [find_range.2 (fun q hq => by
  have : needN own rs q ≠ q := fun e => by have := h.l q e; omega
  simpa using this)]
structure WayC (own : Nat) (rs : List (Nat × Nat)) (lim t : Nat) : Prop where
 w : t ≤ lim → Way own rs t
 o : lim < t → wst own rs lim = (0, false)
theorem WayC.start (own : Nat) (rs : List (Nat × Nat)) (lim : Nat) : WayC own rs lim own := ⟨fun _ => Way.start _ _, fun h => (Way.start own rs).over h⟩
theorem WayC.next {own : Nat} {rs : List (Nat × Nat)} {lim t : Nat} (h : WayC own rs lim t) (ht : t ≤ lim) : WayC own rs lim (min (needN own rs t) (lim + 1)) :=
 ⟨fun h2 => by rw [show min (needN own rs t) (lim + 1) = needN own rs t by omega]; exact (h.w ht).next, fun h2 => (h.w ht).next.over (by omega)⟩
theorem WayC.met {own : Nat} {rs : List (Nat × Nat)} {lim t : Nat} (h : WayC own rs lim t) (ht : t ≤ lim) (he : min (needN own rs t) (lim + 1) = t) : wst own rs lim = (t, true) := (h.w ht).met ht (by omega)
theorem worst_any (w : World) (own : Nat) (s : Sl) (rs : List (Nat × Nat)) (h : RowsAt w 2 rvP s rs) (hk : RvOK rs) (lim : Nat) (hl : lim ≤ 1000000) :
  Calls Tryz.prog 33 #[U own, .slice s.a s.n s.c, U lim] w fun e w' => e = .returned (.tuple #[U (wst own rs lim).1, .bool (wst own rs lim).2]) ∧ Below w.heap.size w w' := by
 have KN : Hid (∀ W, Below w.heap.size w W → ∀ time, time ≤ lim → own ≤ lim → Calls Tryz.prog 47 #[U own, .slice s.a s.n s.c, U time, U lim] W fun e w' => e = .returned (U (min (needN own rs time) (lim + 1))) ∧ Below W.heap.size W w') := fun W hW time ht ho => needed_any W own s rs (h.belowS hW) hk time lim ht hl ho
 have H0 : Hid (WayC own rs lim own) := WayC.start own rs lim
 clear h hk
 go_enter Tryz.func33, Tryz.ntmps33
 go_upto_region 2 with fail
 go_loopw [8, 9] (fun tv _ wr => ∃ t : Nat, t ≤ lim + 1 + own ∧ tv = .int .u64 t ∧ Hid (WayC own rs lim t ∧ own ≤ t ∧ Below w.heap.size w wr)) (fun tv _ _ => lim + 1 + own - (intOf tv).toNat)
 case atStart => exact ⟨own, by omega, rfl, H0.out, Nat.le_refl _, Below.refl _ _⟩
 case round =>
  clear H0
  obtain ⟨t, ht, rfl, HJ⟩ := hrel
  obtain ⟨hW, hot, hB⟩ := HJ.out
  by_cases hlt : t ≤ lim
  ·have hlt' : (t : Int) ≤ lim := by omega
   have k1 := KN.out _ hB t hlt (by omega)
   have HNX := hW.next hlt
   have HWM : Hid (min (needN own rs t) (lim + 1) = t → wst own rs lim = (t, true)) := fun e => hW.met hlt e
   have hup : t ≤ min (needN own rs t) (lim + 1) := by have := (hW.w hlt).u; omega
   have hmx : min (needN own rs t) (lim + 1) ≤ lim + 1 := by omega
   have HBB : Hid (Below w.heap.size w wr) := hB
   clear HJ hW hB
   generalize min (needN own rs t) (lim + 1) = n at *
   have HNX' : Hid (WayC own rs lim n) := HNX
   clear HNX
   by_cases he : n = t
   ·have he' : ((n : Int) == (t : Int)) = true := by simp [he]
    have HX : Hid (wst own rs lim = (t, true)) := HWM.out he
    clear HWM HNX' he
    go_wp2_with (first | (go_at_call 47; refine k1.mono ?_; clear k1; rintro e w1 ⟨rfl, hb1⟩))
    go_ret2
    exact ⟨by rw [HX.out]; rfl, HBB.out.trans (hb1.mono HBB.out.size)⟩
   ·have he' : ((n : Int) == (t : Int)) = false := by simp; omega
    clear HWM
    go_wp2_with (first | (go_at_call 47; refine k1.mono ?_; clear k1; rintro e w1 ⟨rfl, hb1⟩))
    have HB1 : Hid (Below w.heap.size w w1) := HBB.out.trans (hb1.mono HBB.out.size)
    clear hb1
    go_roundw
    case rel => exact ⟨n, by omega, rfl, HNX'.out, by omega, HB1.out⟩
    case measure => simp [intOf]; omega
  ·have hlt' : ¬ (t : Int) ≤ lim := by omega
   have HX : Hid (wst own rs lim = (0, false)) := hW.o (by omega)
   have HBB : Hid (Below w.heap.size w wr) := hB
   clear HJ hW hB
   go_wp2
   go_ret2
   exact ⟨by rw [HX.out]; rfl, HBB.out⟩
end Go.Proofs.YtpbnpmeigdjfdaaGreatDoor
