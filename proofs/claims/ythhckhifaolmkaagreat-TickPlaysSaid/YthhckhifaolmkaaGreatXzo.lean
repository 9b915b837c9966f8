import Derived.Test.YthhckhifaolmkaaGreatXXzn
import Derived.Test.YthhckhifaolmkaaGreatXw
namespace Go.Proofs.YthhckhifaolmkaaGreat
open Go.RowKit Go.Maps Go.Shelf Go.Sort
open Go.Proofs.YthhckhifaolmkaaGreat.Cl (Fx Fz Ck Cb Alm psA dueA dueF U Q cP own_sl own_some own_below own_base inL ret_bool ret_int heap_lt iinfo cell_one_new take_snoc aftN)
set_option linter.unusedVariables false
set_option linter.unusedSimpArgs false
set_option maxRecDepth 100000
set_option maxHeartbeats 8000000
section
variable {W0 w w' : World} {tb : Tb} {v : Ts} {B P : Nat} {p : Pl} {zn : Nat → Nat} {vv va vr : Sl} {s : Bs}
def DzQ (W0 : World) (tb : Tb) (v : Ts) (B P : Nat) (p : Pl) (zn : Nat → Nat) (e : Ending) (w' : World) : Prop := e = .returned (.bool true) ∧ ∃ vv' va' vr' s', Bt W0 w' tb v B P p zn vv' va' vr' s' s'
theorem fzP {w1 w' : World} (h : Fz (Wr zn) w1 w') : Fz (Nb zn P vv va vr) w1 w' := h.mono (fun _ e => .inl e)
theorem fzD {w1 w' : World} (h : Fz (Dm P vv va vr) w1 w') : Fz (Nb zn P vv va vr) w1 w' := h.mono (fun _ e => .inr e)
theorem tckL_len (tb : Tb) (s : Bs) (t : Int) (h : tb.als.length ≤ 64) : (tckL tb s t).length ≤ 65 := by
  unfold tckL
  split
  · simp
  · have := List.length_filter_le (fun j => dueA 1 (s.a j)) (idxA tb t.toNat)
    have := idxA_len tb t.toNat
    unfold expL
    omega
theorem bas_agg (tb : Tb) (t : Int) : ∃ a b c : Int, basV tb t = .agg #[U a, U b, U c] := by
  unfold basV
  split
  · exact ⟨_, _, _, rfl⟩
  · exact ⟨_, _, _, rfl⟩
theorem does_4 (h : Bt W0 w tb v B P p zn vv va vr s s) (x : Ca) (ha : x.a < 4294967296) (hb' : x.b < 4294967296) : Calls Tryz.prog 21 #[bP B, bP P, .agg #[I 4, I x.n, U x.a, U x.b, .bool x.g.shut, I x.g.all, I x.g.os]] w (DzQ W0 tb v B P p zn) := by
  have hb := below_alloc w (.cells #[I 4, I x.n, U x.a, U x.b, .bool x.g.shut, I x.g.all, I x.g.os] 48)
  have hV := heap_alloc_new w (.cells #[I 4, I x.n, U x.a, U x.b, .bool x.g.shut, I x.g.all, I x.g.os] 48)
  have h1 := h.below hb
  have HX : Hid (¬ Nb zn P vv va vr w.heap.size) := fun e => by have := h.lt e; omega
  have hq : OKq s.q := h.b.q
  have hna : tb.als.length ≤ 64 := h.b.ok.na
  have HST0 : Hid (∀ W', Fz (Nb zn P vv va vr) (w.alloc (.cells #[I 4, I x.n, U x.a, U x.b, .bool x.g.shut, I x.g.all, I x.g.os] 48)) W' → (fun X => W'.cell? ⟨X, 0, none⟩ = some (I 4) ∧ W'.cell? ⟨X, 1, none⟩ = some (I x.n) ∧ W'.cell? ⟨X, 2, none⟩ = some (U x.a) ∧ W'.cell? ⟨X, 3, none⟩ = some (U x.b) ∧ W'.cell? ⟨X, 4, none⟩ = some (.bool x.g.shut) ∧ W'.cell? ⟨X, 5, none⟩ = some (I x.g.all) ∧ W'.cell? ⟨X, 6, none⟩ = some (I x.g.os)) w.heap.size) := fun W' hf => by
    have hq := hf.heap hV HX.out
    refine ⟨?_, ?_, ?_, ?_, ?_, ?_, ?_⟩ <;> (rw [cell_of_row _ _ _ _ _ (0, 0) hq]; rfl)
  clear h hb hV
  unfold DzQ
  go_enter Tryz.func21, Tryz.ntmps21
  go_upto_region 1 with fail
  generalize w.alloc (.cells #[I 4, I x.n, U x.a, U x.b, .bool x.g.shut, I x.g.all, I x.g.os] 48) = w1 at *
  generalize w.heap.size = X at *
  have HST : Hid (∀ W', Fz (Nb zn P vv va vr) w1 W' → W'.cell? ⟨X, 0, none⟩ = some (I 4) ∧ W'.cell? ⟨X, 1, none⟩ = some (I x.n) ∧ W'.cell? ⟨X, 2, none⟩ = some (U x.a) ∧ W'.cell? ⟨X, 3, none⟩ = some (U x.b) ∧ W'.cell? ⟨X, 4, none⟩ = some (.bool x.g.shut) ∧ W'.cell? ⟨X, 5, none⟩ = some (I x.g.all) ∧ W'.cell? ⟨X, 6, none⟩ = some (I x.g.os)) := HST0.out
  have H1 : Hid (Bt W0 w1 tb v B P p zn vv va vr s s) := h1
  clear h1 HX HST0
  obtain ⟨p0, p1, p2, p3, p4, p5, p6⟩ := HST.out w1 (Fz.refl _ _)
  have hG : ∀ W', Below w1.heap.size w1 W' → Calls Tryz.prog 11 #[bP B, I x.n, U x.a, U x.b] W' fun e w' => e = .returned (I (setB tb s x.n (Cl.relB (ctA tb x.n).min (ctA tb x.n).max x.a x.b))) ∧ Bt W0 w' tb v B P p zn vv va vr (setT tb s x.n (Cl.relB (ctA tb x.n).min (ctA tb x.n).max x.a x.b) (x.a, x.b)) s ∧ Fz (Nb zn P vv va vr) w1 w' := fun W' hb => (bRel (H1.out.below hb).b x.n x.a x.b ha).mono (by rintro e w' ⟨k, b, f⟩; exact ⟨k, (H1.out.below hb).pro b f, (Fz.of_below hb).trans (fzP f)⟩)
  have hD : ∀ W2, Bt W0 W2 tb v B P p zn vv va vr (setT tb s x.n (Cl.relB (ctA tb x.n).min (ctA tb x.n).max x.a x.b) (x.a, x.b)) s → Fz (Nb zn P vv va vr) w1 W2 → ∀ W', Below W2.heap.size W2 W' → Calls Tryz.prog 49 #[bP P, I x.n, U x.a, U x.b] W' fun e w' => e = .returned (I (setB tb s x.n (Cl.relB (ctA tb x.n).min (ctA tb x.n).max x.a x.b))) ∧ Bt W0 w' tb v B P p zn vv va vr (setT tb s x.n (Cl.relB (ctA tb x.n).min (ctA tb x.n).max x.a x.b) (x.a, x.b)) (setT tb s x.n (Cl.relB (ctA tb x.n).min (ctA tb x.n).max x.a x.b) (x.a, x.b)) ∧ Fz (Nb zn P vv va vr) w1 w' := fun W2 k2 f2 W' hb => (dRel (k2.below hb).d x.n x.a x.b ha).mono (by rintro e w' ⟨k, b, f⟩; exact ⟨k, (k2.below hb).doc b f, (f2.trans (Fz.of_below hb)).trans (fzD f)⟩)
  clear hq
  generalize setB tb s x.n (Cl.relB (ctA tb x.n).min (ctA tb x.n).max x.a x.b) = A at *
  generalize setT tb s x.n (Cl.relB (ctA tb x.n).min (ctA tb x.n).max x.a x.b) (x.a, x.b) = s2 at *
  go_upto_region 16 with fail
  go_region_held_law (fun W' => W'.cell? ⟨X, 0, none⟩ = some (I 4) ∧ W'.cell? ⟨X, 1, none⟩ = some (I x.n) ∧ W'.cell? ⟨X, 2, none⟩ = some (U x.a) ∧ W'.cell? ⟨X, 3, none⟩ = some (U x.b) ∧ W'.cell? ⟨X, 4, none⟩ = some (.bool x.g.shut) ∧ W'.cell? ⟨X, 5, none⟩ = some (I x.g.all) ∧ W'.cell? ⟨X, 6, none⟩ = some (I x.g.os)) (first | exact ⟨p0, p1, p2, p3, p4, p5, p6⟩ | exact c2 | exact c3 | (go_keep; done)) (first
    | (go_at_call 11; refine (hG _ (by first | exact Below.refl _ _ | exact (Below.refl _ _).drew | exact (Below.refl _ _).drew.drew | exact Cl.below_drewN _ (Below.refl _ _))).mono ?_; rintro e w2 ⟨rfl, k2, f2⟩; have c2 := HST.out w2 f2)
    | (go_at_call 49; refine (hD _ k2 f2 _ (by first | exact Below.refl _ _ | exact (Below.refl _ _).drew | exact (Below.refl _ _).drew.drew | exact Cl.below_drewN _ (Below.refl _ _))).mono ?_; rintro e w3 ⟨rfl, k3, f3⟩; have c3 := HST.out w3 f3))
  have HK : Hid (Bt W0 w3 tb v B P p zn vv va vr s2 s2) := k3
  clear k3 f3 c3 c2 k2 f2 hG hD p0 p1 p2 p3 p4 p5 p6 HST
  go_wp2
  go_ret
  exact ⟨rfl, _, _, _, _, HK.out⟩
theorem does_5 (h : Bt W0 w tb v B P p zn vv va vr s s) (x : Ca) (ha : x.a < 4294967296) (hb' : x.b < 4294967296) : Calls Tryz.prog 21 #[bP B, bP P, .agg #[I 5, I x.n, U x.a, U x.b, .bool x.g.shut, I x.g.all, I x.g.os]] w (DzQ W0 tb v B P p zn) := by
  have hb := below_alloc w (.cells #[I 5, I x.n, U x.a, U x.b, .bool x.g.shut, I x.g.all, I x.g.os] 48)
  have hV := heap_alloc_new w (.cells #[I 5, I x.n, U x.a, U x.b, .bool x.g.shut, I x.g.all, I x.g.os] 48)
  have h1 := h.below hb
  have HX : Hid (¬ Nb zn P vv va vr w.heap.size) := fun e => by have := h.lt e; omega
  have hq : OKq s.q := h.b.q
  have hna : tb.als.length ≤ 64 := h.b.ok.na
  have HST0 : Hid (∀ W', Fz (Nb zn P vv va vr) (w.alloc (.cells #[I 5, I x.n, U x.a, U x.b, .bool x.g.shut, I x.g.all, I x.g.os] 48)) W' → (fun X => W'.cell? ⟨X, 0, none⟩ = some (I 5) ∧ W'.cell? ⟨X, 1, none⟩ = some (I x.n) ∧ W'.cell? ⟨X, 2, none⟩ = some (U x.a) ∧ W'.cell? ⟨X, 3, none⟩ = some (U x.b) ∧ W'.cell? ⟨X, 4, none⟩ = some (.bool x.g.shut) ∧ W'.cell? ⟨X, 5, none⟩ = some (I x.g.all) ∧ W'.cell? ⟨X, 6, none⟩ = some (I x.g.os)) w.heap.size) := fun W' hf => by
    have hq := hf.heap hV HX.out
    refine ⟨?_, ?_, ?_, ?_, ?_, ?_, ?_⟩ <;> (rw [cell_of_row _ _ _ _ _ (0, 0) hq]; rfl)
  clear h hb hV
  unfold DzQ
  go_enter Tryz.func21, Tryz.ntmps21
  go_upto_region 1 with fail
  generalize w.alloc (.cells #[I 5, I x.n, U x.a, U x.b, .bool x.g.shut, I x.g.all, I x.g.os] 48) = w1 at *
  generalize w.heap.size = X at *
  have HST : Hid (∀ W', Fz (Nb zn P vv va vr) w1 W' → W'.cell? ⟨X, 0, none⟩ = some (I 5) ∧ W'.cell? ⟨X, 1, none⟩ = some (I x.n) ∧ W'.cell? ⟨X, 2, none⟩ = some (U x.a) ∧ W'.cell? ⟨X, 3, none⟩ = some (U x.b) ∧ W'.cell? ⟨X, 4, none⟩ = some (.bool x.g.shut) ∧ W'.cell? ⟨X, 5, none⟩ = some (I x.g.all) ∧ W'.cell? ⟨X, 6, none⟩ = some (I x.g.os)) := HST0.out
  have H1 : Hid (Bt W0 w1 tb v B P p zn vv va vr s s) := h1
  clear h1 HX HST0
  obtain ⟨p0, p1, p2, p3, p4, p5, p6⟩ := HST.out w1 (Fz.refl _ _)
  have hG : ∀ W', Below w1.heap.size w1 W' → Calls Tryz.prog 10 #[bP B, I x.n, U x.a, U x.b] W' fun e w' => e = .returned (I (setB tb s x.n (Cl.absB (ctA tb x.n).min (ctA tb x.n).max x.a x.b))) ∧ Bt W0 w' tb v B P p zn vv va vr (setT tb s x.n (Cl.absB (ctA tb x.n).min (ctA tb x.n).max x.a x.b) (Cl.untN (ctA tb x.n).max (s.v (ctrN tb x.n.toNat)) x.a, x.b)) s ∧ Fz (Nb zn P vv va vr) w1 w' := fun W' hb => (bAbs (H1.out.below hb).b x.n x.a x.b ha).mono (by rintro e w' ⟨k, b, f⟩; exact ⟨k, (H1.out.below hb).pro b f, (Fz.of_below hb).trans (fzP f)⟩)
  have hD : ∀ W2, Bt W0 W2 tb v B P p zn vv va vr (setT tb s x.n (Cl.absB (ctA tb x.n).min (ctA tb x.n).max x.a x.b) (Cl.untN (ctA tb x.n).max (s.v (ctrN tb x.n.toNat)) x.a, x.b)) s → Fz (Nb zn P vv va vr) w1 W2 → ∀ W', Below W2.heap.size W2 W' → Calls Tryz.prog 50 #[bP P, I x.n, U x.a, U x.b] W' fun e w' => e = .returned (I (setB tb s x.n (Cl.absB (ctA tb x.n).min (ctA tb x.n).max x.a x.b))) ∧ Bt W0 w' tb v B P p zn vv va vr (setT tb s x.n (Cl.absB (ctA tb x.n).min (ctA tb x.n).max x.a x.b) (Cl.untN (ctA tb x.n).max (s.v (ctrN tb x.n.toNat)) x.a, x.b)) (setT tb s x.n (Cl.absB (ctA tb x.n).min (ctA tb x.n).max x.a x.b) (Cl.untN (ctA tb x.n).max (s.v (ctrN tb x.n.toNat)) x.a, x.b)) ∧ Fz (Nb zn P vv va vr) w1 w' := fun W2 k2 f2 W' hb => (dAbs (k2.below hb).d x.n x.a x.b ha).mono (by rintro e w' ⟨k, b, f⟩; exact ⟨k, (k2.below hb).doc b f, (f2.trans (Fz.of_below hb)).trans (fzD f)⟩)
  clear hq
  generalize setB tb s x.n (Cl.absB (ctA tb x.n).min (ctA tb x.n).max x.a x.b) = A at *
  generalize setT tb s x.n (Cl.absB (ctA tb x.n).min (ctA tb x.n).max x.a x.b) (Cl.untN (ctA tb x.n).max (s.v (ctrN tb x.n.toNat)) x.a, x.b) = s2 at *
  go_upto_region 18 with fail
  go_region_held_law (fun W' => W'.cell? ⟨X, 0, none⟩ = some (I 5) ∧ W'.cell? ⟨X, 1, none⟩ = some (I x.n) ∧ W'.cell? ⟨X, 2, none⟩ = some (U x.a) ∧ W'.cell? ⟨X, 3, none⟩ = some (U x.b) ∧ W'.cell? ⟨X, 4, none⟩ = some (.bool x.g.shut) ∧ W'.cell? ⟨X, 5, none⟩ = some (I x.g.all) ∧ W'.cell? ⟨X, 6, none⟩ = some (I x.g.os)) (first | exact ⟨p0, p1, p2, p3, p4, p5, p6⟩ | exact c2 | exact c3 | (go_keep; done)) (first
    | (go_at_call 10; refine (hG _ (by first | exact Below.refl _ _ | exact (Below.refl _ _).drew | exact (Below.refl _ _).drew.drew | exact Cl.below_drewN _ (Below.refl _ _))).mono ?_; rintro e w2 ⟨rfl, k2, f2⟩; have c2 := HST.out w2 f2)
    | (go_at_call 50; refine (hD _ k2 f2 _ (by first | exact Below.refl _ _ | exact (Below.refl _ _).drew | exact (Below.refl _ _).drew.drew | exact Cl.below_drewN _ (Below.refl _ _))).mono ?_; rintro e w3 ⟨rfl, k3, f3⟩; have c3 := HST.out w3 f3))
  have HK : Hid (Bt W0 w3 tb v B P p zn vv va vr s2 s2) := k3
  clear k3 f3 c3 c2 k2 f2 hG hD p0 p1 p2 p3 p4 p5 p6 HST
  go_wp2
  go_ret
  exact ⟨rfl, _, _, _, _, HK.out⟩
theorem does_6 (h : Bt W0 w tb v B P p zn vv va vr s s) (x : Ca) (ha : x.a < 4294967296) (hb' : x.b < 4294967296) : Calls Tryz.prog 21 #[bP B, bP P, .agg #[I 6, I x.n, U x.a, U x.b, .bool x.g.shut, I x.g.all, I x.g.os]] w (DzQ W0 tb v B P p zn) := by
  have hb := below_alloc w (.cells #[I 6, I x.n, U x.a, U x.b, .bool x.g.shut, I x.g.all, I x.g.os] 48)
  have hV := heap_alloc_new w (.cells #[I 6, I x.n, U x.a, U x.b, .bool x.g.shut, I x.g.all, I x.g.os] 48)
  have h1 := h.below hb
  have HX : Hid (¬ Nb zn P vv va vr w.heap.size) := fun e => by have := h.lt e; omega
  have hq : OKq s.q := h.b.q
  have hna : tb.als.length ≤ 64 := h.b.ok.na
  have HST0 : Hid (∀ W', Fz (Nb zn P vv va vr) (w.alloc (.cells #[I 6, I x.n, U x.a, U x.b, .bool x.g.shut, I x.g.all, I x.g.os] 48)) W' → (fun X => W'.cell? ⟨X, 0, none⟩ = some (I 6) ∧ W'.cell? ⟨X, 1, none⟩ = some (I x.n) ∧ W'.cell? ⟨X, 2, none⟩ = some (U x.a) ∧ W'.cell? ⟨X, 3, none⟩ = some (U x.b) ∧ W'.cell? ⟨X, 4, none⟩ = some (.bool x.g.shut) ∧ W'.cell? ⟨X, 5, none⟩ = some (I x.g.all) ∧ W'.cell? ⟨X, 6, none⟩ = some (I x.g.os)) w.heap.size) := fun W' hf => by
    have hq := hf.heap hV HX.out
    refine ⟨?_, ?_, ?_, ?_, ?_, ?_, ?_⟩ <;> (rw [cell_of_row _ _ _ _ _ (0, 0) hq]; rfl)
  clear h hb hV
  unfold DzQ
  go_enter Tryz.func21, Tryz.ntmps21
  go_upto_region 1 with fail
  generalize w.alloc (.cells #[I 6, I x.n, U x.a, U x.b, .bool x.g.shut, I x.g.all, I x.g.os] 48) = w1 at *
  generalize w.heap.size = X at *
  have HST : Hid (∀ W', Fz (Nb zn P vv va vr) w1 W' → W'.cell? ⟨X, 0, none⟩ = some (I 6) ∧ W'.cell? ⟨X, 1, none⟩ = some (I x.n) ∧ W'.cell? ⟨X, 2, none⟩ = some (U x.a) ∧ W'.cell? ⟨X, 3, none⟩ = some (U x.b) ∧ W'.cell? ⟨X, 4, none⟩ = some (.bool x.g.shut) ∧ W'.cell? ⟨X, 5, none⟩ = some (I x.g.all) ∧ W'.cell? ⟨X, 6, none⟩ = some (I x.g.os)) := HST0.out
  have H1 : Hid (Bt W0 w1 tb v B P p zn vv va vr s s) := h1
  clear h1 HX HST0
  obtain ⟨p0, p1, p2, p3, p4, p5, p6⟩ := HST.out w1 (Fz.refl _ _)
  have hG : ∀ W', Below w1.heap.size w1 W' → Calls Tryz.prog 12 #[bP B, I x.n] W' fun e w' => e = .returned (I (getB tb s x.n)) ∧ Bt W0 w' tb v B P p zn vv va vr (canT tb s x.n) s ∧ Fz (Nb zn P vv va vr) w1 w' := fun W' hb => (bCancel (H1.out.below hb).b x.n).mono (by rintro e w' ⟨k, b, f⟩; exact ⟨k, (H1.out.below hb).pro b f, (Fz.of_below hb).trans (fzP f)⟩)
  have hD : ∀ W2, Bt W0 W2 tb v B P p zn vv va vr (canT tb s x.n) s → Fz (Nb zn P vv va vr) w1 W2 → ∀ W', Below W2.heap.size W2 W' → Calls Tryz.prog 51 #[bP P, I x.n] W' fun e w' => e = .returned (I (getB tb s x.n)) ∧ Bt W0 w' tb v B P p zn vv va vr (canT tb s x.n) (canT tb s x.n) ∧ Fz (Nb zn P vv va vr) w1 w' := fun W2 k2 f2 W' hb => (dCancel (k2.below hb).d x.n).mono (by rintro e w' ⟨k, b, f⟩; exact ⟨k, (k2.below hb).doc b f, (f2.trans (Fz.of_below hb)).trans (fzD f)⟩)
  clear hq
  generalize getB tb s x.n = A at *
  generalize canT tb s x.n = s2 at *
  go_upto_region 20 with fail
  go_region_held_law (fun W' => W'.cell? ⟨X, 0, none⟩ = some (I 6) ∧ W'.cell? ⟨X, 1, none⟩ = some (I x.n) ∧ W'.cell? ⟨X, 2, none⟩ = some (U x.a) ∧ W'.cell? ⟨X, 3, none⟩ = some (U x.b) ∧ W'.cell? ⟨X, 4, none⟩ = some (.bool x.g.shut) ∧ W'.cell? ⟨X, 5, none⟩ = some (I x.g.all) ∧ W'.cell? ⟨X, 6, none⟩ = some (I x.g.os)) (first | exact ⟨p0, p1, p2, p3, p4, p5, p6⟩ | exact c2 | exact c3 | (go_keep; done)) (first
    | (go_at_call 12; refine (hG _ (by first | exact Below.refl _ _ | exact (Below.refl _ _).drew | exact (Below.refl _ _).drew.drew | exact Cl.below_drewN _ (Below.refl _ _))).mono ?_; rintro e w2 ⟨rfl, k2, f2⟩; have c2 := HST.out w2 f2)
    | (go_at_call 51; refine (hD _ k2 f2 _ (by first | exact Below.refl _ _ | exact (Below.refl _ _).drew | exact (Below.refl _ _).drew.drew | exact Cl.below_drewN _ (Below.refl _ _))).mono ?_; rintro e w3 ⟨rfl, k3, f3⟩; have c3 := HST.out w3 f3))
  have HK : Hid (Bt W0 w3 tb v B P p zn vv va vr s2 s2) := k3
  clear k3 f3 c3 c2 k2 f2 hG hD p0 p1 p2 p3 p4 p5 p6 HST
  go_wp2
  go_ret
  exact ⟨rfl, _, _, _, _, HK.out⟩
theorem does_8 (h : Bt W0 w tb v B P p zn vv va vr s s) (x : Ca) (ha : x.a < 4294967296) (hb' : x.b < 4294967296) : Calls Tryz.prog 21 #[bP B, bP P, .agg #[I 8, I x.n, U x.a, U x.b, .bool x.g.shut, I x.g.all, I x.g.os]] w (DzQ W0 tb v B P p zn) := by
  have hb := below_alloc w (.cells #[I 8, I x.n, U x.a, U x.b, .bool x.g.shut, I x.g.all, I x.g.os] 48)
  have hV := heap_alloc_new w (.cells #[I 8, I x.n, U x.a, U x.b, .bool x.g.shut, I x.g.all, I x.g.os] 48)
  have h1 := h.below hb
  have HX : Hid (¬ Nb zn P vv va vr w.heap.size) := fun e => by have := h.lt e; omega
  have hq : OKq s.q := h.b.q
  have hna : tb.als.length ≤ 64 := h.b.ok.na
  have HST0 : Hid (∀ W', Fz (Nb zn P vv va vr) (w.alloc (.cells #[I 8, I x.n, U x.a, U x.b, .bool x.g.shut, I x.g.all, I x.g.os] 48)) W' → (fun X => W'.cell? ⟨X, 0, none⟩ = some (I 8) ∧ W'.cell? ⟨X, 1, none⟩ = some (I x.n) ∧ W'.cell? ⟨X, 2, none⟩ = some (U x.a) ∧ W'.cell? ⟨X, 3, none⟩ = some (U x.b) ∧ W'.cell? ⟨X, 4, none⟩ = some (.bool x.g.shut) ∧ W'.cell? ⟨X, 5, none⟩ = some (I x.g.all) ∧ W'.cell? ⟨X, 6, none⟩ = some (I x.g.os)) w.heap.size) := fun W' hf => by
    have hq := hf.heap hV HX.out
    refine ⟨?_, ?_, ?_, ?_, ?_, ?_, ?_⟩ <;> (rw [cell_of_row _ _ _ _ _ (0, 0) hq]; rfl)
  clear h hb hV
  unfold DzQ
  go_enter Tryz.func21, Tryz.ntmps21
  go_upto_region 1 with fail
  generalize w.alloc (.cells #[I 8, I x.n, U x.a, U x.b, .bool x.g.shut, I x.g.all, I x.g.os] 48) = w1 at *
  generalize w.heap.size = X at *
  have HST : Hid (∀ W', Fz (Nb zn P vv va vr) w1 W' → W'.cell? ⟨X, 0, none⟩ = some (I 8) ∧ W'.cell? ⟨X, 1, none⟩ = some (I x.n) ∧ W'.cell? ⟨X, 2, none⟩ = some (U x.a) ∧ W'.cell? ⟨X, 3, none⟩ = some (U x.b) ∧ W'.cell? ⟨X, 4, none⟩ = some (.bool x.g.shut) ∧ W'.cell? ⟨X, 5, none⟩ = some (I x.g.all) ∧ W'.cell? ⟨X, 6, none⟩ = some (I x.g.os)) := HST0.out
  have H1 : Hid (Bt W0 w1 tb v B P p zn vv va vr s s) := h1
  clear h1 HX HST0
  obtain ⟨p0, p1, p2, p3, p4, p5, p6⟩ := HST.out w1 (Fz.refl _ _)
  have hG : ∀ W', Below w1.heap.size w1 W' → Calls Tryz.prog 13 #[bP B, I x.n] W' fun e w' => e = .returned (I (reqS tb x.n)) ∧ Bt W0 w' tb v B P p zn vv va vr (reqT tb s x.n) s ∧ Fz (Nb zn P vv va vr) w1 w' := fun W' hb => (bRequest (H1.out.below hb).b x.n).mono (by rintro e w' ⟨k, b, f⟩; exact ⟨k, (H1.out.below hb).pro b f, (Fz.of_below hb).trans (fzP f)⟩)
  have hD : ∀ W2, Bt W0 W2 tb v B P p zn vv va vr (reqT tb s x.n) s → Fz (Nb zn P vv va vr) w1 W2 → ∀ W', Below W2.heap.size W2 W' → Calls Tryz.prog 53 #[bP P, I x.n] W' fun e w' => e = .returned (I (reqS tb x.n)) ∧ Bt W0 w' tb v B P p zn vv va vr (reqT tb s x.n) (reqT tb s x.n) ∧ Fz (Nb zn P vv va vr) w1 w' := fun W2 k2 f2 W' hb => (dRequest (k2.below hb).d x.n).mono (by rintro e w' ⟨k, b, f⟩; exact ⟨k, (k2.below hb).doc b f, (f2.trans (Fz.of_below hb)).trans (fzD f)⟩)
  clear hq
  generalize reqS tb x.n = A at *
  generalize reqT tb s x.n = s2 at *
  go_upto_region 26 with fail
  go_region_held_law (fun W' => W'.cell? ⟨X, 0, none⟩ = some (I 8) ∧ W'.cell? ⟨X, 1, none⟩ = some (I x.n) ∧ W'.cell? ⟨X, 2, none⟩ = some (U x.a) ∧ W'.cell? ⟨X, 3, none⟩ = some (U x.b) ∧ W'.cell? ⟨X, 4, none⟩ = some (.bool x.g.shut) ∧ W'.cell? ⟨X, 5, none⟩ = some (I x.g.all) ∧ W'.cell? ⟨X, 6, none⟩ = some (I x.g.os)) (first | exact ⟨p0, p1, p2, p3, p4, p5, p6⟩ | exact c2 | exact c3 | (go_keep; done)) (first
    | (go_at_call 13; refine (hG _ (by first | exact Below.refl _ _ | exact (Below.refl _ _).drew | exact (Below.refl _ _).drew.drew | exact Cl.below_drewN _ (Below.refl _ _))).mono ?_; rintro e w2 ⟨rfl, k2, f2⟩; have c2 := HST.out w2 f2)
    | (go_at_call 53; refine (hD _ k2 f2 _ (by first | exact Below.refl _ _ | exact (Below.refl _ _).drew | exact (Below.refl _ _).drew.drew | exact Cl.below_drewN _ (Below.refl _ _))).mono ?_; rintro e w3 ⟨rfl, k3, f3⟩; have c3 := HST.out w3 f3))
  have HK : Hid (Bt W0 w3 tb v B P p zn vv va vr s2 s2) := k3
  clear k3 f3 c3 c2 k2 f2 hG hD p0 p1 p2 p3 p4 p5 p6 HST
  go_wp2
  go_ret
  exact ⟨rfl, _, _, _, _, HK.out⟩
theorem does_10 (h : Bt W0 w tb v B P p zn vv va vr s s) (x : Ca) (ha : x.a < 4294967296) (hb' : x.b < 4294967296) : Calls Tryz.prog 21 #[bP B, bP P, .agg #[I 10, I x.n, U x.a, U x.b, .bool x.g.shut, I x.g.all, I x.g.os]] w (DzQ W0 tb v B P p zn) := by
  have hb := below_alloc w (.cells #[I 10, I x.n, U x.a, U x.b, .bool x.g.shut, I x.g.all, I x.g.os] 48)
  have hV := heap_alloc_new w (.cells #[I 10, I x.n, U x.a, U x.b, .bool x.g.shut, I x.g.all, I x.g.os] 48)
  have h1 := h.below hb
  have HX : Hid (¬ Nb zn P vv va vr w.heap.size) := fun e => by have := h.lt e; omega
  have hq : OKq s.q := h.b.q
  have hna : tb.als.length ≤ 64 := h.b.ok.na
  have HST0 : Hid (∀ W', Fz (Nb zn P vv va vr) (w.alloc (.cells #[I 10, I x.n, U x.a, U x.b, .bool x.g.shut, I x.g.all, I x.g.os] 48)) W' → (fun X => W'.cell? ⟨X, 0, none⟩ = some (I 10) ∧ W'.cell? ⟨X, 1, none⟩ = some (I x.n) ∧ W'.cell? ⟨X, 2, none⟩ = some (U x.a) ∧ W'.cell? ⟨X, 3, none⟩ = some (U x.b) ∧ W'.cell? ⟨X, 4, none⟩ = some (.bool x.g.shut) ∧ W'.cell? ⟨X, 5, none⟩ = some (I x.g.all) ∧ W'.cell? ⟨X, 6, none⟩ = some (I x.g.os)) w.heap.size) := fun W' hf => by
    have hq := hf.heap hV HX.out
    refine ⟨?_, ?_, ?_, ?_, ?_, ?_, ?_⟩ <;> (rw [cell_of_row _ _ _ _ _ (0, 0) hq]; rfl)
  clear h hb hV
  unfold DzQ
  go_enter Tryz.func21, Tryz.ntmps21
  go_upto_region 1 with fail
  generalize w.alloc (.cells #[I 10, I x.n, U x.a, U x.b, .bool x.g.shut, I x.g.all, I x.g.os] 48) = w1 at *
  generalize w.heap.size = X at *
  have HST : Hid (∀ W', Fz (Nb zn P vv va vr) w1 W' → W'.cell? ⟨X, 0, none⟩ = some (I 10) ∧ W'.cell? ⟨X, 1, none⟩ = some (I x.n) ∧ W'.cell? ⟨X, 2, none⟩ = some (U x.a) ∧ W'.cell? ⟨X, 3, none⟩ = some (U x.b) ∧ W'.cell? ⟨X, 4, none⟩ = some (.bool x.g.shut) ∧ W'.cell? ⟨X, 5, none⟩ = some (I x.g.all) ∧ W'.cell? ⟨X, 6, none⟩ = some (I x.g.os)) := HST0.out
  have H1 : Hid (Bt W0 w1 tb v B P p zn vv va vr s s) := h1
  clear h1 HX HST0
  obtain ⟨p0, p1, p2, p3, p4, p5, p6⟩ := HST.out w1 (Fz.refl _ _)
  have hG : ∀ W', Below w1.heap.size w1 W' → Calls Tryz.prog 14 #[bP B, I x.n] W' fun e w' => e = .returned (I (serS tb s x.n)) ∧ Bt W0 w' tb v B P p zn vv va vr (serT tb s x.n) s ∧ Fz (Nb zn P vv va vr) w1 w' := fun W' hb => (bServe (H1.out.below hb).b x.n).mono (by rintro e w' ⟨k, b, f⟩; exact ⟨k, (H1.out.below hb).pro b f, (Fz.of_below hb).trans (fzP f)⟩)
  have hD : ∀ W2, Bt W0 W2 tb v B P p zn vv va vr (serT tb s x.n) s → Fz (Nb zn P vv va vr) w1 W2 → ∀ W', Below W2.heap.size W2 W' → Calls Tryz.prog 55 #[bP P, I x.n] W' fun e w' => e = .returned (I (serS tb s x.n)) ∧ Bt W0 w' tb v B P p zn vv va vr (serT tb s x.n) (serT tb s x.n) ∧ Fz (Nb zn P vv va vr) w1 w' := fun W2 k2 f2 W' hb => (dServe (k2.below hb).d hq x.n).mono (by rintro e w' ⟨k, b, f⟩; exact ⟨k, (k2.below hb).doc b f, (f2.trans (Fz.of_below hb)).trans (fzD f)⟩)
  clear hq
  generalize serS tb s x.n = A at *
  generalize serT tb s x.n = s2 at *
  go_upto_region 32 with fail
  go_region_held_law (fun W' => W'.cell? ⟨X, 0, none⟩ = some (I 10) ∧ W'.cell? ⟨X, 1, none⟩ = some (I x.n) ∧ W'.cell? ⟨X, 2, none⟩ = some (U x.a) ∧ W'.cell? ⟨X, 3, none⟩ = some (U x.b) ∧ W'.cell? ⟨X, 4, none⟩ = some (.bool x.g.shut) ∧ W'.cell? ⟨X, 5, none⟩ = some (I x.g.all) ∧ W'.cell? ⟨X, 6, none⟩ = some (I x.g.os)) (first | exact ⟨p0, p1, p2, p3, p4, p5, p6⟩ | exact c2 | exact c3 | (go_keep; done)) (first
    | (go_at_call 14; refine (hG _ (by first | exact Below.refl _ _ | exact (Below.refl _ _).drew | exact (Below.refl _ _).drew.drew | exact Cl.below_drewN _ (Below.refl _ _))).mono ?_; rintro e w2 ⟨rfl, k2, f2⟩; have c2 := HST.out w2 f2)
    | (go_at_call 55; refine (hD _ k2 f2 _ (by first | exact Below.refl _ _ | exact (Below.refl _ _).drew | exact (Below.refl _ _).drew.drew | exact Cl.below_drewN _ (Below.refl _ _))).mono ?_; rintro e w3 ⟨rfl, k3, f3⟩; have c3 := HST.out w3 f3))
  have HK : Hid (Bt W0 w3 tb v B P p zn vv va vr s2 s2) := k3
  clear k3 f3 c3 c2 k2 f2 hG hD p0 p1 p2 p3 p4 p5 p6 HST
  go_wp2
  go_ret
  exact ⟨rfl, _, _, _, _, HK.out⟩
theorem does_1 (h : Bt W0 w tb v B P p zn vv va vr s s) (x : Ca) (ha : x.a < 4294967296) (hb' : x.b < 4294967296) : Calls Tryz.prog 21 #[bP B, bP P, .agg #[I 1, I x.n, U x.a, U x.b, .bool x.g.shut, I x.g.all, I x.g.os]] w (DzQ W0 tb v B P p zn) := by
  have hb := below_alloc w (.cells #[I 1, I x.n, U x.a, U x.b, .bool x.g.shut, I x.g.all, I x.g.os] 48)
  have hV := heap_alloc_new w (.cells #[I 1, I x.n, U x.a, U x.b, .bool x.g.shut, I x.g.all, I x.g.os] 48)
  have h1 := h.below hb
  have HX : Hid (¬ Nb zn P vv va vr w.heap.size) := fun e => by have := h.lt e; omega
  have hq : OKq s.q := h.b.q
  have hna : tb.als.length ≤ 64 := h.b.ok.na
  have HST0 : Hid (∀ W', Fz (Nb zn P vv va vr) (w.alloc (.cells #[I 1, I x.n, U x.a, U x.b, .bool x.g.shut, I x.g.all, I x.g.os] 48)) W' → (fun X => W'.cell? ⟨X, 0, none⟩ = some (I 1) ∧ W'.cell? ⟨X, 1, none⟩ = some (I x.n) ∧ W'.cell? ⟨X, 2, none⟩ = some (U x.a) ∧ W'.cell? ⟨X, 3, none⟩ = some (U x.b) ∧ W'.cell? ⟨X, 4, none⟩ = some (.bool x.g.shut) ∧ W'.cell? ⟨X, 5, none⟩ = some (I x.g.all) ∧ W'.cell? ⟨X, 6, none⟩ = some (I x.g.os)) w.heap.size) := fun W' hf => by
    have hq := hf.heap hV HX.out
    refine ⟨?_, ?_, ?_, ?_, ?_, ?_, ?_⟩ <;> (rw [cell_of_row _ _ _ _ _ (0, 0) hq]; rfl)
  clear h hb hV
  unfold DzQ
  go_enter Tryz.func21, Tryz.ntmps21
  go_upto_region 1 with fail
  generalize w.alloc (.cells #[I 1, I x.n, U x.a, U x.b, .bool x.g.shut, I x.g.all, I x.g.os] 48) = w1 at *
  generalize w.heap.size = X at *
  have HST : Hid (∀ W', Fz (Nb zn P vv va vr) w1 W' → W'.cell? ⟨X, 0, none⟩ = some (I 1) ∧ W'.cell? ⟨X, 1, none⟩ = some (I x.n) ∧ W'.cell? ⟨X, 2, none⟩ = some (U x.a) ∧ W'.cell? ⟨X, 3, none⟩ = some (U x.b) ∧ W'.cell? ⟨X, 4, none⟩ = some (.bool x.g.shut) ∧ W'.cell? ⟨X, 5, none⟩ = some (I x.g.all) ∧ W'.cell? ⟨X, 6, none⟩ = some (I x.g.os)) := HST0.out
  have H1 : Hid (Bt W0 w1 tb v B P p zn vv va vr s s) := h1
  clear h1 HX HST0
  obtain ⟨p0, p1, p2, p3, p4, p5, p6⟩ := HST.out w1 (Fz.refl _ _)
  have hG := bTick H1.out.b x.n
  have hL := tckL_len tb s x.n hna
  go_wp2_with (first
    | (go_at_call 9; refine hG.mono ?_; clear hG; rintro e w2 ⟨u1, rfl, o1, b1, f1⟩; have K2 : Hid (Bt W0 w2 tb v B P p zn vv va vr (tckA tb s x.n) s ∧ w2.ownsRow w1.heap.size 3 1 u1 (tckL tb s x.n).length (inL (tckL tb s x.n))) := ⟨H1.out.pro b1 f1, o1⟩; have c2 := HST.out w2 (fzP f1); clear p0 p1 p2 p3 p4 p5 p6; obtain ⟨p0, p1, p2, p3, p4, p5, p6⟩ := c2; have hD := dTick K2.out.1.d x.n; clear o1 b1 f1)
    | (go_at_call 45; refine hD.mono ?_; clear hD; rintro e w3 ⟨u2, rfl, o2, b2, f2⟩; have K3 : Hid (Bt W0 w3 tb v B P p zn vv va vr (tckA tb s x.n) (tckA tb s x.n)) := K2.out.1.doc b2 f2; have hI := ints_same w3 _ _ _ _ _ hL (f2.own K2.out.2 (fun g e e2 => by have q1 := (K2.out.2.lt g e).1; have q2 := (H1.out.d.lo g e2).2; omega)) o2; clear o2 b2 f2)
    | (go_at_call 46; refine hI.mono ?_; clear hI; rintro e w4 ⟨rfl, b4⟩; have K4 : Hid (Bt W0 w4 tb v B P p zn vv va vr (tckA tb s x.n) (tckA tb s x.n)) := K3.out.below b4; clear b4))
  go_ret
  exact ⟨by simp, _, _, _, _, K4.out⟩
theorem does_3 (h : Bt W0 w tb v B P p zn vv va vr s s) (x : Ca) (ha : x.a < 4294967296) (hb' : x.b < 4294967296) : Calls Tryz.prog 21 #[bP B, bP P, .agg #[I 3, I x.n, U x.a, U x.b, .bool x.g.shut, I x.g.all, I x.g.os]] w (DzQ W0 tb v B P p zn) := by
  have hb := below_alloc w (.cells #[I 3, I x.n, U x.a, U x.b, .bool x.g.shut, I x.g.all, I x.g.os] 48)
  have hV := heap_alloc_new w (.cells #[I 3, I x.n, U x.a, U x.b, .bool x.g.shut, I x.g.all, I x.g.os] 48)
  have h1 := h.below hb
  have HX : Hid (¬ Nb zn P vv va vr w.heap.size) := fun e => by have := h.lt e; omega
  have hq : OKq s.q := h.b.q
  have hna : tb.als.length ≤ 64 := h.b.ok.na
  have HST0 : Hid (∀ W', Fz (Nb zn P vv va vr) (w.alloc (.cells #[I 3, I x.n, U x.a, U x.b, .bool x.g.shut, I x.g.all, I x.g.os] 48)) W' → (fun X => W'.cell? ⟨X, 0, none⟩ = some (I 3) ∧ W'.cell? ⟨X, 1, none⟩ = some (I x.n) ∧ W'.cell? ⟨X, 2, none⟩ = some (U x.a) ∧ W'.cell? ⟨X, 3, none⟩ = some (U x.b) ∧ W'.cell? ⟨X, 4, none⟩ = some (.bool x.g.shut) ∧ W'.cell? ⟨X, 5, none⟩ = some (I x.g.all) ∧ W'.cell? ⟨X, 6, none⟩ = some (I x.g.os)) w.heap.size) := fun W' hf => by
    have hq := hf.heap hV HX.out
    refine ⟨?_, ?_, ?_, ?_, ?_, ?_, ?_⟩ <;> (rw [cell_of_row _ _ _ _ _ (0, 0) hq]; rfl)
  clear h hb hV
  unfold DzQ
  go_enter Tryz.func21, Tryz.ntmps21
  go_upto_region 1 with fail
  generalize w.alloc (.cells #[I 3, I x.n, U x.a, U x.b, .bool x.g.shut, I x.g.all, I x.g.os] 48) = w1 at *
  generalize w.heap.size = X at *
  have HST : Hid (∀ W', Fz (Nb zn P vv va vr) w1 W' → W'.cell? ⟨X, 0, none⟩ = some (I 3) ∧ W'.cell? ⟨X, 1, none⟩ = some (I x.n) ∧ W'.cell? ⟨X, 2, none⟩ = some (U x.a) ∧ W'.cell? ⟨X, 3, none⟩ = some (U x.b) ∧ W'.cell? ⟨X, 4, none⟩ = some (.bool x.g.shut) ∧ W'.cell? ⟨X, 5, none⟩ = some (I x.g.all) ∧ W'.cell? ⟨X, 6, none⟩ = some (I x.g.os)) := HST0.out
  have H1 : Hid (Bt W0 w1 tb v B P p zn vv va vr s s) := h1
  clear h1 HX HST0
  obtain ⟨p0, p1, p2, p3, p4, p5, p6⟩ := HST.out w1 (Fz.refl _ _)
  have hG := bLeft H1.out.b x.n
  go_wp2_with (first
    | (go_at_call 15; refine hG.mono ?_; clear hG; rintro e w2 ⟨rfl, b1⟩; have K2 : Hid (Bt W0 w2 tb v B P p zn vv va vr s s) := H1.out.below b1; have c2 := HST.out w2 (Fz.of_below b1); clear b1; clear p0 p1 p2 p3 p4 p5 p6; obtain ⟨p0, p1, p2, p3, p4, p5, p6⟩ := c2; have hD := dLeft K2.out.d x.n)
    | (go_at_call 48; refine hD.mono ?_; clear hD; rintro e w3 ⟨rfl, rfl⟩; have K3 : Hid (Bt W0 w2 tb v B P p zn vv va vr s s) := K2.out))
  go_ret
  exact ⟨by simp, _, _, _, _, K3.out⟩
theorem does_7 (h : Bt W0 w tb v B P p zn vv va vr s s) (x : Ca) (ha : x.a < 4294967296) (hb' : x.b < 4294967296) : Calls Tryz.prog 21 #[bP B, bP P, .agg #[I 7, I x.n, U x.a, U x.b, .bool x.g.shut, I x.g.all, I x.g.os]] w (DzQ W0 tb v B P p zn) := by
  have hb := below_alloc w (.cells #[I 7, I x.n, U x.a, U x.b, .bool x.g.shut, I x.g.all, I x.g.os] 48)
  have hV := heap_alloc_new w (.cells #[I 7, I x.n, U x.a, U x.b, .bool x.g.shut, I x.g.all, I x.g.os] 48)
  have h1 := h.below hb
  have HX : Hid (¬ Nb zn P vv va vr w.heap.size) := fun e => by have := h.lt e; omega
  have hq : OKq s.q := h.b.q
  have hna : tb.als.length ≤ 64 := h.b.ok.na
  have HST0 : Hid (∀ W', Fz (Nb zn P vv va vr) (w.alloc (.cells #[I 7, I x.n, U x.a, U x.b, .bool x.g.shut, I x.g.all, I x.g.os] 48)) W' → (fun X => W'.cell? ⟨X, 0, none⟩ = some (I 7) ∧ W'.cell? ⟨X, 1, none⟩ = some (I x.n) ∧ W'.cell? ⟨X, 2, none⟩ = some (U x.a) ∧ W'.cell? ⟨X, 3, none⟩ = some (U x.b) ∧ W'.cell? ⟨X, 4, none⟩ = some (.bool x.g.shut) ∧ W'.cell? ⟨X, 5, none⟩ = some (I x.g.all) ∧ W'.cell? ⟨X, 6, none⟩ = some (I x.g.os)) w.heap.size) := fun W' hf => by
    have hq := hf.heap hV HX.out
    refine ⟨?_, ?_, ?_, ?_, ?_, ?_, ?_⟩ <;> (rw [cell_of_row _ _ _ _ _ (0, 0) hq]; rfl)
  clear h hb hV
  unfold DzQ
  go_enter Tryz.func21, Tryz.ntmps21
  go_upto_region 1 with fail
  generalize w.alloc (.cells #[I 7, I x.n, U x.a, U x.b, .bool x.g.shut, I x.g.all, I x.g.os] 48) = w1 at *
  generalize w.heap.size = X at *
  have HST : Hid (∀ W', Fz (Nb zn P vv va vr) w1 W' → W'.cell? ⟨X, 0, none⟩ = some (I 7) ∧ W'.cell? ⟨X, 1, none⟩ = some (I x.n) ∧ W'.cell? ⟨X, 2, none⟩ = some (U x.a) ∧ W'.cell? ⟨X, 3, none⟩ = some (U x.b) ∧ W'.cell? ⟨X, 4, none⟩ = some (.bool x.g.shut) ∧ W'.cell? ⟨X, 5, none⟩ = some (I x.g.all) ∧ W'.cell? ⟨X, 6, none⟩ = some (I x.g.os)) := HST0.out
  have H1 : Hid (Bt W0 w1 tb v B P p zn vv va vr s s) := h1
  clear h1 HX HST0
  obtain ⟨p0, p1, p2, p3, p4, p5, p6⟩ := HST.out w1 (Fz.refl _ _)
  have hG := bAuto H1.out.b x.n
  go_wp2_with (first
    | (go_at_call 40; refine hG.mono ?_; clear hG; rintro e w2 ⟨rfl, b1, f1⟩; have K2 : Hid (Bt W0 w2 tb v B P p zn vv va vr (autT tb s x.n) s) := H1.out.pro b1 f1; have c2 := HST.out w2 (fzP f1); clear b1 f1; clear p0 p1 p2 p3 p4 p5 p6; obtain ⟨p0, p1, p2, p3, p4, p5, p6⟩ := c2; have hD := dAuto K2.out.d x.n)
    | (go_at_call 52; refine hD.mono ?_; clear hD; rintro e w3 ⟨rfl, b2, f2⟩; have K3 : Hid (Bt W0 w3 tb v B P p zn vv va vr (autT tb s x.n) (autT tb s x.n)) := K2.out.doc b2 f2; clear b2 f2))
  go_ret
  exact ⟨by simp, _, _, _, _, K3.out⟩
theorem does_9 (h : Bt W0 w tb v B P p zn vv va vr s s) (x : Ca) (ha : x.a < 4294967296) (hb' : x.b < 4294967296) : Calls Tryz.prog 21 #[bP B, bP P, .agg #[I 9, I x.n, U x.a, U x.b, .bool x.g.shut, I x.g.all, I x.g.os]] w (DzQ W0 tb v B P p zn) := by
  have hb := below_alloc w (.cells #[I 9, I x.n, U x.a, U x.b, .bool x.g.shut, I x.g.all, I x.g.os] 48)
  have hV := heap_alloc_new w (.cells #[I 9, I x.n, U x.a, U x.b, .bool x.g.shut, I x.g.all, I x.g.os] 48)
  have h1 := h.below hb
  have HX : Hid (¬ Nb zn P vv va vr w.heap.size) := fun e => by have := h.lt e; omega
  have hq : OKq s.q := h.b.q
  have hna : tb.als.length ≤ 64 := h.b.ok.na
  have HST0 : Hid (∀ W', Fz (Nb zn P vv va vr) (w.alloc (.cells #[I 9, I x.n, U x.a, U x.b, .bool x.g.shut, I x.g.all, I x.g.os] 48)) W' → (fun X => W'.cell? ⟨X, 0, none⟩ = some (I 9) ∧ W'.cell? ⟨X, 1, none⟩ = some (I x.n) ∧ W'.cell? ⟨X, 2, none⟩ = some (U x.a) ∧ W'.cell? ⟨X, 3, none⟩ = some (U x.b) ∧ W'.cell? ⟨X, 4, none⟩ = some (.bool x.g.shut) ∧ W'.cell? ⟨X, 5, none⟩ = some (I x.g.all) ∧ W'.cell? ⟨X, 6, none⟩ = some (I x.g.os)) w.heap.size) := fun W' hf => by
    have hq := hf.heap hV HX.out
    refine ⟨?_, ?_, ?_, ?_, ?_, ?_, ?_⟩ <;> (rw [cell_of_row _ _ _ _ _ (0, 0) hq]; rfl)
  clear h hb hV
  unfold DzQ
  go_enter Tryz.func21, Tryz.ntmps21
  go_upto_region 1 with fail
  generalize w.alloc (.cells #[I 9, I x.n, U x.a, U x.b, .bool x.g.shut, I x.g.all, I x.g.os] 48) = w1 at *
  generalize w.heap.size = X at *
  have HST : Hid (∀ W', Fz (Nb zn P vv va vr) w1 W' → W'.cell? ⟨X, 0, none⟩ = some (I 9) ∧ W'.cell? ⟨X, 1, none⟩ = some (I x.n) ∧ W'.cell? ⟨X, 2, none⟩ = some (U x.a) ∧ W'.cell? ⟨X, 3, none⟩ = some (U x.b) ∧ W'.cell? ⟨X, 4, none⟩ = some (.bool x.g.shut) ∧ W'.cell? ⟨X, 5, none⟩ = some (I x.g.all) ∧ W'.cell? ⟨X, 6, none⟩ = some (I x.g.os)) := HST0.out
  have H1 : Hid (Bt W0 w1 tb v B P p zn vv va vr s s) := h1
  clear h1 HX HST0
  obtain ⟨p0, p1, p2, p3, p4, p5, p6⟩ := HST.out w1 (Fz.refl _ _)
  have hG := bNext H1.out.b (x.a : Int) x.g
  go_wp2_with (first
    | (go_at_call 23; refine hG.mono ?_; clear hG; rintro e w2 ⟨rfl, b1⟩; have K2 : Hid (Bt W0 w2 tb v B P p zn vv va vr s s) := H1.out.below b1; have c2 := HST.out w2 (Fz.of_below b1); clear b1; clear p0 p1 p2 p3 p4 p5 p6; obtain ⟨p0, p1, p2, p3, p4, p5, p6⟩ := c2; have hD := dNext K2.out.d (x.a : Int) x.g)
    | (go_at_call 54; refine hD.mono ?_; clear hD; rintro e w3 ⟨rfl, b2⟩; have K3 : Hid (Bt W0 w3 tb v B P p zn vv va vr s s) := K2.out.below b2; clear b2))
  go_ret
  exact ⟨by simp, _, _, _, _, K3.out⟩
theorem does_2 (h : Bt W0 w tb v B P p zn vv va vr s s) (x : Ca) (ha : x.a < 4294967296) (hb' : x.b < 4294967296) : Calls Tryz.prog 21 #[bP B, bP P, .agg #[I 2, I x.n, U x.a, U x.b, .bool x.g.shut, I x.g.all, I x.g.os]] w (DzQ W0 tb v B P p zn) := by
  have hb := below_alloc w (.cells #[I 2, I x.n, U x.a, U x.b, .bool x.g.shut, I x.g.all, I x.g.os] 48)
  have hV := heap_alloc_new w (.cells #[I 2, I x.n, U x.a, U x.b, .bool x.g.shut, I x.g.all, I x.g.os] 48)
  have h1 := h.below hb
  have HX : Hid (¬ Nb zn P vv va vr w.heap.size) := fun e => by have := h.lt e; omega
  have hq : OKq s.q := h.b.q
  have hna : tb.als.length ≤ 64 := h.b.ok.na
  have HST0 : Hid (∀ W', Fz (Nb zn P vv va vr) (w.alloc (.cells #[I 2, I x.n, U x.a, U x.b, .bool x.g.shut, I x.g.all, I x.g.os] 48)) W' → (fun X => W'.cell? ⟨X, 0, none⟩ = some (I 2) ∧ W'.cell? ⟨X, 1, none⟩ = some (I x.n) ∧ W'.cell? ⟨X, 2, none⟩ = some (U x.a) ∧ W'.cell? ⟨X, 3, none⟩ = some (U x.b) ∧ W'.cell? ⟨X, 4, none⟩ = some (.bool x.g.shut) ∧ W'.cell? ⟨X, 5, none⟩ = some (I x.g.all) ∧ W'.cell? ⟨X, 6, none⟩ = some (I x.g.os)) w.heap.size) := fun W' hf => by
    have hq := hf.heap hV HX.out
    refine ⟨?_, ?_, ?_, ?_, ?_, ?_, ?_⟩ <;> (rw [cell_of_row _ _ _ _ _ (0, 0) hq]; rfl)
  clear h hb hV
  unfold DzQ
  go_enter Tryz.func21, Tryz.ntmps21
  go_upto_region 1 with fail
  generalize w.alloc (.cells #[I 2, I x.n, U x.a, U x.b, .bool x.g.shut, I x.g.all, I x.g.os] 48) = w1 at *
  generalize w.heap.size = X at *
  have HST : Hid (∀ W', Fz (Nb zn P vv va vr) w1 W' → W'.cell? ⟨X, 0, none⟩ = some (I 2) ∧ W'.cell? ⟨X, 1, none⟩ = some (I x.n) ∧ W'.cell? ⟨X, 2, none⟩ = some (U x.a) ∧ W'.cell? ⟨X, 3, none⟩ = some (U x.b) ∧ W'.cell? ⟨X, 4, none⟩ = some (.bool x.g.shut) ∧ W'.cell? ⟨X, 5, none⟩ = some (I x.g.all) ∧ W'.cell? ⟨X, 6, none⟩ = some (I x.g.os)) := HST0.out
  have H1 : Hid (Bt W0 w1 tb v B P p zn vv va vr s s) := h1
  clear h1 HX HST0
  obtain ⟨p0, p1, p2, p3, p4, p5, p6⟩ := HST.out w1 (Fz.refl _ _)
  obtain ⟨y0, y1, y2, hy⟩ := bas_agg tb x.n
  have hG := bBase H1.out.b x.n
  rw [hy] at hG
  have hE := fun w => eql_base w y0 y1 y2
  go_wp2_with (first
    | (go_at_call 39; refine hG.mono ?_; clear hG; rintro e w2 ⟨rfl, b1⟩; have b1' := b1.trans ((below_alloc w2 (.cells #[U y0, U y1, U y2] 83)).mono b1.size); have K2 : Hid (Bt W0 (w2.alloc (.cells #[U y0, U y1, U y2] 83)) tb v B P p zn vv va vr s s) := H1.out.below b1'; have c2 := HST.out _ (Fz.of_below b1'); have hv2 := heap_alloc_new w2 (.cells #[U y0, U y1, U y2] 83); clear p0 p1 p2 p3 p4 p5 p6; obtain ⟨p0, p1, p2, p3, p4, p5, p6⟩ := c2; have hD := dBase K2.out.d x.n; rw [hy] at hD; clear b1 b1')
    | (go_at_call 47; refine hD.mono ?_; clear hD; rintro e w3 ⟨rfl, b2⟩; have K3 : Hid (Bt W0 (w3.alloc (.cells #[U y0, U y1, U y2] 83)) tb v B P p zn vv va vr s s) := (K2.out.below b2).below (below_alloc w3 _); have hv3 := (b2.block _ (heap_lt hv2)).trans hv2; have hv4 := ((below_alloc w3 (.cells #[U y0, U y1, U y2] 83)).block _ (heap_lt hv3)).trans hv3; have hv5 := heap_alloc_new w3 (.cells #[U y0, U y1, U y2] 83); have r0 : (w3.alloc (.cells #[U y0, U y1, U y2] 83)).cell? ⟨w2.heap.size, 0, none⟩ = some (U y0) := (by rw [cell_of_row _ _ _ _ _ (0, 0) hv4]; rfl); have r1 : (w3.alloc (.cells #[U y0, U y1, U y2] 83)).cell? ⟨w2.heap.size, 1, none⟩ = some (U y1) := (by rw [cell_of_row _ _ _ _ _ (0, 0) hv4]; rfl); have r2 : (w3.alloc (.cells #[U y0, U y1, U y2] 83)).cell? ⟨w2.heap.size, 2, none⟩ = some (U y2) := (by rw [cell_of_row _ _ _ _ _ (0, 0) hv4]; rfl); clear b2 hv2 hv3 hv4 hv5))
  go_ret
  exact ⟨by simp, _, _, _, _, K3.out⟩
theorem does_11 (h : Bt W0 w tb v B P p zn vv va vr s s) (x : Ca) (ha : x.a < 4294967296) (hb' : x.b < 4294967296) : Calls Tryz.prog 21 #[bP B, bP P, .agg #[I 11, I x.n, U x.a, U x.b, .bool x.g.shut, I x.g.all, I x.g.os]] w (DzQ W0 tb v B P p zn) := by
  have hb := below_alloc w (.cells #[I 11, I x.n, U x.a, U x.b, .bool x.g.shut, I x.g.all, I x.g.os] 48)
  have hV := heap_alloc_new w (.cells #[I 11, I x.n, U x.a, U x.b, .bool x.g.shut, I x.g.all, I x.g.os] 48)
  have h1 := h.below hb
  have HX : Hid (¬ Nb zn P vv va vr w.heap.size) := fun e => by have := h.lt e; omega
  have hq : OKq s.q := h.b.q
  have hna : tb.als.length ≤ 64 := h.b.ok.na
  have HST0 : Hid (∀ W', Fz (Nb zn P vv va vr) (w.alloc (.cells #[I 11, I x.n, U x.a, U x.b, .bool x.g.shut, I x.g.all, I x.g.os] 48)) W' → (fun X => W'.cell? ⟨X, 0, none⟩ = some (I 11) ∧ W'.cell? ⟨X, 1, none⟩ = some (I x.n) ∧ W'.cell? ⟨X, 2, none⟩ = some (U x.a) ∧ W'.cell? ⟨X, 3, none⟩ = some (U x.b) ∧ W'.cell? ⟨X, 4, none⟩ = some (.bool x.g.shut) ∧ W'.cell? ⟨X, 5, none⟩ = some (I x.g.all) ∧ W'.cell? ⟨X, 6, none⟩ = some (I x.g.os)) w.heap.size) := fun W' hf => by
    have hq := hf.heap hV HX.out
    refine ⟨?_, ?_, ?_, ?_, ?_, ?_, ?_⟩ <;> (rw [cell_of_row _ _ _ _ _ (0, 0) hq]; rfl)
  clear h hb hV
  unfold DzQ
  go_enter Tryz.func21, Tryz.ntmps21
  go_upto_region 1 with fail
  generalize w.alloc (.cells #[I 11, I x.n, U x.a, U x.b, .bool x.g.shut, I x.g.all, I x.g.os] 48) = w1 at *
  generalize w.heap.size = X at *
  have HST : Hid (∀ W', Fz (Nb zn P vv va vr) w1 W' → W'.cell? ⟨X, 0, none⟩ = some (I 11) ∧ W'.cell? ⟨X, 1, none⟩ = some (I x.n) ∧ W'.cell? ⟨X, 2, none⟩ = some (U x.a) ∧ W'.cell? ⟨X, 3, none⟩ = some (U x.b) ∧ W'.cell? ⟨X, 4, none⟩ = some (.bool x.g.shut) ∧ W'.cell? ⟨X, 5, none⟩ = some (I x.g.all) ∧ W'.cell? ⟨X, 6, none⟩ = some (I x.g.os)) := HST0.out
  have H1 : Hid (Bt W0 w1 tb v B P p zn vv va vr s s) := h1
  clear h1 HX HST0
  obtain ⟨p0, p1, p2, p3, p4, p5, p6⟩ := HST.out w1 (Fz.refl _ _)
  have hD := dCalm H1.out.d
  go_wp2_with (first
    | (go_at_call 56; refine hD.mono ?_; clear hD; rintro e w2 ⟨rfl, ga, gr, la, lr, b2, f2⟩; have K2 : Hid (∃ va' vr', Bt W0 w2 tb v B P p zn vv va' vr' s (calT tb s)) := ⟨_, _, H1.out.doc2 b2 f2 (by rintro z (e | e | e | e); exact .inl (.inl e); exact .inl (.inr (.inl e)); exact .inr (by have e2 : ga = z := Option.some.inj e; omega); exact .inr (by have e2 : gr = z := Option.some.inj e; omega))⟩; clear b2 f2; obtain ⟨va', vr', k2⟩ := K2.out; have hG := bCalm k2.b; have K3 : Hid (Bt W0 w2 tb v B P p zn vv va' vr' s (calT tb s)) := k2; clear k2 K2)
    | (go_at_call 20; refine hG.mono ?_; clear hG; rintro e w3 ⟨rfl, b3, f3⟩; have K4 : Hid (Bt W0 w3 tb v B P p zn vv va' vr' (calT tb s) (calT tb s)) := K3.out.pro b3 f3; clear b3 f3))
  go_ret
  exact ⟨rfl, _, _, _, _, K4.out⟩
theorem does_else (h : Bt W0 w tb v B P p zn vv va vr s s) (x : Ca) (hk : x.kind ≠ 1 ∧ x.kind ≠ 2 ∧ x.kind ≠ 3 ∧ x.kind ≠ 4 ∧ x.kind ≠ 5 ∧ x.kind ≠ 6 ∧ x.kind ≠ 7 ∧ x.kind ≠ 8 ∧ x.kind ≠ 9 ∧ x.kind ≠ 10 ∧ x.kind ≠ 11) : Calls Tryz.prog 21 #[bP B, bP P, .agg #[I x.kind, I x.n, U x.a, U x.b, .bool x.g.shut, I x.g.all, I x.g.os]] w (DzQ W0 tb v B P p zn) := by
  have hb := below_alloc w (.cells #[I x.kind, I x.n, U x.a, U x.b, .bool x.g.shut, I x.g.all, I x.g.os] 48)
  have hV := heap_alloc_new w (.cells #[I x.kind, I x.n, U x.a, U x.b, .bool x.g.shut, I x.g.all, I x.g.os] 48)
  have HH : Hid (Bt W0 (w.alloc (.cells #[I x.kind, I x.n, U x.a, U x.b, .bool x.g.shut, I x.g.all, I x.g.os] 48)) tb v B P p zn vv va vr s s) := h.below hb
  have p0 : (w.alloc (.cells #[I x.kind, I x.n, U x.a, U x.b, .bool x.g.shut, I x.g.all, I x.g.os] 48)).cell? ⟨w.heap.size, 0, none⟩ = some (I x.kind) := by rw [cell_of_row _ _ _ _ _ (0, 0) hV]; rfl
  obtain ⟨k1, k2, k3, k4, k5, k6, k7, k8, k9, k10, k11⟩ := hk
  have q1 : (x.kind == 1) = false := by simpa using k1
  have q2 : (x.kind == 2) = false := by simpa using k2
  have q3 : (x.kind == 3) = false := by simpa using k3
  have q4 : (x.kind == 4) = false := by simpa using k4
  have q5 : (x.kind == 5) = false := by simpa using k5
  have q6 : (x.kind == 6) = false := by simpa using k6
  have q7 : (x.kind == 7) = false := by simpa using k7
  have q8 : (x.kind == 8) = false := by simpa using k8
  have q9 : (x.kind == 9) = false := by simpa using k9
  have q10 : (x.kind == 10) = false := by simpa using k10
  have q11 : (x.kind == 11) = false := by simpa using k11
  clear h hb hV k1 k2 k3 k4 k5 k6 k7 k8 k9 k10 k11
  unfold DzQ
  go_enter Tryz.func21, Tryz.ntmps21
  go_wp2
  go_ret
  exact ⟨rfl, _, _, _, _, HH.out⟩
theorem does_any (h : Bt W0 w tb v B P p zn vv va vr s s) (x : Ca) (ha : x.a < 4294967296) (hb' : x.b < 4294967296) : Calls Tryz.prog 21 #[bP B, bP P, .agg #[I x.kind, I x.n, U x.a, U x.b, .bool x.g.shut, I x.g.all, I x.g.os]] w (DzQ W0 tb v B P p zn) := by
  by_cases k1 : x.kind = 1
  · rw [k1]; exact does_1 h x ha hb'
  by_cases k2 : x.kind = 2
  · rw [k2]; exact does_2 h x ha hb'
  by_cases k3 : x.kind = 3
  · rw [k3]; exact does_3 h x ha hb'
  by_cases k4 : x.kind = 4
  · rw [k4]; exact does_4 h x ha hb'
  by_cases k5 : x.kind = 5
  · rw [k5]; exact does_5 h x ha hb'
  by_cases k6 : x.kind = 6
  · rw [k6]; exact does_6 h x ha hb'
  by_cases k7 : x.kind = 7
  · rw [k7]; exact does_7 h x ha hb'
  by_cases k8 : x.kind = 8
  · rw [k8]; exact does_8 h x ha hb'
  by_cases k9 : x.kind = 9
  · rw [k9]; exact does_9 h x ha hb'
  by_cases k10 : x.kind = 10
  · rw [k10]; exact does_10 h x ha hb'
  by_cases k11 : x.kind = 11
  · rw [k11]; exact does_11 h x ha hb'
  exact does_else h x ⟨k1, k2, k3, k4, k5, k6, k7, k8, k9, k10, k11⟩
end
end Go.Proofs.YthhckhifaolmkaaGreat
