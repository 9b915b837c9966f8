import Derived.Test.YthmecgfbapemjaaDoorDc
namespace Go.Proofs.YthmecgfbapemjaaDoor
open Go.RowKit Go.Shelf Go.Sort
set_option linter.unusedVariables false
set_option linter.unusedSimpArgs false

/-! ### shift -/
section
variable {w w' : World} {B : Nat} {v u : Value} {rs : List Rw} {ss : List Sd}
/-- the move (f, t) may be made by tasks of these kinds -/
def MvP (f t : Nat) (al : Bool → Bool) : Prop := ∀ (w : World) (x : Bool), EnvR w → Calls Tryd.prog 43 #[.agg #[I f, I t], .bool x] w fun e w' => e = .returned (.bool (al x)) ∧ Below w.heap.size w w'
set_option maxHeartbeats 2000000 in
set_option maxRecDepth 100000 in
theorem shift_no (h : Ck w B v u rs ss) {k : Nat} {r : Rw} {x : Sd} (hr : rs[k]? = some r) (hx : ss[k]? = some x) (f t : Nat) (hne : x.1 ≠ f) : Calls Tryd.prog 31 #[cP B, I k, .agg #[I f, I t]] w fun e w' => e = .returned (I 180) ∧ Below w.heap.size w w' := by
  have hk : k < rs.length := (List.getElem?_eq_some_iff.1 hr).1
  have hkS : (k : Int) < ss.length := by have := h.n; omega
  have hkR : (k : Int) < rs.length := by omega
  have hneI : ((x.1 : Int) == f) = false := beq_eq_false_iff_ne.2 (by omega)
  have hneP : ¬ ((x.1 : Int) = f) := by omega
  have hb := below_alloc w (.cells #[I f, I t] 74)
  obtain ⟨y0, y1⟩ := box_two w _ (I f) (I t) 74 (Below.refl _ (w.alloc (.cells #[I f, I t] 74)))
  have h1 := h.below hb
  obtain ⟨c0, c1, c2⟩ := h1.cells
  obtain ⟨g, c, g2, cc2, rfl, rfl, q1, q2, q3, q4, q5⟩ := h1.at hr hx
  have HB : Hid (Below w.heap.size w (w.alloc (.cells #[I f, I t] 74))) := hb
  have hX : w.heap.size < (w.alloc (.cells #[I f, I t] 74)).heap.size := by simp
  clear h h1 hne hr hx hk hb
  go_enter Tryd.func31, Tryd.ntmps31
  go_upto_region 1 with (first | fail)
  generalize hXe : w.heap.size = X at *
  generalize (w.alloc (.cells #[I f, I t] 74)) = w1 at *
  have HXE : Hid (w.heap.size = X) := hXe
  clear hXe
  go_upto_region 2 with (first | fail)
  go_region_held_law (fun w' => w'.cell? ⟨g2, k * 2, none⟩ = some (I x.1) ∧ w'.cell? ⟨X, 1, none⟩ = some (I t)) (first | exact ⟨q3, y1⟩ | (go_keep; done)) (fail)
  all_goals
    have b2 : Below w1.heap.size w1 (w1.alloc (.cells #[I x.1, I t] 74)).drew := (below_alloc w1 _).drew
    have z0 : (w1.alloc (.cells #[I x.1, I t] 74)).drew.cell? ⟨w1.heap.size, 0, none⟩ = some (I x.1) := (box_two w1 _ (I x.1) (I t) 74 (Below.refl _ _).drew).1
    have z1 : (w1.alloc (.cells #[I x.1, I t] 74)).drew.cell? ⟨w1.heap.size, 1, none⟩ = some (I t) := (box_two w1 _ (I x.1) (I t) 74 (Below.refl _ _).drew).2
    have kc : ∀ {g i : Nat} {v : Value}, w1.cell? ⟨g, i, none⟩ = some v → (w1.alloc (.cells #[I x.1, I t] 74)).drew.cell? ⟨g, i, none⟩ = some v := fun hc => (Fz.of_below (M := fun _ => False) b2).cell hc id
    have a0 := kc y0
    have a1 := kc y1
    have HC : Hid (Below X w (w1.alloc (.cells #[I x.1, I t] 74)).drew) := HB.out.trans (b2.mono (Nat.le_of_lt hX))
    clear y0 y1 c0 c1 c2 q1 q2 q3 q4 q5 b2 HB kc
    go_upto_region 3 with (first | fail)
    generalize (w1.alloc (.cells #[I x.1, I t] 74)).drew = w2 at *
    generalize w1.heap.size = Y at *
    have a0' := cell_regrown a0
    have a1' := cell_regrown a1
    have z0' := cell_regrown z0
    have z1' := cell_regrown z1
    clear a0 a1 z0 z1
    refine wp_region_quiet_below (by kernel_rfl) (by kernel_rfl) ?_
    repeat (go_big_quiet_step (first | fail))
    refine wpQuiet_nil ?_
    rintro _ ⟨⟨dq, osq⟩, rfl⟩
    dsimp only
    have HD : Hid (Below X w (grow (redrawn w2 dq) osq)) := HC.out.trans ((below_regrown w2 dq osq).mono (by have h8 := HC.out.size; have h9 := HXE.out; omega))
    clear a0' a1' z0' z1'
    generalize grow (redrawn w2 dq) osq = w7 at *
    go_wp2
    go_ret
    exact ⟨rfl, by rw [HXE.out]; exact HD.out⟩
set_option maxHeartbeats 2000000 in
set_option maxRecDepth 100000 in
theorem shift_bar (h : Ck w B v u rs ss) {k : Nat} {r : Rw} {x : Sd} (hr : rs[k]? = some r) (hx : ss[k]? = some x) (t : Nat) (hE : EnvR w) (al : Bool → Bool) (hM : MvP x.1 t al) (hal : al r.2 = false) : Calls Tryd.prog 31 #[cP B, I k, .agg #[I x.1, I t]] w fun e w' => e = .returned (I 180) ∧ Below w.heap.size w w' := by
  have hk : k < rs.length := (List.getElem?_eq_some_iff.1 hr).1
  have hkS : (k : Int) < ss.length := by have := h.n; omega
  have hkR : (k : Int) < rs.length := by omega
  have hb := below_alloc w (.cells #[I x.1, I t] 74)
  obtain ⟨y0, y1⟩ := box_two w _ (I x.1) (I t) 74 (Below.refl _ (w.alloc (.cells #[I x.1, I t] 74)))
  have h1 := h.below hb
  obtain ⟨c0, c1, c2⟩ := h1.cells
  obtain ⟨g, c, g2, cc2, rfl, rfl, q1, q2, q3, q4, q5⟩ := h1.at hr hx
  have HB : Hid (Below w.heap.size w (w.alloc (.cells #[I x.1, I t] 74))) := hb
  have hX : w.heap.size < (w.alloc (.cells #[I x.1, I t] 74)).heap.size := by simp
  have hE1 := hE.up hb
  clear h h1 hr hx hk hb hE
  go_enter Tryd.func31, Tryd.ntmps31
  go_upto_region 1 with (first | fail)
  generalize hXe : w.heap.size = X at *
  generalize (w.alloc (.cells #[I x.1, I t] 74)) = w1 at *
  have HXE : Hid (w.heap.size = X) := hXe
  clear hXe
  go_upto_region 2 with (first | fail)
  go_region_held_law (fun w' => w'.cell? ⟨g2, k * 2, none⟩ = some (I x.1) ∧ w'.cell? ⟨X, 1, none⟩ = some (I t)) (first | exact ⟨q3, y1⟩ | (go_keep; done)) (fail)
  all_goals
    have b2 : Below w1.heap.size w1 (w1.alloc (.cells #[I x.1, I t] 74)).drew := (below_alloc w1 _).drew
    have z0 : (w1.alloc (.cells #[I x.1, I t] 74)).drew.cell? ⟨w1.heap.size, 0, none⟩ = some (I x.1) := (box_two w1 _ (I x.1) (I t) 74 (Below.refl _ _).drew).1
    have z1 : (w1.alloc (.cells #[I x.1, I t] 74)).drew.cell? ⟨w1.heap.size, 1, none⟩ = some (I t) := (box_two w1 _ (I x.1) (I t) 74 (Below.refl _ _).drew).2
    have kc : ∀ {g i : Nat} {v : Value}, w1.cell? ⟨g, i, none⟩ = some v → (w1.alloc (.cells #[I x.1, I t] 74)).drew.cell? ⟨g, i, none⟩ = some v := fun hc => (Fz.of_below (M := fun _ => False) b2).cell hc id
    have a0 := kc y0
    have a1 := kc y1
    have d1 := kc c1
    have d2 := kc q2
    have hE2 := hE1.up b2
    have HC : Hid (Below X w (w1.alloc (.cells #[I x.1, I t] 74)).drew) := HB.out.trans (b2.mono (Nat.le_of_lt hX))
    clear y0 y1 c0 c1 c2 q1 q2 q3 q4 q5 b2 HB kc hE1
    go_upto_region 3 with (first | fail)
    generalize (w1.alloc (.cells #[I x.1, I t] 74)).drew = w2 at *
    generalize w1.heap.size = Y at *
    have a0' := cell_regrown a0
    have a1' := cell_regrown a1
    have d1' := cell_regrown d1
    have d2' := cell_regrown d2
    have cA : ∀ d os, Calls Tryd.prog 43 #[.agg #[I x.1, I t], .bool r.2] (grow (redrawn w2 d) os) fun e w'' => e = .returned (.bool false) ∧ ∃ p : Regrown, w'' = grow (redrawn w2 p.d) p.os := fun d os => Calls.regrown_of ((hM _ r.2 (hE2.up (below_regrown w2 d os))).mono (fun e w' h => ⟨by rw [h.1, hal], h.2⟩))
    have z0' := cell_regrown z0
    have z1' := cell_regrown z1
    clear a0 a1 z0 z1 d1 d2 hE2 hM hal
    refine wp_region_quiet_below (by kernel_rfl) (by kernel_rfl) ?_
    repeat (go_big_quiet_step (first | exact cA _ _))
    refine wpQuiet_nil ?_
    rintro _ ⟨⟨dq, osq⟩, rfl⟩
    dsimp only
    have HD : Hid (Below X w (grow (redrawn w2 dq) osq)) := HC.out.trans ((below_regrown w2 dq osq).mono (by have h8 := HC.out.size; have h9 := HXE.out; omega))
    clear a0' a1' z0' z1' d1' d2' cA
    generalize grow (redrawn w2 dq) osq = w7 at *
    go_wp2
    go_ret
    exact ⟨rfl, by rw [HXE.out]; exact HD.out⟩
set_option maxHeartbeats 2000000 in
set_option maxRecDepth 100000 in
theorem shift_ok (h : Ck w B v u rs ss) {k : Nat} {r : Rw} {x : Sd} (hr : rs[k]? = some r) (hx : ss[k]? = some x) (t : Nat) (hE : EnvR w) (al : Bool → Bool) (hM : MvP x.1 t al) (hal : al r.2 = true) : Calls Tryd.prog 31 #[cP B, I k, .agg #[I x.1, I t]] w fun e w' => e = .returned (I 0) ∧ Ck w' B v u rs (ss.set k (t, x.2)) ∧ Fz (Cb B v u) w w' := by
  have hk : k < rs.length := (List.getElem?_eq_some_iff.1 hr).1
  have hkS : (k : Int) < ss.length := by have := h.n; omega
  have hkR : (k : Int) < rs.length := by omega
  have hb := below_alloc w (.cells #[I x.1, I t] 74)
  obtain ⟨y0, y1⟩ := box_two w _ (I x.1) (I t) 74 (Below.refl _ (w.alloc (.cells #[I x.1, I t] 74)))
  have h1 := h.below hb
  obtain ⟨c0, c1, c2⟩ := h1.cells
  obtain ⟨g, c, g2, cc2, rfl, rfl, q1, q2, q3, q4, q5⟩ := h1.at hr hx
  have HB : Hid (Below w.heap.size w (w.alloc (.cells #[I x.1, I t] 74))) := hb
  have hX : w.heap.size < (w.alloc (.cells #[I x.1, I t] 74)).heap.size := by simp
  have hE1 := hE.up hb
  have HK1 : Hid (Ck (w.alloc (.cells #[I x.1, I t] 74)) B (.slice (some ⟨g, 0, none⟩) rs.length c) (.slice (some ⟨g2, 0, none⟩) ss.length cc2) rs ss) := h1
  have HX : Hid (ss[k]? = some x) := hx
  clear h h1 hr hx hk hb hE
  go_enter Tryd.func31, Tryd.ntmps31
  go_upto_region 1 with (first | fail)
  generalize hXe : w.heap.size = X at *
  generalize (w.alloc (.cells #[I x.1, I t] 74)) = w1 at *
  have HXE : Hid (w.heap.size = X) := hXe
  clear hXe
  go_upto_region 2 with (first | fail)
  go_region_held_law (fun w' => w'.cell? ⟨g2, k * 2, none⟩ = some (I x.1) ∧ w'.cell? ⟨X, 1, none⟩ = some (I t)) (first | exact ⟨q3, y1⟩ | (go_keep; done)) (fail)
  all_goals
    have b2 : Below w1.heap.size w1 (w1.alloc (.cells #[I x.1, I t] 74)).drew := (below_alloc w1 _).drew
    have z0 : (w1.alloc (.cells #[I x.1, I t] 74)).drew.cell? ⟨w1.heap.size, 0, none⟩ = some (I x.1) := (box_two w1 _ (I x.1) (I t) 74 (Below.refl _ _).drew).1
    have z1 : (w1.alloc (.cells #[I x.1, I t] 74)).drew.cell? ⟨w1.heap.size, 1, none⟩ = some (I t) := (box_two w1 _ (I x.1) (I t) 74 (Below.refl _ _).drew).2
    have kc : ∀ {g i : Nat} {v : Value}, w1.cell? ⟨g, i, none⟩ = some v → (w1.alloc (.cells #[I x.1, I t] 74)).drew.cell? ⟨g, i, none⟩ = some v := fun hc => (Fz.of_below (M := fun _ => False) b2).cell hc id
    have a0 := kc y0
    have a1 := kc y1
    have d1 := kc c1
    have d2 := kc q2
    have hE2 := hE1.up b2
    have HK2 : Hid (Ck (w1.alloc (.cells #[I x.1, I t] 74)).drew B (.slice (some ⟨g, 0, none⟩) rs.length c) (.slice (some ⟨g2, 0, none⟩) ss.length cc2) rs ss) := HK1.out.below b2
    have e1 := kc y1
    have HC : Hid (Below X w (w1.alloc (.cells #[I x.1, I t] 74)).drew) := HB.out.trans (b2.mono (Nat.le_of_lt hX))
    clear y0 y1 c0 c1 c2 q1 q2 q3 q4 q5 b2 HB kc hE1
    go_upto_region 3 with (first | fail)
    generalize (w1.alloc (.cells #[I x.1, I t] 74)).drew = w2 at *
    generalize w1.heap.size = Y at *
    have a0' := cell_regrown a0
    have a1' := cell_regrown a1
    have d1' := cell_regrown d1
    have d2' := cell_regrown d2
    have cA : ∀ d os, Calls Tryd.prog 43 #[.agg #[I x.1, I t], .bool r.2] (grow (redrawn w2 d) os) fun e w'' => e = .returned (.bool true) ∧ ∃ p : Regrown, w'' = grow (redrawn w2 p.d) p.os := fun d os => Calls.regrown_of ((hM _ r.2 (hE2.up (below_regrown w2 d os))).mono (fun e w' h => ⟨by rw [h.1, hal], h.2⟩))
    have z0' := cell_regrown z0
    have z1' := cell_regrown z1
    clear a0 a1 z0 z1 d1 d2 hE2 hM hal
    refine wp_region_quiet_below (by kernel_rfl) (by kernel_rfl) ?_
    repeat (go_big_quiet_step (first | exact cA _ _))
    refine wpQuiet_nil ?_
    rintro _ ⟨⟨dq, osq⟩, rfl⟩
    dsimp only
    have e1' := (Fz.of_below (M := fun _ => False) (below_regrown w2 dq osq)).cell e1 id
    have HK3 : Hid (Ck (grow (redrawn w2 dq) osq) B (.slice (some ⟨g, 0, none⟩) rs.length c) (.slice (some ⟨g2, 0, none⟩) ss.length cc2) rs ss) := HK2.out.below (below_regrown w2 dq osq)
    have HD : Hid (Below X w (grow (redrawn w2 dq) osq)) := HC.out.trans ((below_regrown w2 dq osq).mono (by have h8 := HC.out.size; have h9 := HXE.out; omega))
    clear a0' a1' z0' z1' d1' d2' cA
    clear e1
    generalize grow (redrawn w2 dq) osq = w7 at *
    have HF : Hid (Fz (Cb B (.slice (some ⟨g, 0, none⟩) rs.length c) (.slice (some ⟨g2, 0, none⟩) ss.length cc2)) w (w7.setCell ⟨g2, k * 2, none⟩ (I t))) := (Fz.of_below (by rw [HXE.out]; exact HD.out)).set (.inl (.inr (.inr rfl))) _ _
    have HK4 : Hid (Ck (w7.setCell ⟨g2, k * 2, none⟩ (I t)) B (.slice (some ⟨g, 0, none⟩) rs.length c) (.slice (some ⟨g2, 0, none⟩) ss.length cc2) rs (ss.set k (t, x.2))) := HK3.out.setS HX.out t
    obtain ⟨p1, p2⟩ : w7.cell? ⟨g2, k * 2, none⟩ = some (I x.1) ∧ w7.frozen? ⟨g2, k * 2, none⟩ = false := ⟨by rw [HK3.out.q.cellAt _ (by have := (List.getElem?_eq_some_iff.1 HX.out).1; omega)]; exact (flS_at HX.out).1, HK3.out.q.frozenAt _⟩
    clear HK3 HD
    go_wp2
    go_ret
    exact ⟨rfl, HK4.out, HF.out⟩
end
end Go.Proofs.YthmecgfbapemjaaDoor
