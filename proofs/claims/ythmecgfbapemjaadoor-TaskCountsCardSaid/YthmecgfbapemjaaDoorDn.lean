import Derived.Test.YthmecgfbapemjaaDoorDi
namespace Go.Proofs.YthmecgfbapemjaaDoor
open Go.RowKit Go.Shelf Go.Sort
set_option linter.unusedVariables false
set_option linter.unusedSimpArgs false

/-! ### The document's table -/
def stL (ss : List Sd) : List Value := ss.map fun x => I (x.1 : Int)
def nL (ss : List Sd) : List Value := ss.map fun x => I (x.2 : Int)
theorem stL_len (ss : List Sd) : (stL ss).length = ss.length := by simp [stL]
theorem nL_len (ss : List Sd) : (nL ss).length = ss.length := by simp [nL]
theorem stL_at {ss : List Sd} {k : Nat} {x : Sd} (h : ss[k]? = some x) : (stL ss)[k]? = some (I x.1) := by simp [stL, h]
theorem nL_at {ss : List Sd} {k : Nat} {x : Sd} (h : ss[k]? = some x) : (nL ss)[k]? = some (I x.2) := by simp [nL, h]
theorem stL_set (ss : List Sd) (k : Nat) (y : Sd) : stL (ss.set k y) = (stL ss).set k (I y.1) := by simp [stL, List.map_set]
theorem nL_set (ss : List Sd) (k : Nat) (y : Sd) : nL (ss.set k y) = (nL ss).set k (I y.2) := by simp [nL, List.map_set]
theorem stL_one (ss : List Sd) : ∀ v ∈ stL ss, v.oneCell' = true := fun v hv => by
  obtain ⟨x, _, rfl⟩ := List.mem_map.1 hv
  rfl
theorem nL_one (ss : List Sd) : ∀ v ∈ nL ss, v.oneCell' = true := fun v hv => by
  obtain ⟨x, _, rfl⟩ := List.mem_map.1 hv
  rfl
/-- rows of unlike things lie apart -/
theorem own_ne {w : World} {b1 b2 e1 e2 k1 k2 n1 n2 : Nat} {v1 v2 : Value} {x1 x2 : List Value} (h1 : w.ownsRow b1 e1 k1 v1 n1 x1) (h2 : w.ownsRow b2 e2 k2 v2 n2 x2) (he : e1 ≠ e2) {g : Nat} (hg : v1.ownBlock = some g) : v2.ownBlock ≠ some g := by
  intro hg2
  rcases h1.2 with ⟨rfl, _⟩ | ⟨g1, c1, cur1, rfl, _, hh1, _⟩
  · cases hg
  · rcases h2.2 with ⟨rfl, _⟩ | ⟨g2, c2, cur2, rfl, _, hh2, _⟩
    · cases hg2
    · cases hg
      cases hg2
      rw [hh1] at hh2
      injection hh2 with hh2
      injection hh2 with _ hh2 _
      exact he hh2
structure Dk (w : World) (D : Nat) (mk : Bool) (a b c : Value) (rs : List Rw) (ss : List Sd) : Prop where
  o : w.heap[D]? = some (.cells #[.bool mk, a, b, c] 57)
  p : w.ownsRow 0 27 2 a rs.length (flR rs)
  q : w.ownsRow 0 38 1 b ss.length (stL ss)
  r : w.ownsRow 0 3 1 c ss.length (nL ss)
  d1 : a.ownBlock ≠ some D
  d2 : b.ownBlock ≠ some D
  d3 : c.ownBlock ≠ some D
  n : ss.length = rs.length
  m : rs.length ≤ 256
def Db (D : Nat) (a b c : Value) (x : Nat) : Prop := x = D ∨ a.ownBlock = some x ∨ b.ownBlock = some x ∨ c.ownBlock = some x
section
variable {w w' : World} {D : Nat} {mk : Bool} {a b c : Value} {rs : List Rw} {ss : List Sd}
theorem Dk.lt (h : Dk w D mk a b c rs ss) {x : Nat} (hb : Db D a b c x) : x < w.heap.size := by
  rcases hb with rfl | e | e | e
  · exact heap_lt h.o
  · exact (h.p.lt x e).2
  · exact (h.q.lt x e).2
  · exact (h.r.lt x e).2
theorem Dk.keptZ (h : Dk w D mk a b c rs ss) {M : Nat → Prop} (hf : Fz M w w') (hM : ∀ x, Db D a b c x → ¬ M x) : Dk w' D mk a b c rs ss :=
  ⟨hf.heap h.o (hM _ (.inl rfl)), hf.own h.p (fun g e => hM g (.inr (.inl e))), hf.own h.q (fun g e => hM g (.inr (.inr (.inl e)))), hf.own h.r (fun g e => hM g (.inr (.inr (.inr e)))), h.d1, h.d2, h.d3, h.n, h.m⟩
theorem Dk.below (h : Dk w D mk a b c rs ss) (hb : Below w.heap.size w w') : Dk w' D mk a b c rs ss := h.keptZ (M := fun _ => False) (Fz.of_below hb) (fun _ _ e => e)
theorem Dk.cells (h : Dk w D mk a b c rs ss) : w.cell? ⟨D, 0, none⟩ = some (.bool mk) ∧ w.cell? ⟨D, 1, none⟩ = some a ∧ w.cell? ⟨D, 2, none⟩ = some b ∧ w.cell? ⟨D, 3, none⟩ = some c := by
  refine ⟨?_, ?_, ?_, ?_⟩ <;> (rw [cell_of_row w D _ _ _ (0, 0) h.o]; rfl)
theorem Dk.at (h : Dk w D mk a b c rs ss) {k : Nat} {r : Rw} {x : Sd} (hr : rs[k]? = some r) (hx : ss[k]? = some x) : ∃ g1 c1 g2 c2 g3 c3, a = .slice (some ⟨g1, 0, none⟩) rs.length c1 ∧ b = .slice (some ⟨g2, 0, none⟩) ss.length c2 ∧ c = .slice (some ⟨g3, 0, none⟩) ss.length c3 ∧ w.cell? ⟨g1, k * 2, none⟩ = some (I r.1) ∧ w.cell? ⟨g1, k * 2 + 1, none⟩ = some (.bool r.2) ∧ w.cell? ⟨g2, k, none⟩ = some (I x.1) ∧ w.cell? ⟨g3, k, none⟩ = some (I x.2) ∧ (∀ j, w.frozen? ⟨g2, j, none⟩ = false) ∧ (∀ j, w.frozen? ⟨g3, j, none⟩ = false) := by
  have hk : k < rs.length := (List.getElem?_eq_some_iff.1 hr).1
  have hn := h.n
  obtain ⟨g1, c1, rfl⟩ := own_some h.p (by omega)
  obtain ⟨g2, c2, rfl⟩ := own_some h.q (by omega)
  obtain ⟨g3, c3, rfl⟩ := own_some h.r (by omega)
  obtain ⟨e1, e2⟩ := flR_at hr
  exact ⟨g1, c1, g2, c2, g3, c3, rfl, rfl, rfl, by rw [h.p.cellAt _ (by omega)]; exact e1, by rw [h.p.cellAt _ (by omega)]; exact e2, by rw [h.q.cellAt _ (by omega)]; exact stL_at hx, by rw [h.r.cellAt _ (by omega)]; exact nL_at hx, h.q.frozenAt, h.r.frozenAt⟩
theorem Dk.setS {g e : Nat} (h : Dk w D mk a (.slice (some ⟨g, 0, none⟩) ss.length e) c rs ss) {k : Nat} {x : Sd} (hx : ss[k]? = some x) (y : Nat) : Dk (w.setCell ⟨g, k, none⟩ (I y)) D mk a (.slice (some ⟨g, 0, none⟩) ss.length e) c rs (ss.set k (y, x.2)) := by
  have hf : Fz (fun b => b = g) w (w.setCell ⟨g, k, none⟩ (I y)) := (Fz.refl (fun b => b = g) w).set (.inl rfl) _ _
  have hd : D ≠ g := fun e => h.d2 (by rw [e]; rfl)
  refine ⟨hf.heap h.o hd, hf.own h.p (fun g2 e1 e2 => own_ne h.p h.q (by decide) e1 (by rw [e2]; rfl)), ?_, ?_, h.d1, h.d2, h.d3, by rw [List.length_set]; exact h.n, h.m⟩
  · rw [stL_set, List.length_set]
    exact (h.q.stored k (I y)).1
  · rw [nL_set, List.length_set, set_self (nL_at hx)]
    exact hf.own h.r (fun g2 e1 e2 => own_ne h.r h.q (by decide) e1 (by rw [e2]; rfl))
theorem Dk.setN {g e : Nat} (h : Dk w D mk a b (.slice (some ⟨g, 0, none⟩) ss.length e) rs ss) {k : Nat} {x : Sd} (hx : ss[k]? = some x) (y : Nat) : Dk (w.setCell ⟨g, k, none⟩ (I y)) D mk a b (.slice (some ⟨g, 0, none⟩) ss.length e) rs (ss.set k (x.1, y)) := by
  have hf : Fz (fun b => b = g) w (w.setCell ⟨g, k, none⟩ (I y)) := (Fz.refl (fun b => b = g) w).set (.inl rfl) _ _
  have hd : D ≠ g := fun e => h.d3 (by rw [e]; rfl)
  refine ⟨hf.heap h.o hd, hf.own h.p (fun g2 e1 e2 => own_ne h.p h.r (by decide) e1 (by rw [e2]; rfl)), ?_, ?_, h.d1, h.d2, h.d3, by rw [List.length_set]; exact h.n, h.m⟩
  · rw [stL_set, List.length_set, set_self (stL_at hx)]
    exact hf.own h.q (fun g2 e1 e2 => own_ne h.q h.r (by decide) e1 (by rw [e2]; rfl))
  · rw [nL_set, List.length_set]
    exact (h.r.stored k (I y)).1
theorem dfS (w : World) {D g n e : Nat} {a c : Value} (k : Nat) (y : Value) : Fz (Db D a (.slice (some ⟨g, 0, none⟩) n e) c) w (w.setCell ⟨g, k, none⟩ y) := (Fz.refl _ w).set (.inl (.inr (.inr (.inl rfl)))) _ _
theorem dfN (w : World) {D g n e : Nat} {a b : Value} (k : Nat) (y : Value) : Fz (Db D a b (.slice (some ⟨g, 0, none⟩) n e)) w (w.setCell ⟨g, k, none⟩ y) := (Fz.refl _ w).set (.inl (.inr (.inr (.inr rfl)))) _ _
theorem dhas_any (h : Dk w D mk a b c rs ss) (t : Int) : Calls Tryd.prog 44 #[cP D, I t] w fun e w' => e = .returned (.bool (hasB rs.length t)) ∧ w = w' := by
  obtain ⟨c0, c1, c2, c3⟩ := h.cells
  obtain ⟨a1, cc, rfl⟩ := own_sl h.p
  unfold hasB
  by_cases h0 : 0 ≤ t
  · rw [show decide (0 ≤ t) = true by simpa using h0, Bool.true_and]
    go_enter Tryd.func44, Tryd.ntmps44
    go_wp2
    go_ret
    exact ⟨rfl, rfl⟩
  · rw [show decide (0 ≤ t) = false by simpa using h0, Bool.false_and]
    go_enter Tryd.func44, Tryd.ntmps44
    go_wp2
    go_ret
    exact ⟨rfl, rfl⟩
set_option maxHeartbeats 2000000 in
set_option maxRecDepth 100000 in
theorem dRunning_any (h : Dk w D mk a b c rs ss) : Calls Tryd.prog 38 #[cP D] w fun e w' => e = .returned (I (runI ss)) ∧ w = w' := by
  have HH : Hid (Dk w D mk a b c rs ss) := h
  obtain ⟨c0, c1, c2, c3⟩ := h.cells
  obtain ⟨a2, cc, rfl⟩ := own_sl h.q
  have hl : ss.length ≤ 256 := by have := h.n; have := h.m; omega
  have HI : Hid (∀ (j : Nat) (y : Sd), j < 0 → ss[j]? = some y → y.1 ≠ 0) := fun j y hj => absurd hj (by omega)
  clear h
  go_enter Tryd.func38, Tryd.ntmps38
  go_wp2
  go_loopw [3] (fun v3 wr => ∃ k : Nat, k ≤ ss.length ∧ v3 = I k ∧ w = wr ∧ Hid (∀ (j : Nat) (y : Sd), j < k → ss[j]? = some y → y.1 ≠ 0)) (fun v3 _ => ss.length - (intOf v3).toNat)
  case atStart => exact ⟨0, by omega, rfl, rfl, HI.out⟩
  case round =>
    clear HI
    obtain ⟨k, hk, rfl, rfl, HJ⟩ := hrel
    by_cases hlt : k < ss.length
    · have hltI : (k : Int) < ss.length := by omega
      obtain ⟨x, hx⟩ : ∃ x, ss[k]? = some x := ⟨_, List.getElem?_eq_getElem hlt⟩
      obtain ⟨r, hr⟩ : ∃ r, rs[k]? = some r := ⟨_, List.getElem?_eq_getElem (by have := HH.out.n; omega)⟩
      obtain ⟨g1, k1, g2, k2, g3, k3, e1, e2, e3, -, -, q3, -, -, -⟩ := HH.out.at hr hx
      cases e2
      by_cases h0 : x.1 = 0
      · have HR : Hid (runI ss = (k : Int)) := by
          have := runF_at ss 0 k x hx h0 HJ.out
          show runI ss = _
          rw [runI, this]
          simp
        rw [h0] at q3
        clear HJ h0 hx hr
        go_wp2
        go_ret
        exact ⟨ret_int HR.out.symm, rfl⟩
      · have hne : ((x.1 : Int) == 0) = false := beq_eq_false_iff_ne.2 (by omega)
        have HN : Hid (∀ (j : Nat) (y : Sd), j < k + 1 → ss[j]? = some y → y.1 ≠ 0) := fun j y hj hy => by
          by_cases e : j = k
          · subst e; rw [hx] at hy; cases hy; exact h0
          · exact HJ.out j y (by omega) hy
        have h0I : ¬ ((x.1 : Int) = 0) := by omega
        clear HJ h0 hx hr
        go_wp2
        go_roundw
        case rel => exact ⟨k + 1, by omega, by go_num, by first | exact trivial | exact rfl, HN.out⟩
        case measure => simp [intOf]; omega
    · obtain rfl : k = ss.length := by omega
      have hge : ¬ ((ss.length : Int) < ss.length) := by omega
      have HR : Hid (runI ss = -1) := runF_no ss 0 (fun j y hy => HJ.out j y (List.getElem?_eq_some_iff.1 hy).1 hy)
      go_wp2
      go_ret
      exact ⟨ret_int HR.out.symm, rfl⟩
theorem dGet_any (h : Dk w D mk a b c rs ss) (t : Int) : Calls Tryd.prog 39 #[cP D, I t] w fun e w' => e = .returned (.tuple #[I (staS rs.length ss t), I (eidS rs.length t)]) ∧ w = w' := by
  have hH := dhas_any h t
  obtain ⟨c0, c1, c2, c3⟩ := h.cells
  unfold staS eidS
  rcases has_cases h.n t with ⟨h0, _⟩ | ⟨k, r, x, rfl, hk, hr, hx⟩
  · rw [h0] at hH ⊢
    go_enter Tryd.func39, Tryd.ntmps39
    go_wp2_with (first | (go_at_call 44; refine hH.mono ?_; clear hH; rintro e w1 ⟨rfl, rfl⟩))
    go_ret2
    exact ⟨rfl, rfl⟩
  · rw [hasB_at hk] at hH ⊢
    rw [sdA_at hx, if_pos rfl, if_pos rfl]
    have hkI : (k : Int) < ss.length := by have := h.n; omega
    obtain ⟨g1, k1, g2, k2, g3, k3, rfl, rfl, rfl, q1, q2, q3, q4, q5, q6⟩ := h.at hr hx
    go_enter Tryd.func39, Tryd.ntmps39
    go_wp2_with (first | (go_at_call 44; refine hH.mono ?_; clear hH; rintro e w1 ⟨rfl, rfl⟩))
    go_ret2
    exact ⟨rfl, rfl⟩
theorem dActive_any (h : Dk w D mk a b c rs ss) (t : Int) : Calls Tryd.prog 40 #[cP D, I t] w fun e w' => e = .returned (I (actN rs.length ss t)) ∧ w = w' := by
  have hH := dhas_any h t
  obtain ⟨c0, c1, c2, c3⟩ := h.cells
  unfold actN
  rcases has_cases h.n t with ⟨h0, _⟩ | ⟨k, r, x, rfl, hk, hr, hx⟩
  · rw [h0] at hH ⊢
    go_enter Tryd.func40, Tryd.ntmps40
    go_wp2_with (first | (go_at_call 44; refine hH.mono ?_; clear hH; rintro e w1 ⟨rfl, rfl⟩))
    go_ret
    exact ⟨rfl, rfl⟩
  · rw [hasB_at hk] at hH ⊢
    rw [sdA_at hx, if_pos rfl]
    have hkI : (k : Int) < ss.length := by have := h.n; omega
    obtain ⟨g1, k1, g2, k2, g3, k3, rfl, rfl, rfl, q1, q2, q3, q4, q5, q6⟩ := h.at hr hx
    go_enter Tryd.func40, Tryd.ntmps40
    go_wp2_with (first | (go_at_call 44; refine hH.mono ?_; clear hH; rintro e w1 ⟨rfl, rfl⟩))
    go_ret
    exact ⟨rfl, rfl⟩
end
end Go.Proofs.YthmecgfbapemjaaDoor
