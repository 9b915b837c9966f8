import Derived.Test.YthmecgfbapemjaaDoorDh
namespace Go.Proofs.YthmecgfbapemjaaDoor
open Go.RowKit Go.Shelf Go.Sort
set_option linter.unusedVariables false
set_option linter.unusedSimpArgs false

/-! ### Reset, New, Copy -/
def mixS (k : Nat) (ss : List Sd) : List Sd := List.replicate k (3, 0) ++ ss.drop k
theorem mixS_zero (ss : List Sd) : mixS 0 ss = ss := by simp [mixS]
theorem mixS_len {k : Nat} {ss : List Sd} (h : k ≤ ss.length) : (mixS k ss).length = ss.length := by simp [mixS]; omega
theorem mixS_at {k : Nat} {ss : List Sd} : (mixS k ss)[k]? = ss[k]? := by
  unfold mixS
  rw [List.getElem?_append_right (by simp), List.length_replicate, Nat.sub_self, List.getElem?_drop, Nat.add_zero]
theorem mixS_all (ss : List Sd) : mixS ss.length ss = rstL ss.length := by simp [mixS, rstL]
theorem mixS_succ {k : Nat} {ss : List Sd} (h : k < ss.length) : (mixS k ss).set k (3, 0) = mixS (k + 1) ss := by
  unfold mixS
  rw [List.set_append, if_neg (by simp), List.length_replicate, Nat.sub_self, List.drop_eq_getElem_cons h, List.set_cons_zero, List.replicate_succ', List.append_assoc]
  rfl
section
variable {w w' : World} {B : Nat} {v u : Value} {rs : List Rw} {ss : List Sd}
theorem row_set {w : World} {b g n c k : Nat} {ss : List Sd} (h : w.ownsRow b 71 2 (.slice (some ⟨g, 0, none⟩) n c) n (flS ss)) (y : Sd) : ((w.setCell ⟨g, k * 2, none⟩ (I y.1)).setCell ⟨g, k * 2 + 1, none⟩ (I y.2)).ownsRow b 71 2 (.slice (some ⟨g, 0, none⟩) n c) n (flS (ss.set k y)) := by
  rw [flS_set]
  exact (((h.stored (k * 2) (I y.1)).1).stored (k * 2 + 1) (I y.2)).1
theorem fz_set2 (w : World) (g i j : Nat) (u v : Value) : Fz (fun b => b = g) w ((w.setCell ⟨g, i, none⟩ u).setCell ⟨g, j, none⟩ v) := ((Fz.refl (fun b => b = g) w).set (.inl rfl) i u).set (.inl rfl) j v
theorem Ck.setB {g c : Nat} (h : Ck w B v (.slice (some ⟨g, 0, none⟩) ss.length c) rs ss) (k : Nat) (y : Sd) : Ck ((w.setCell ⟨g, k * 2, none⟩ (I y.1)).setCell ⟨g, k * 2 + 1, none⟩ (I y.2)) B v (.slice (some ⟨g, 0, none⟩) ss.length c) rs (ss.set k y) :=
  h.put (fz_set2 w g _ _ _ _) (List.length_set ..) (row_set h.q y)
set_option maxHeartbeats 2000000 in
set_option maxRecDepth 100000 in
theorem Reset_any (h : Ck w B v u rs ss) : Calls Tryd.prog 26 #[cP B] w fun e w' => e = .returned (.tuple #[]) ∧ Ck w' B v u rs (rstL rs.length) ∧ Fz (Cb B v u) w w' := by
  have hN := none_any h
  have hm : ss.length ≤ 256 := by have := h.n; have := h.m; omega
  have HN : Hid (ss.length = rs.length) := h.n
  have HI : Hid (Ck w B v u rs (mixS 0 ss) ∧ Fz (Cb B v u) w w) := ⟨by rw [mixS_zero]; exact h, Fz.refl _ _⟩
  obtain ⟨c0, c1, c2⟩ := h.cells
  obtain ⟨a, cc, rfl⟩ := own_sl h.q
  clear h
  go_enter Tryd.func26, Tryd.ntmps26
  go_wp2_with (first | (go_at_call 32; refine hN.mono ?_; clear hN; rintro e w1 ⟨rfl, rfl⟩))
  go_loopw [2, 10] (fun _ v10 wr => ∃ k : Nat, k ≤ ss.length ∧ v10 = I k ∧ Hid (Ck wr B v (.slice a ss.length cc) rs (mixS k ss) ∧ Fz (Cb B v (.slice a ss.length cc)) w wr)) (fun _ v10 _ => ss.length - (intOf v10).toNat)
  case atStart => exact ⟨0, by omega, rfl, HI.out⟩
  case round =>
    clear HI c0 c1 c2
    obtain ⟨k, hk, rfl, HJ⟩ := hrel
    by_cases hlt : k < ss.length
    · have hltI : (k : Int) < ss.length := by omega
      obtain ⟨c0, c1, c2⟩ := HJ.out.1.cells
      obtain ⟨x, hx⟩ : ∃ x, (mixS k ss)[k]? = some x := ⟨_, mixS_at.trans (List.getElem?_eq_getElem hlt)⟩
      obtain ⟨r, hr⟩ : ∃ r, rs[k]? = some r := ⟨_, List.getElem?_eq_getElem (by have := HN.out; omega)⟩
      obtain ⟨g, c, g2, cc2, e1, e2, -, -, q3, q4, q5⟩ := HJ.out.1.at hr hx
      rw [mixS_len hk] at e2
      cases e2
      have q6 : (wr.setCell ⟨g2, k * 2, none⟩ (I 3)).cell? ⟨g2, k * 2 + 1, none⟩ = some (I x.2) := cell_set_off q4 (by omega)
      have H2 : Hid (Ck ((wr.setCell ⟨g2, k * 2, none⟩ (I 3)).setCell ⟨g2, k * 2 + 1, none⟩ (I 0)) B v (.slice (some ⟨g2, 0, none⟩) ss.length cc) rs (mixS (k + 1) ss) ∧ Fz (Cb B v (.slice (some ⟨g2, 0, none⟩) ss.length cc)) w ((wr.setCell ⟨g2, k * 2, none⟩ (I 3)).setCell ⟨g2, k * 2 + 1, none⟩ (I 0))) := by
        refine ⟨?_, HJ.out.2.trans ((fz_set2 wr g2 _ _ _ _).mono (by rintro b rfl; exact .inr (.inr rfl)))⟩
        have h1 := HJ.out.1
        rw [← mixS_len hk] at h1
        have h2 := h1.setB k (3, 0)
        rw [mixS_succ hlt, mixS_len hk] at h2
        exact h2
      clear HJ hx hr
      go_wp2
      go_roundw
      case rel => exact ⟨k + 1, by omega, by go_num, H2.out⟩
      case measure => simp [intOf]; omega
    · obtain rfl : k = ss.length := by omega
      have hge : ¬ ((ss.length : Int) < ss.length) := by omega
      have H9 := HJ.out
      rw [mixS_all, HN.out] at H9
      have H9' : Hid (Ck wr B v (.slice a ss.length cc) rs (rstL rs.length) ∧ Fz (Cb B v (.slice a ss.length cc)) w wr) := by rw [HN.out]; exact H9
      clear HJ H9
      go_wp2
      refine bodyPost_end (v := .tuple #[]) (by simp [results, Tryd.results26, go_sem]) rfl ?_
      exact ⟨rfl, H9'.out.1, H9'.out.2⟩
end
end Go.Proofs.YthmecgfbapemjaaDoor
