import Derived.Test.YtmidaeljeoifdaaGreatDoorKrc
namespace Go.Proofs.YtmidaeljeoifdaaGreatDoor
set_option maxRecDepth 100000
set_option maxHeartbeats 16000000
open Go.RowKit
set_option linter.unusedVariables false
theorem taskEventsFit_any (w : World) (c : Cf) (v : Vs) (h : CfAt w c v) (i : Nat) (x : Tk) (hi : c.tasks[i]? = some x) :
  Calls Tryz.prog 229 #[.agg (cfC c v), I i] w fun e w' => Ans w (decide ((x.evs.length : Int) ≤ 32)) e w' := by
 have hn : v.t.n = c.tasks.length := h.t.n
 have hlt : (i : Int) < v.t.n := by have := (List.getElem?_eq_some_iff.1 hi).1; omega
 obtain ⟨g, off, s4, s5, s6, s7, e, hg, a0, a1, a2, a3, a4, a5, a6, a7, r4, r5, r6, r7⟩ := tk_at h hi
 have hne : g ≠ w.heap.size := by omega
 have hb := below_alloc w
 have hb2 := fun o o' => (hb o).trans ((below_alloc (w.alloc o) o').mono (hb o).size)
 have hl6 : Hid (s6.n = x.evs.length) := r6.n
 have f11 : ∀ h : 11 < (cfC c v).size, (cfC c v)[11] = .slice v.t.a v.t.n v.t.c := fun _ => rfl
 have hs18 : (cfC c v).size = 18 := rfl
 generalize cfC c v = C at *
 replace f11 := f11 (by omega)
 rw [e] at f11
 clear hi hn
 rw [← hl6.out]
 by_cases h32 : (s6.n : Int) ≤ 32
 ·go_enter Tryz.func229, Tryz.ntmps229
  go_wp2
  go_ret
  exact ⟨ret_bool (by simp [h32]), hb _⟩
 ·go_enter Tryz.func229, Tryz.ntmps229
  go_wp2
  go_ret
  exact ⟨ret_bool (by simp [h32]), hb _⟩
def extL (c : Cf) (t : Int) : Bool := isId t c.tasks.length && (match c.tasks[t.toNat]? with | some x => decide (0 < (x.evs.length : Int)) | none => false)
theorem extended_any (w : World) (c : Cf) (v : Vs) (h : CfAt w c v) (t : Int) :
  Calls Tryz.prog 275 #[.agg (cfC c v), I t] w fun e w' => Ans w (extL c t) e w' := by
 have hn : v.t.n = c.tasks.length := h.t.n
 have c1 := isID_any t v.t.n
 have hb := below_alloc w
 obtain ⟨B, hB⟩ : ∃ B, B = extL c t := ⟨_, rfl⟩
 rw [← hB]
 unfold extL at hB
 rw [← hn] at hB
 have HB : Hid (B = _) := hB
 have HN : Hid (v.t.n = c.tasks.length) := hn
 clear hB hn
 have f11 : ∀ h : 11 < (cfC c v).size, (cfC c v)[11] = .slice v.t.a v.t.n v.t.c := fun _ => rfl
 have hs18 : (cfC c v).size = 18 := rfl
 generalize cfC c v = C at *
 replace f11 := f11 (by omega)
 cases hid : isId t v.t.n with
 | false =>
  rw [hid] at c1
  have HF : Hid (B = false) := by show _ = _; rw [HB.out, hid]; rfl
  clear HB
  go_enter Tryz.func275, Tryz.ntmps275
  go_wp2_with (first | (go_at_call 272; refine (c1 _).mono ?_; rintro e w' ⟨rfl, rfl⟩))
  go_ret
  exact ⟨ret_bool HF.out.symm, hb _⟩
 | true =>
  rw [hid] at c1
  have hr : 0 ≤ t ∧ t < v.t.n := by simpa [isId] using hid
  obtain ⟨q, rfl⟩ := Int.eq_ofNat_of_zero_le hr.1
  have hq' : (q : Int) < v.t.n := hr.2
  have hql : q < c.tasks.length := by rw [← HN.out]; omega
  obtain ⟨x, hx⟩ : ∃ x, c.tasks[q]? = some x := ⟨_, List.getElem?_eq_getElem hql⟩
  obtain ⟨g, off, s4, s5, s6, s7, e, hg, a0, a1, a2, a3, a4, a5, a6, a7, r4, r5, r6, r7⟩ := tk_at h hx
  have hne : g ≠ w.heap.size := by omega
  have hl6 : s6.n = x.evs.length := r6.n
  have HF : Hid (B = decide (0 < (s6.n : Int))) := by show _ = _; rw [HB.out, hid, hl6]; simp [hx]
  rw [e] at f11
  clear HB hr hql hx hid hl6
  go_enter Tryz.func275, Tryz.ntmps275
  go_wp2_with (first | (go_at_call 272; refine (c1 _).mono ?_; rintro e w' ⟨rfl, rfl⟩))
  go_ret
  exact ⟨ret_bool (by rw [HF.out]; simp), hb _⟩
theorem extendedIsSingle_any (w : World) (c : Cf) (v : Vs) (h : CfAt w c v) (i : Nat) (x : Tk) (hi : c.tasks[i]? = some x) :
  Calls Tryz.prog 230 #[.agg (cfC c v), I i] w fun e w' => Ans w (!extL c i || x.act == 1) e w' := by
 have hn : v.t.n = c.tasks.length := h.t.n
 have hlt : (i : Int) < v.t.n := by have := (List.getElem?_eq_some_iff.1 hi).1; omega
 obtain ⟨g, off, s4, s5, s6, s7, e, hg, a0, a1, a2, a3, a4, a5, a6, a7, r4, r5, r6, r7⟩ := tk_at h hi
 have hne : g ≠ w.heap.size := by omega
 have hb := below_alloc w
 have hb2 := fun o o' => (hb o).trans ((below_alloc (w.alloc o) o').mono (hb o).size)
 have hi18 : (Tryz.prog.info? 47).map (·.size) = some (cfC c v).size := by rw [show (cfC c v).size = 18 from rfl]; kernel_rfl
 have hV0 := heap_alloc_new w (.cells (cfC c v) 47)
 have c1 := extended_any _ c v (h.below (hb (.cells (cfC c v) 47))) i
 have hV1 : ∀ w1, Below (w.alloc (.cells (cfC c v) 47)).heap.size (w.alloc (.cells (cfC c v) 47)) w1 → Below w.heap.size w w1 ∧ w1.cell? ⟨w.heap.size, 11, none⟩ = some (.slice (some ⟨g, off, none⟩) v.t.n v.t.c) ∧ w1.cell? ⟨g, off + i * 8 + 3, none⟩ = some (I x.act) := fun w1 hb1 =>
  ⟨(hb _).trans (hb1.mono (hb _).size), by rw [← e]; exact cell_of_row w1 w.heap.size 11 _ _ (0, 0) ((hb1.block _ (heap_lt hV0)).trans hV0), by rw [cell_below hb1 _ _ (Nat.lt_of_lt_of_le hg (hb _).size), cell_below (hb _) _ _ hg]; exact a3⟩
 generalize extL c i = b at *
 have f11 : ∀ h : 11 < (cfC c v).size, (cfC c v)[11] = .slice v.t.a v.t.n v.t.c := fun _ => rfl
 have hs18 : (cfC c v).size = 18 := rfl
 generalize cfC c v = C at *
 replace f11 := f11 (by omega)
 rw [e] at f11
 clear hi hn
 cases b with
 | false =>
  go_enter Tryz.func230, Tryz.ntmps230
  go_wp2_with (refine wpList_load_row rfl 47 _ rfl w.heap.size rfl 47 _ (0, 0) _ hV0 Tryz.underlying47 rfl hi18 ?_)
  refine c1.mono ?_
  rintro e1 w1 ⟨rfl, hb1⟩
  obtain ⟨hbw1, k11, x3⟩ := hV1 w1 hb1
  clear hb1 c1 hV1 hV0 hi18
  go_wp2
  go_ret
  exact ⟨by simp, hbw1⟩
 | true =>
  go_enter Tryz.func230, Tryz.ntmps230
  go_wp2_with (refine wpList_load_row rfl 47 _ rfl w.heap.size rfl 47 _ (0, 0) _ hV0 Tryz.underlying47 rfl hi18 ?_)
  refine c1.mono ?_
  rintro e1 w1 ⟨rfl, hb1⟩
  obtain ⟨hbw1, k11, x3⟩ := hV1 w1 hb1
  clear hb1 c1 hV1 hV0 hi18
  go_wp2
  go_ret
  exact ⟨by simp, hbw1⟩
end Go.Proofs.YtmidaeljeoifdaaGreatDoor
