import Derived.Test.YtglnfifdjlgbcaaGreatDoorXJn
import Derived.Deep.CutBlock
import Derived.Deep.CutRange
namespace Go.Proofs.YtglnfifdjlgbcaaGreatDoor
open Go.RowKit Go.Maps Go.Shelf Go.Sort
open Go.Proofs.YtglnfifdjlgbcaaGreatDoor.St (Fx Fz iQ iP iV)
set_option linter.unusedVariables false
set_option linter.unusedSimpArgs false
set_option maxRecDepth 100000
set_option maxHeartbeats 8000000
theorem cell_three20 (w : World) (a b c : Value) (t : TypeId) : ∀ (j : Nat) (u : Value), [a, b, c][j]? = some u → (w.alloc (.cells #[a, b, c] t)).cell? ((⟨w.heap.size, 0, none⟩ : Addr).add j) = some u := by
  intro j u hu
  rw [St.addr_add, cell_of_row _ _ _ _ _ (0, 0) (heap_alloc_new w _)]
  match j, hu with
  | 0, hu => cases hu; rfl
  | 1, hu => cases hu; rfl
  | 2, hu => cases hu; rfl
theorem cell_two20 (w : World) (a b : Value) (t : TypeId) : ∀ (j : Nat) (u : Value), [a, b][j]? = some u → (w.alloc (.cells #[a, b] t)).cell? ((⟨w.heap.size, 0, none⟩ : Addr).add j) = some u := by
  intro j u hu
  rw [St.addr_add, cell_of_row _ _ _ _ _ (0, 0) (heap_alloc_new w _)]
  match j, hu with
  | 0, hu => cases hu; rfl
  | 1, hu => cases hu; rfl
theorem cell_one20 (w : World) (a : Value) (t : TypeId) : ∀ (j : Nat) (u : Value), [a][j]? = some u → (w.alloc (.cells #[a] t)).cell? ((⟨w.heap.size, 0, none⟩ : Addr).add j) = some u := by
  intro j u hu
  rw [St.addr_add, cell_of_row _ _ _ _ _ (0, 0) (heap_alloc_new w _)]
  match j, hu with
  | 0, hu => cases hu; rfl
theorem cRead (w : World) (tb : Tb) (v : Ts) (C : Nat) (vg : Value) (hC : w.heap[C]? = some (.cells (coC (.pointer none) (.slice none 0 0) vg (.pointer none) (.pointer none) (.pointer none) (.pointer none)) 85)) (W0 : World) (ht : TbAt W0 tb v) (hb0 : Below W0.heap.size W0 w) (hWC : W0.heap.size ≤ C) (hn : tb.tasks.length ≤ 256) : Calls Tryz.prog 28 #[lp C, .slice v.t.a v.t.n v.t.c] w fun e w' => ∃ vr va vm, e = .returned (.tuple #[va, vm]) ∧ Rd w w' C vg vr va vm tb.tasks tb.tasks tb.tasks := by
  obtain ⟨ic, hic, hc0, hc1, hc2⟩ := info_parts cinfo20
  obtain ⟨ia, hia, ha0, ha1, ha2⟩ := info_parts ainfo20
  obtain ⟨iu, hiu, hu0, hu1, hu2⟩ := info_parts uinfo20
  have hvn : v.t.n = tb.tasks.length := ht.t.n
  have hv256 : v.t.n ≤ 256 := by omega
  have HVN : Hid (v.t.n = tb.tasks.length) := hvn
  have HTB : Hid (∀ W', Fz (fun x => x = C) w W' → TbAt W' tb v) := fun W' hf => ht.below (hb0.trans (hf.below hb0.size (fun x e => by omega)))
  have HR : Hid (Rd w w C vg (.slice none 0 0) (.slice none 0 0) (.slice none 0 0) [] [] []) := ⟨hC, World.ownsRow_nil _ _ _ _, World.ownsRow_nil _ _ _ _, World.ownsRow_nil _ _ _ _, Fz.refl _ _, heap_lt hC⟩
  clear hC ht hb0 hvn hn
  go_enter Tryz.func28, Tryz.ntmps28
  go_wp2
  go_loopw [6, 7, 9, 10, 13] (fun v6 v7 _ _ v13 wr => ∃ (k : Nat), k ≤ v.t.n ∧ v13 = I k ∧ Hid (∃ vr, Rd w wr C vg vr v6 v7 (tb.tasks.take k) (tb.tasks.take k) (tb.tasks.take k))) (fun _ _ _ _ v13 _ => v.t.n - (intOf v13).toNat)
  case atStart => exact ⟨0, by omega, rfl, _, HR.out⟩
  case round =>
    clear HR
    obtain ⟨k, hk, rfl, HJ⟩ := hrel
    by_cases hlt : k < v.t.n
    · have hltI : (k : Int) < v.t.n := by omega
      obtain ⟨vr, hJ⟩ := HJ.out
      obtain ⟨x, hx⟩ : ∃ x, tb.tasks[k]? = some x := ⟨_, List.getElem?_eq_getElem (by rw [← HVN.out]; exact hlt)⟩
      obtain ⟨g, off, s6, e1, hg, q0, q1, q2, q3, q4, q5, q6, q7, -⟩ := tkr_at (HTB.out _ hJ.f) hx
      rw [e1]
      have hlk : (tb.tasks.take k).length = k := by rw [List.length_take, ← HVN.out]; omega
      have htk : tb.tasks.take (k + 1) = tb.tasks.take k ++ [x] := by rw [List.take_add_one, hx]; rfl
      obtain ⟨ar, kr, rfl⟩ := own_slk19 hJ.r
      obtain ⟨a6, k6, rfl⟩ := own_slk19 hJ.a
      obtain ⟨a7, k7, rfl⟩ := own_slk19 hJ.m
      have hV := heap_alloc_new wr (.cells #[I x.prio, I x.ring, .bool x.full, I x.limit, U (x.mask : Int), I x.inner, .slice s6.a s6.n s6.c, U (x.auto : Int)] 42)
      have hb := below_alloc wr (.cells #[I x.prio, I x.ring, .bool x.full, I x.limit, U (x.mask : Int), I x.inner, .slice s6.a s6.n s6.c, U (x.auto : Int)] 42)
      have H2 : Hid (Rd w (wr.alloc (.cells #[I x.prio, I x.ring, .bool x.full, I x.limit, U (x.mask : Int), I x.inner, .slice s6.a s6.n s6.c, U (x.auto : Int)] 42)) C vg (.slice ar (tb.tasks.take k).length kr) (.slice a6 (tb.tasks.take k).length k6) (.slice a7 (tb.tasks.take k).length k7) (tb.tasks.take k) (tb.tasks.take k) (tb.tasks.take k) ∧ (wr.alloc (.cells #[I x.prio, I x.ring, .bool x.full, I x.limit, U (x.mask : Int), I x.inner, .slice s6.a s6.n s6.c, U (x.auto : Int)] 42)).heap[wr.heap.size]? = some (.cells #[I x.prio, I x.ring, .bool x.full, I x.limit, U (x.mask : Int), I x.inner, .slice s6.a s6.n s6.c, U (x.auto : Int)] 42)) := ⟨hJ.below hb, hV⟩
      clear hb hV hJ HJ hx
      go_upto_region 6 with fail
      clear q0 q1 q2 q3 q4 q5 q6 q7 e1
      generalize wr.alloc (.cells #[I x.prio, I x.ring, .bool x.full, I x.limit, U (x.mask : Int), I x.inner, .slice s6.a s6.n s6.c, U (x.auto : Int)] 42) = w4 at *
      generalize wr.heap.size = Y at *
      obtain ⟨bx, hbx⟩ : ∃ bx, bx = decide (x.mask ≠ 0) := ⟨_, rfl⟩
      have hmi : ((x.mask : Int) != 0) = bx := by
        rw [hbx]
        by_cases hz : x.mask = 0
        · simp [hz]
        · have : ¬ ((x.mask : Int) = 0) := by omega
          simp [hz]
      have HBX : Hid (bx = decide (x.mask ≠ 0) ∧ tb.tasks.take (k + 1) = tb.tasks.take k ++ [x] ∧ (tb.tasks.take k).length = k) := ⟨hbx, htk, hlk⟩
      have hl2 : (tb.tasks.take k).length ≤ 256 := by omega
      clear hbx htk hlk hg
      generalize tb.tasks.take k = L0 at *
      obtain ⟨h4, hV⟩ := H2.out
      have cc := fun j => cell_of_row _ _ j _ _ (0, 0) hV
      have y4 : w4.cell? ⟨Y, 4, none⟩ = some (U (x.mask : Int)) := cc 4
      have y0 : w4.cell? ⟨Y, 0, none⟩ = some (I x.prio) := cc 0
      have y2 : w4.cell? ⟨Y, 2, none⟩ = some (.bool x.full) := cc 2
      have c1 : w4.cell? ⟨C, 1, none⟩ = some (.slice ar L0.length kr) := cell_of_row _ _ 1 _ _ (0, 0) h4.o
      have hlY : Y < w4.heap.size := heap_lt hV
      have hrb : w.heap.size ≤ w4.heap.size := h4.f.size
      clear cc
      go_upto_region 7 with fail
      have c1a := fun o => (cell_below (below_alloc w4 o) _ _ (heap_lt h4.o)).trans c1
      go_cut [6, 7] from 14 to 46 (fun z6 z7 wz => z6 = .slice a6 L0.length k6 ∧ z7 = .slice a7 L0.length k7 ∧ ∃ a5 k5, Hid (Rd w wz C vg (.slice a5 (L0.length + 1) k5) (.slice a6 L0.length k6) (.slice a7 L0.length k7) (L0 ++ [x]) L0 L0 ∧ wz.heap[Y]? = some (.cells #[I x.prio, I x.ring, .bool x.full, I x.limit, U (x.mask : Int), I x.inner, .slice s6.a s6.n s6.c, U (x.auto : Int)] 42)))
      case first =>
        go_region_law (first
          | (refine step_append_at20 rfl (.tmp 24) (.tmp 31) 79 rfl w.heap.size 120 ic (.agg #[.int .i64 0, .bool false, .bool false]) 3 16 Tryz.underlying79 hic hc0 hc1 hc2 rfl (by decide) (.slice ar L0.length kr) L0.length (flC L0) (by simp [Act.eval, Act.put]) (by first | exact own_below h4.r (below_alloc _ _) | exact own_below h4.r ((Below.refl _ _).drew.alloc (Nat.le_refl _) _) | exact own_below h4.r ((below_alloc _ _).drew)) ⟨w4.heap.size, 0, none⟩ 1 1 [I x.prio, .bool x.full, .bool bx] (by simp [Act.eval, Act.put]) rfl (by first | exact cell_three20 _ _ _ _ _ | exact fun j u hu => cell_three20 w4 _ _ _ _ j u hu) (by simp [Value.oneCell']) (by unfold maxLen; omega) (by omega) (by simp; omega) ?_; intro v5 w5 h5 hg5; obtain ⟨a5, k5, rfl⟩ := own_slk19 h5; have F5 : Fz (fun x => (Value.slice ar L0.length kr).ownBlock = some x) w4 w5 := (by first | exact (((Fz.refl _ w4).drewN 1).alloc _).trans (fz_own20 hg5) | exact (((Fz.refl _ w4).alloc _).drewN 1).trans (fz_own20 hg5) | exact ((Fz.refl _ w4).alloc _).trans (fz_own20 hg5)); have hq := h4.mid F5; have q1 : w5.frozen? ⟨C, 1, none⟩ = false := frozen_of_row w5 _ _ _ _ hq; have q2 : w5.cell? ⟨C, 1, none⟩ = some (.slice ar L0.length kr) := (by rw [cell_of_row w5 _ _ _ _ (0, 0) hq]; rfl); have y5 := h4.row F5 (l' := L0 ++ [x]) (by rw [flC_app, List.length_append]; show w5.ownsRow _ _ _ _ _ (flC L0 ++ [I x.prio, .bool x.full, .bool (decide (x.mask ≠ 0))]); rw [← HBX.out.1]; exact h5); have z5 := F5.heap hV (fun e => own_neP20 h4.r hV (by decide) e); have z6 : (w5.setCell ⟨C, 1, none⟩ (.slice a5 (L0.length + 1) k5)).heap[Y]? = some (.cells #[I x.prio, I x.ring, .bool x.full, I x.limit, U (x.mask : Int), I x.inner, .slice s6.a s6.n s6.c, U (x.auto : Int)] 42) := ((Fz.refl (fun b => b = C) w5).set (.inl rfl) _ _).heap z5 (fun e => by rw [e] at hV; rw [h4.o] at hV; injection hV with hV; injection hV with _ hV; exact absurd hV (by decide)); clear z5 hq h5 hg5 F5))
        all_goals
          go_wp2
          go_meet
          case rel => exact ⟨rfl, rfl, a5, k5, y5, z6⟩
      obtain ⟨rfl, rfl, a5, k5, HQ⟩ := hcut
      clear c1 c1a y0 y2 y4 h4 hV hlY hrb
      obtain ⟨h6, hV⟩ := HQ.out
      have cc := fun j => cell_of_row _ _ j _ _ (0, 0) hV
      have y3 : wc.cell? ⟨Y, 3, none⟩ = some (I x.limit) := cc 3
      have hsw : w.heap.size ≤ wc.heap.size := h6.f.size
      clear cc
      go_upto_region 9 with (first | (at_builtin; refine wpList_append_own _ rfl (.tmp 35) (.tmp 40) 86 rfl w.heap.size 167 ia (.agg #[.int .i64 0, .bool false]) 2 16 Tryz.underlying86 hia ha0 ha1 ha2 rfl (by decide) _ _ _ rfl (own_below h6.a (below_alloc _ _)) ⟨wc.heap.size, 0, none⟩ 1 1 [I x.limit, .bool bx] rfl rfl (cell_two20 _ _ _ _) (by simp [Value.oneCell']) (by unfold maxLen; omega) (by omega) (by simp; omega) ?_; intro v7 w7 h7 hg7 hnil; obtain ⟨b7, kb7, rfl⟩ := own_slk19 h7; have F7 : Fz (fun x => (Value.slice a6 L0.length k6).ownBlock = some x) wc w7 := (((Fz.refl _ wc).alloc _).trans (fz_own20 hg7)); have H7 : Hid (Rd w w7 C vg (.slice a5 (L0.length + 1) k5) (.slice b7 (L0.length + 1) kb7) (.slice a7 L0.length k7) (L0 ++ [x]) (L0 ++ [x]) L0 ∧ w7.heap[Y]? = some (.cells #[I x.prio, I x.ring, .bool x.full, I x.limit, U (x.mask : Int), I x.inner, .slice s6.a s6.n s6.c, U (x.auto : Int)] 42)) := ⟨h6.act F7 (l' := L0 ++ [x]) (by rw [List.map_append, flR_app, List.length_append]; show w7.ownsRow _ _ _ _ _ (_ ++ [I x.limit, .bool (decide (x.mask ≠ 0))]); rw [← HBX.out.1]; exact h7), F7.heap hV (fun e => own_neP20 h6.a hV (by decide) e)⟩; clear h7 hg7 hnil F7))
      clear y3 h6 hV hsw
      obtain ⟨h8, hV⟩ := H7.out
      have cc := fun j => cell_of_row _ _ j _ _ (0, 0) hV
      have y4 : w7.cell? ⟨Y, 4, none⟩ = some (U (x.mask : Int)) := cc 4
      have hsw : w.heap.size ≤ w7.heap.size := h8.f.size
      clear cc hV
      go_wp2_with (first | (at_builtin; refine wpList_append_own _ rfl (.tmp 42) (.tmp 45) 87 rfl w.heap.size 40 iu (.int .u32 0) 1 4 Tryz.underlying87 hiu hu0 hu1 hu2 rfl (by decide) _ _ _ rfl (own_below h8.m (below_alloc _ _)) ⟨w7.heap.size, 0, none⟩ 1 1 [U (x.mask : Int)] rfl rfl (cell_one20 _ _ _) (by simp [Value.oneCell']) (by unfold maxLen; omega) (by omega) (by simp; omega) ?_; intro v9 w9 h9 hg9 hnil; obtain ⟨b9, kb9, rfl⟩ := own_slk19 h9; have F9 : Fz (fun x => (Value.slice a7 L0.length k7).ownBlock = some x) w7 w9 := (((Fz.refl _ w7).alloc _).trans (fz_own20 hg9)); have H9 : Hid (Rd w w9 C vg (.slice a5 (L0.length + 1) k5) (.slice b7 (L0.length + 1) kb7) (.slice b9 (L0.length + 1) kb9) (L0 ++ [x]) (L0 ++ [x]) (L0 ++ [x])) := h8.msk F9 (l' := L0 ++ [x]) (by unfold mkV; rw [List.map_append, List.length_append]; exact h9); clear h9 hg9 hnil F9))
      go_roundw
      case rel =>
        refine ⟨k + 1, by omega, by go_num, .slice a5 (L0.length + 1) k5, ?_⟩
        rw [HBX.out.2.1]
        exact H9.out
      case measure => simp [intOf]; omega
    · obtain rfl : k = v.t.n := by omega
      have hge : ¬ ((v.t.n : Int) < v.t.n) := by omega
      go_wp2
      go_ret2
      obtain ⟨vr, hJ⟩ := HJ.out
      rw [HVN.out, List.take_length] at hJ
      exact ⟨_, _, _, rfl, hJ⟩
end Go.Proofs.YtglnfifdjlgbcaaGreatDoor

namespace Go.Proofs.YtglnfifdjlgbcaaGreatDoor
open Go.RowKit Go.Maps Go.Shelf Go.Sort
open Go.Proofs.YtglnfifdjlgbcaaGreatDoor.St (Fx Fz iQ iP iV)
set_option linter.unusedVariables false
set_option linter.unusedSimpArgs false
set_option maxRecDepth 100000
set_option maxHeartbeats 8000000
/-! ### what Check says of a core's tables -/
def rgP (tb : Tb) : List (Int × Int) := tb.rings.map (fun r => (r.prio, r.cap))
theorem cap_le20 {ts : List TkR} (hl : ∀ x ∈ ts, 1 ≤ x.limit ∧ x.limit ≤ 255) (p : Int) : capN ts p ≤ 255 * ts.length := by
  induction ts with
  | nil => simp [capN]
  | cons x l ih =>
    have h1 := ih (fun y hy => hl y (List.mem_cons_of_mem _ hy))
    have h2 := hl x List.mem_cons_self
    unfold capN
    simp only [List.length_cons]
    split <;> omega
theorem fit_of {ts : List TkR} (hl : ∀ x ∈ ts, 1 ≤ x.limit ∧ x.limit ≤ 255) (hn : ts.length ≤ 256) : ∀ (l : List RgR) (a : Int), a ≤ 64 → ringsW ts a l = true → Re.fitB a (l.map (fun r => (r.prio, r.cap))) = true ∧ ((l.length : Int) ≤ a ∨ l = []) ∧ ∀ r ∈ l, r.cap = capN ts r.prio
  | [], a, _, _ => ⟨rfl, .inr rfl, fun r hr => by cases hr⟩
  | r :: l, a, ha, h => by
    unfold ringsW at h
    simp only [Bool.and_eq_true, inI, decide_eq_true_eq, beq_iff_eq] at h
    obtain ⟨⟨⟨h1, h2⟩, h3⟩, h4⟩ := h
    have hc := cap_le20 hl r.prio
    have hp := cap_pos (fun x hx => (hl x hx).1) r.prio
    have h5 : 0 < capN ts r.prio := hp.2.2 (by
      obtain ⟨x, hx, e⟩ := List.any_eq_true.1 h2
      exact ⟨x, hx, by simpa using e⟩)
    have h6 : r.cap = capN ts r.prio := by rw [h3, IntKind.wrap_i64]; omega
    obtain ⟨i1, i2, i3⟩ := fit_of hl hn l r.prio (by omega) h4
    refine ⟨?_, ?_, ?_⟩
    · simp only [List.map_cons, Re.fitB, Bool.and_eq_true, decide_eq_true_eq]
      exact ⟨⟨⟨by omega, by omega⟩, by omega⟩, i1⟩
    · left
      simp only [List.length_cons]
      rcases i2 with e | e
      · omega
      · rw [e]; simp; omega
    · intro q hq
      rcases List.mem_cons.1 hq with rfl | hq
      · exact h6
      · exact i3 q hq
structure CkT (tb : Tb) : Prop where
  may : Tk.mayN (actR tb) = true
  fit : Re.fitB 64 (rgP tb) = true
  dep : tb.depth = (tb.rings.length : Int)
  len : tb.rings.length ≤ 64
  cap : ∀ r ∈ tb.rings, r.cap = capN tb.tasks r.prio
  lim : ∀ x ∈ tb.tasks, 1 ≤ x.limit ∧ x.limit ≤ 255 ∧ (x.mask ≠ 0 → x.limit = 1)
  rng : ∀ x ∈ tb.tasks, ∃ r, tb.rings[x.ring.toNat]? = some r ∧ 0 ≤ x.ring ∧ r.prio = x.prio
theorem ckT_of {tb : Tb} (h : chkP tb = true) : CkT tb := by
  have ok := okt_of h
  unfold chkP at h
  simp only [Bool.and_eq_true] at h
  obtain ⟨⟨⟨⟨⟨⟨⟨⟨h1, h2⟩, h3⟩, h4⟩, h5⟩, h6⟩, h7⟩, h8⟩, h9⟩ := h
  have htk : ∀ x ∈ tb.tasks, tkB tb x = true := fun x hx => List.all_eq_true.1 h4 x hx
  have hlm : ∀ x ∈ tb.tasks, 1 ≤ x.limit ∧ x.limit ≤ 255 ∧ (x.mask ≠ 0 → x.limit = 1) := fun x hx => by
    have := htk x hx
    unfold tkB at this
    simp only [Bool.and_eq_true] at this
    obtain ⟨a1, a2⟩ := limit_first.1 this.1.2
    unfold inI at a1
    simp only [Bool.and_eq_true, decide_eq_true_eq] at a1
    exact ⟨a1.1, a1.2, fun hm => by rcases a2 with e | e; exact absurd e hm; exact e⟩
  obtain ⟨f1, f2, f3⟩ := fit_of (fun x hx => ⟨(hlm x hx).1, (hlm x hx).2.1⟩) ok.tasks tb.rings 64 (by omega) h3
  unfold roomB at h9
  simp only [Bool.and_eq_true, beq_iff_eq] at h9
  refine ⟨?_, f1, h9.1.1.1, by rcases f2 with e | e; omega; rw [e]; simp, f3, hlm, fun x hx => ?_⟩
  · unfold Tk.mayN
    rw [Bool.and_eq_true]
    refine ⟨by unfold actR; simpa using ok.tasks, List.all_eq_true.2 (fun y hy => ?_)⟩
    unfold actR at hy
    obtain ⟨x, hx, rfl⟩ := List.mem_map.1 hy
    obtain ⟨b1, b2, b3⟩ := hlm x hx
    unfold Tk.mayR
    by_cases hm : x.mask = 0
    · simp [hm, b1, b2]
    · simp [hm, b3 hm]
  · have := htk x hx
    unfold tkB at this
    simp only [Bool.and_eq_true, beq_iff_eq] at this
    obtain ⟨⟨⟨c1, c2⟩, -⟩, -⟩ := this
    unfold idB at c1
    simp only [Bool.and_eq_true, decide_eq_true_eq] at c1
    unfold prioAt at c2
    cases hr : tb.rings[x.ring.toNat]? with
    | none =>
      have : x.ring.toNat < tb.rings.length := by omega
      rw [List.getElem?_eq_getElem this] at hr
      cases hr
    | some r => rw [hr] at c2; exact ⟨r, rfl, by omega, c2⟩
end Go.Proofs.YtglnfifdjlgbcaaGreatDoor

