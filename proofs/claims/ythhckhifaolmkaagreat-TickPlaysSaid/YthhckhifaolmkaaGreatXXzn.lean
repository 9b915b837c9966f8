import Derived.Test.YthhckhifaolmkaaGreatXXzk
import Derived.Test.YthhckhifaolmkaaGreatXXzi
import Derived.ChangeKeysEq
namespace Go.Proofs.YthhckhifaolmkaaGreat
open Go.RowKit Go.Maps Go.Shelf Go.Sort
open Go.Proofs.YthhckhifaolmkaaGreat.Cl (Fx Fz Ck Cb Alm psA dueA dueF U Q cP own_sl own_some own_below own_base inL ret_bool ret_int heap_lt iinfo cell_one_new take_snoc aftN)
set_option linter.unusedVariables false
set_option linter.unusedSimpArgs false
set_option maxRecDepth 100000
set_option maxHeartbeats 8000000
theorem made_u (n : Nat) : flat (valF newT) n = (madeCells (Value.int .u32 0).cells (n * 1)).toList := by
  apply List.ext_getElem?
  intro t
  by_cases ht : t < n
  · have e := flat_at (f := valF newT) (fun _ => rfl) (k := 1) (n := n) (i := t) (j := 0) ht (by omega)
    rw [Nat.mul_one, Nat.add_zero] at e
    rw [e]
    simp [madeCells, Value.cells, ht]
    rw [Nat.mod_one]
    rfl
  · rw [List.getElem?_eq_none (by rw [flat_len (k := 1) (fun _ => rfl)]; omega), List.getElem?_eq_none (by simp [size_madeCells]; omega)]
theorem makeR (w : World) {ts te : TypeId} {i : TypeInfo} {z : Value} {k n : Nat} (h1 : Tryz.prog.underlying ts = some (.slice te)) (h2 : Tryz.prog.info? te = some i) (h3 : i.zero = some z) (h4 : i.size = k) (h5 : (i.bytes : Int) * (n : Int) ≤ 281474976710656) (h6 : n ≤ 1000) : (Instr.makeSlice ts (.int .i64 (n : Int)) (.int .i64 (n : Int))).run Tryz.prog w = .ok (.slice (some ⟨w.heap.size, 0, none⟩) n n) (w.alloc (.cells (madeCells z.cells (n * k)) te)) := by
  have hr := run_make (P := Tryz.prog) w ts te i z h1 h2 h3 .i64 .i64 n n (by omega) (Int.le_refl _) h5 (by omega)
  simp only [Int.toNat_natCast, h4] at hr
  exact hr
theorem Dd.new {W0 w3 : World} {tb : Tb} {v : Ts} {u0 u1 u2 : Sl} (t0 : TbAt W0 tb v) (lo : Below W0.heap.size W0 w3) (ok : OKb tb) (h0 : w3.ownsRow W0.heap.size 22 1 (slT u0) tb.ctrs.length (madeCells #[.int .u32 0] tb.ctrs.length).toList) (h1 : w3.ownsRow W0.heap.size 130 3 (slT u1) tb.als.length (madeCells #[.bool false, .int .u32 0, .int .u32 0] (tb.als.length * 3)).toList) (h2 : w3.ownsRow W0.heap.size 4 1 (slT u2) tb.isrs.length (madeCells #[.bool false] tb.isrs.length).toList) :
    Dd W0 (w3.alloc (.cells (dbC tb v u0 u1 u2) 116)) tb v w3.heap.size u0 u1 u2 newT := by
  refine ⟨heap_alloc_new w3 _, t0, lo.trans ((below_alloc w3 _).mono lo.size), lo.size, ?_, ?_, ?_, ⟨ok, fun i _ => Nat.zero_le _, fun j _ => ⟨Nat.zero_le _, Nat.zero_le _⟩, fun _ _ _ => rfl⟩⟩
  · rw [show flat (valF newT) tb.ctrs.length = (madeCells (Value.int .u32 0).cells (tb.ctrs.length * 1)).toList from made_u tb.ctrs.length, Nat.mul_one]
    exact h0.alloc _
  · rw [show flat (lkF newT) tb.als.length = flat (fun _ => [.bool false, .int .u32 0, .int .u32 0]) tb.als.length from flat_congr (fun i _ => rfl), made3]
    exact h1.alloc _
  · rw [show flat (rqF newT) tb.isrs.length = flat (fun _ => [.bool false]) tb.isrs.length from flat_congr (fun i _ => by unfold rqF; simp [newT, has_zero]), made1, Nat.mul_one]
    exact h2.alloc _
theorem nfin21 {W0 w w2 w3 : World} {tb : Tb} {v : Ts} (t0 : TbAt W0 tb v) (B0 : Below W0.heap.size W0 w2) (B1 : Below w.heap.size w w2) (hn : v.k.n = tb.ctrs.length ∧ v.a.n = tb.als.length ∧ v.i.n = tb.isrs.length) (ok : OKb tb) (N : Nat) (hN : w3.heap.size = N) (u0 u1 u2 : Sl) (BB : Below w2.heap.size w2 w3)
    (h0 : w3.ownsRow w2.heap.size 22 1 (slT u0) v.k.n (madeCells #[.int .u32 0] v.k.n).toList) (h1 : w3.ownsRow w2.heap.size 130 3 (slT u1) v.a.n (madeCells #[.bool false, .int .u32 0, .int .u32 0] (v.a.n * 3)).toList) (h2 : w3.ownsRow w2.heap.size 4 1 (slT u2) v.i.n (madeCells #[.bool false] v.i.n).toList) :
    ∃ P u0' u1' u2', Ending.returned (.tuple #[.pointer (some ⟨N, 0, none⟩), I 0]) = .returned (.tuple #[bP P, I 0]) ∧ Dd W0 (w3.alloc (.cells (dbC tb v u0 u1 u2) 116)).drew tb v P u0' u1' u2' newT ∧ (∀ x, Dm P u0' u1' u2' x → w.heap.size ≤ x) ∧ Below w.heap.size w (w3.alloc (.cells (dbC tb v u0 u1 u2) 116)).drew := by
  subst hN
  obtain ⟨n0, n1, n2⟩ := hn
  have hs := B0.size
  have hs1 := B1.size
  have hs2 := BB.size
  have l0 := h0.lt
  have l1 := h1.lt
  have l2 := h2.lt
  rw [n0] at h0
  rw [n1] at h1
  rw [n2] at h2
  have D := Dd.new (v := v) t0 (B0.trans (BB.mono hs)) ok (own_base h0 hs) (own_base h1 hs) (own_base h2 hs)
  refine ⟨_, u0, u1, u2, rfl, D.below ((Below.refl _ _).drew), ?_, ((B1.trans (BB.mono hs1)).trans ((below_alloc w3 _).mono (by omega))).drew⟩
  rintro x (rfl | e | e | e)
  · omega
  · have := (l0 x e).1; omega
  · have := (l1 x e).1; omega
  · have := (l2 x e).1; omega
theorem dNew_no (w : World) (tb : Tb) (v : Ts) (h : TbAt w tb v) (hc : chkD tb = false) : Calls Tryz.prog 17 #[.agg (tbC tb v)] w fun e w' => e = .returned (.tuple #[.pointer none, I 210]) ∧ Below w.heap.size w w' := by
  have hb0 := below_alloc w (.cells (tbC tb v) 37)
  have hV := heap_alloc_new w (.cells (tbC tb v) 37)
  have hC := docCheck_any9 tb v _ (h.below hb0)
  rw [hc] at hC
  simp only [zOf] at hC
  obtain ⟨c0, c1, c2, c3, c4, c5, c6, c7, c8, c9, c10, c11, c12⟩ := var13 hV
  have HB : Hid (∀ w', Below (w.alloc (.cells (tbC tb v) 37)).heap.size (w.alloc (.cells (tbC tb v) 37)) w' → Below w.heap.size w w') := fun w' hb => hb0.trans (hb.mono hb0.size)
  unfold tbC at *
  clear h hV hb0 hc
  go_enter Tryz.func17, Tryz.ntmps17
  go_upto_region 1 with fail
  generalize w.alloc (.cells #[I tb.uses, I tb.modes, .slice v.t.a v.t.n v.t.c, .slice v.g.a v.g.n v.g.c, .slice v.r.a v.r.n v.r.c, .slice v.k.a v.k.n v.k.c, .slice v.a.a v.a.n v.a.c, .slice v.i.a v.i.n v.i.c, .slice v.s.a v.s.n v.s.c, I tb.depth, I tb.frames, I tb.errors, I tb.calls] 37) = w1 at *
  go_wp2_with (first | (go_at_call 43; refine hC.mono ?_; clear hC; rintro e w2 ⟨rfl, hb2⟩))
  go_ret2
  exact ⟨rfl, HB.out _ hb2⟩
theorem dNew_ok (w : World) (tb : Tb) (v : Ts) (h : TbAt w tb v) (hc : chkD tb = true) (ok : OKb tb) {W0 : World} (h0 : TbAt W0 tb v) (hb : Below W0.heap.size W0 w) : Calls Tryz.prog 17 #[.agg (tbC tb v)] w fun e w' => ∃ P u0 u1 u2, e = .returned (.tuple #[bP P, I 0]) ∧ Dd W0 w' tb v P u0 u1 u2 newT ∧ (∀ x, Dm P u0 u1 u2 x → w.heap.size ≤ x) ∧ Below w.heap.size w w' := by
  obtain ⟨iu, hiu, hu0, hu1, hu2⟩ := info_parts u32info
  obtain ⟨il, hil, hl0, hl1, hl2⟩ := info_parts lkinfo
  obtain ⟨ib, hib, hb0', hb1', hb2'⟩ := info_parts boinfo
  have hb0 := below_alloc w (.cells (tbC tb v) 37)
  have hV := heap_alloc_new w (.cells (tbC tb v) 37)
  have hC := docCheck_any9 tb v _ (h.below hb0)
  rw [hc] at hC
  simp only [zOf] at hC
  obtain ⟨c0, c1, c2, c3, c4, c5, c6, c7, c8, c9, c10, c11, c12⟩ := var13 hV
  have hk : v.k.n ≤ 16 := by have := h.k.n; have := ok.nk; omega
  have ha : v.a.n ≤ 64 := by have := h.a.n; have := ok.na; omega
  have hi : v.i.n ≤ 32 := by have := h.i.n; have := ok.ni; omega
  have HN : Hid (v.k.n = tb.ctrs.length ∧ v.a.n = tb.als.length ∧ v.i.n = tb.isrs.length) := ⟨h.k.n, h.a.n, h.i.n⟩
  have HB : Hid (∀ w', Below (w.alloc (.cells (tbC tb v) 37)).heap.size (w.alloc (.cells (tbC tb v) 37)) w' → Below w.heap.size w w' ∧ w'.heap[w.heap.size]? = some (.cells (tbC tb v) 37)) := fun w' hb => ⟨hb0.trans (hb.mono hb0.size), (hb.block _ (heap_lt hV)).trans hV⟩
  have H0 : Hid (TbAt W0 tb v ∧ Below W0.heap.size W0 w ∧ OKb tb) := ⟨h0, hb, ok⟩
  have mk0 := fun w => makeR w (n := v.k.n) Tryz.underlying74 hiu hu0 hu1 (by rw [hu2]; omega) (by omega)
  have mk1 := fun w => makeR w (n := v.a.n) Tryz.underlying111 hil hl0 hl1 (by rw [hl2]; omega) (by omega)
  have mk2 := fun w => makeR w (n := v.i.n) Tryz.underlying114 hib hb0' hb1' (by rw [hb2']; omega) (by omega)
  unfold tbC at *
  clear h hV hb0 hc ok h0 hb
  go_enter Tryz.func17, Tryz.ntmps17
  go_upto_region 1 with fail
  generalize w.alloc (.cells #[I tb.uses, I tb.modes, .slice v.t.a v.t.n v.t.c, .slice v.g.a v.g.n v.g.c, .slice v.r.a v.r.n v.r.c, .slice v.k.a v.k.n v.k.c, .slice v.a.a v.a.n v.a.c, .slice v.i.a v.i.n v.i.c, .slice v.s.a v.s.n v.s.c, I tb.depth, I tb.frames, I tb.errors, I tb.calls] 37) = w1 at *
  generalize hX : w.heap.size = X at *
  have HX : Hid (w.heap.size = X) := hX
  clear hX
  go_upto_region 3 with (first | (go_at_call 43; refine hC.mono ?_; clear hC; rintro e w2 ⟨rfl, hb2⟩))
  obtain ⟨bw, hV⟩ := HB.out _ hb2
  clear c0 c1 c2 c3 c4 c5 c6 c7 c8 c9 c10 c11 c12 HB
  have H13 : Hid (∀ W, Below w2.heap.size w2 W → W.cell? ⟨X, 0, none⟩ = some (I tb.uses) ∧ W.cell? ⟨X, 1, none⟩ = some (I tb.modes) ∧ W.cell? ⟨X, 2, none⟩ = some (.slice v.t.a v.t.n v.t.c) ∧ W.cell? ⟨X, 3, none⟩ = some (.slice v.g.a v.g.n v.g.c) ∧ W.cell? ⟨X, 4, none⟩ = some (.slice v.r.a v.r.n v.r.c) ∧ W.cell? ⟨X, 5, none⟩ = some (.slice v.k.a v.k.n v.k.c) ∧ W.cell? ⟨X, 6, none⟩ = some (.slice v.a.a v.a.n v.a.c) ∧ W.cell? ⟨X, 7, none⟩ = some (.slice v.i.a v.i.n v.i.c) ∧ W.cell? ⟨X, 8, none⟩ = some (.slice v.s.a v.s.n v.s.c) ∧ W.cell? ⟨X, 9, none⟩ = some (I tb.depth) ∧ W.cell? ⟨X, 10, none⟩ = some (I tb.frames) ∧ W.cell? ⟨X, 11, none⟩ = some (I tb.errors) ∧ W.cell? ⟨X, 12, none⟩ = some (I tb.calls)) := fun W hb => var13 (tb := tb) (v := v) ((hb.block _ (heap_lt hV)).trans hV)
  have HBW : Hid (Below X w w2 ∧ X < w2.heap.size) := ⟨bw, heap_lt hV⟩
  have k0 := H13.out w2 (Below.refl _ _)
  have k1 := fun o => H13.out (w2.alloc o) (below_alloc w2 o)
  have k2 := fun o o2 => H13.out ((w2.alloc o).alloc o2) ((below_alloc w2 o).trans ((below_alloc _ o2).mono (by simp)))
  have k3 := fun o o2 o3 => H13.out (((w2.alloc o).alloc o2).alloc o3) (((below_alloc w2 o).trans ((below_alloc _ o2).mono (by simp))).trans ((below_alloc _ o3).mono (by simp; omega)))
  clear hV bw hb2
  go_region_held_law (fun W => W.cell? ⟨X, 0, none⟩ = some (I tb.uses) ∧ W.cell? ⟨X, 1, none⟩ = some (I tb.modes) ∧ W.cell? ⟨X, 2, none⟩ = some (.slice v.t.a v.t.n v.t.c) ∧ W.cell? ⟨X, 3, none⟩ = some (.slice v.g.a v.g.n v.g.c) ∧ W.cell? ⟨X, 4, none⟩ = some (.slice v.r.a v.r.n v.r.c) ∧ W.cell? ⟨X, 5, none⟩ = some (.slice v.k.a v.k.n v.k.c) ∧ W.cell? ⟨X, 6, none⟩ = some (.slice v.a.a v.a.n v.a.c) ∧ W.cell? ⟨X, 7, none⟩ = some (.slice v.i.a v.i.n v.i.c) ∧ W.cell? ⟨X, 8, none⟩ = some (.slice v.s.a v.s.n v.s.c) ∧ W.cell? ⟨X, 9, none⟩ = some (I tb.depth) ∧ W.cell? ⟨X, 10, none⟩ = some (I tb.frames) ∧ W.cell? ⟨X, 11, none⟩ = some (I tb.errors) ∧ W.cell? ⟨X, 12, none⟩ = some (I tb.calls)) (first | exact k0 | exact k1 _ | exact k2 _ _ | exact k3 _ _ _ | (go_keep; done)) (fail)
  all_goals
    clear k0 k1 k2 k3 mk0 mk1 mk2
    go_wp2
    go_ret2
    obtain ⟨t0, lo, ok⟩ := H0.out
    obtain ⟨n0, n1, n2⟩ := HN.out
    have hX := HX.out
    have hB := HBW.out.1
    have hlt := HBW.out.2
    have hs := lo.size
    have B1 : Below w.heap.size w w2 := by rw [hX]; exact hB
    have B0 := lo.trans (B1.mono hs)
    have BB : ∀ o o2 o3 : Obj, Below w2.heap.size w2 (((w2.alloc o).alloc o2).alloc o3) := fun o o2 o3 => ((below_alloc w2 o).trans ((below_alloc _ o2).mono (by simp))).trans ((below_alloc _ o3).mono (by simp; omega))
    have L0 : ∀ (W : World) (a : Nat), W.heap.size = a → w2.heap.size ≤ a → (W.alloc (.cells (madeCells #[.int .u32 0] v.k.n) 22)).ownsRow w2.heap.size 22 1 (.slice (some ⟨a, 0, none⟩) v.k.n v.k.n) v.k.n (madeCells #[.int .u32 0] v.k.n).toList := fun W a ha hW => by subst ha; exact World.ownsRow_lit W _ _ hW (by unfold maxLen; omega) (by rw [Nat.mul_one]; exact size_madeCells _ _)
    have L1 : ∀ (W : World) (a : Nat), W.heap.size = a → w2.heap.size ≤ a → (W.alloc (.cells (madeCells #[.bool false, .int .u32 0, .int .u32 0] (v.a.n * 3)) 130)).ownsRow w2.heap.size 130 3 (.slice (some ⟨a, 0, none⟩) v.a.n v.a.n) v.a.n (madeCells #[.bool false, .int .u32 0, .int .u32 0] (v.a.n * 3)).toList := fun W a ha hW => by subst ha; exact World.ownsRow_lit W _ _ hW (by unfold maxLen; omega) (size_madeCells _ _)
    have L2 : ∀ (W : World) (a : Nat), W.heap.size = a → w2.heap.size ≤ a → (W.alloc (.cells (madeCells #[.bool false] v.i.n) 4)).ownsRow w2.heap.size 4 1 (.slice (some ⟨a, 0, none⟩) v.i.n v.i.n) v.i.n (madeCells #[.bool false] v.i.n).toList := fun W a ha hW => by subst ha; exact World.ownsRow_lit W _ _ hW (by unfold maxLen; omega) (by rw [Nat.mul_one]; exact size_madeCells _ _)
    first
    | exact nfin21 (w2 := w2) (w3 := (((w2.alloc (.cells (madeCells #[.int .u32 0] v.k.n) 22)).alloc (.cells (madeCells #[.bool false, .int .u32 0, .int .u32 0] (v.a.n * 3)) 130)).alloc (.cells (madeCells #[.bool false] v.i.n) 4))) (tb := tb) (v := v) t0 B0 B1 HN.out ok (w2.heap.size + 1 + 1 + 1) (by simp) ⟨some ⟨w2.heap.size, 0, none⟩, v.k.n, v.k.n⟩ ⟨some ⟨w2.heap.size + 1, 0, none⟩, v.a.n, v.a.n⟩ ⟨some ⟨w2.heap.size + 1 + 1, 0, none⟩, v.i.n, v.i.n⟩ (BB _ _ _) (((L0 w2 (w2.heap.size) (by simp) (by omega)).alloc (.cells (madeCells #[.bool false, .int .u32 0, .int .u32 0] (v.a.n * 3)) 130)).alloc (.cells (madeCells #[.bool false] v.i.n) 4)) ((L1 (w2.alloc (.cells (madeCells #[.int .u32 0] v.k.n) 22)) (w2.heap.size + 1) (by simp) (by omega)).alloc (.cells (madeCells #[.bool false] v.i.n) 4)) (L2 ((w2.alloc (.cells (madeCells #[.int .u32 0] v.k.n) 22)).alloc (.cells (madeCells #[.bool false, .int .u32 0, .int .u32 0] (v.a.n * 3)) 130)) (w2.heap.size + 1 + 1) (by simp) (by omega))
    | exact nfin21 (w2 := w2) (w3 := (((w2.alloc (.cells (madeCells #[.int .u32 0] v.k.n) 22)).alloc (.cells (madeCells #[.bool false] v.i.n) 4)).alloc (.cells (madeCells #[.bool false, .int .u32 0, .int .u32 0] (v.a.n * 3)) 130))) (tb := tb) (v := v) t0 B0 B1 HN.out ok (w2.heap.size + 1 + 1 + 1) (by simp) ⟨some ⟨w2.heap.size, 0, none⟩, v.k.n, v.k.n⟩ ⟨some ⟨w2.heap.size + 1 + 1, 0, none⟩, v.a.n, v.a.n⟩ ⟨some ⟨w2.heap.size + 1, 0, none⟩, v.i.n, v.i.n⟩ (BB _ _ _) (((L0 w2 (w2.heap.size) (by simp) (by omega)).alloc (.cells (madeCells #[.bool false] v.i.n) 4)).alloc (.cells (madeCells #[.bool false, .int .u32 0, .int .u32 0] (v.a.n * 3)) 130)) (L1 ((w2.alloc (.cells (madeCells #[.int .u32 0] v.k.n) 22)).alloc (.cells (madeCells #[.bool false] v.i.n) 4)) (w2.heap.size + 1 + 1) (by simp) (by omega)) ((L2 (w2.alloc (.cells (madeCells #[.int .u32 0] v.k.n) 22)) (w2.heap.size + 1) (by simp) (by omega)).alloc (.cells (madeCells #[.bool false, .int .u32 0, .int .u32 0] (v.a.n * 3)) 130))
    | exact nfin21 (w2 := w2) (w3 := (((w2.alloc (.cells (madeCells #[.bool false, .int .u32 0, .int .u32 0] (v.a.n * 3)) 130)).alloc (.cells (madeCells #[.int .u32 0] v.k.n) 22)).alloc (.cells (madeCells #[.bool false] v.i.n) 4))) (tb := tb) (v := v) t0 B0 B1 HN.out ok (w2.heap.size + 1 + 1 + 1) (by simp) ⟨some ⟨w2.heap.size + 1, 0, none⟩, v.k.n, v.k.n⟩ ⟨some ⟨w2.heap.size, 0, none⟩, v.a.n, v.a.n⟩ ⟨some ⟨w2.heap.size + 1 + 1, 0, none⟩, v.i.n, v.i.n⟩ (BB _ _ _) ((L0 (w2.alloc (.cells (madeCells #[.bool false, .int .u32 0, .int .u32 0] (v.a.n * 3)) 130)) (w2.heap.size + 1) (by simp) (by omega)).alloc (.cells (madeCells #[.bool false] v.i.n) 4)) (((L1 w2 (w2.heap.size) (by simp) (by omega)).alloc (.cells (madeCells #[.int .u32 0] v.k.n) 22)).alloc (.cells (madeCells #[.bool false] v.i.n) 4)) (L2 ((w2.alloc (.cells (madeCells #[.bool false, .int .u32 0, .int .u32 0] (v.a.n * 3)) 130)).alloc (.cells (madeCells #[.int .u32 0] v.k.n) 22)) (w2.heap.size + 1 + 1) (by simp) (by omega))
    | exact nfin21 (w2 := w2) (w3 := (((w2.alloc (.cells (madeCells #[.bool false] v.i.n) 4)).alloc (.cells (madeCells #[.int .u32 0] v.k.n) 22)).alloc (.cells (madeCells #[.bool false, .int .u32 0, .int .u32 0] (v.a.n * 3)) 130))) (tb := tb) (v := v) t0 B0 B1 HN.out ok (w2.heap.size + 1 + 1 + 1) (by simp) ⟨some ⟨w2.heap.size + 1, 0, none⟩, v.k.n, v.k.n⟩ ⟨some ⟨w2.heap.size + 1 + 1, 0, none⟩, v.a.n, v.a.n⟩ ⟨some ⟨w2.heap.size, 0, none⟩, v.i.n, v.i.n⟩ (BB _ _ _) ((L0 (w2.alloc (.cells (madeCells #[.bool false] v.i.n) 4)) (w2.heap.size + 1) (by simp) (by omega)).alloc (.cells (madeCells #[.bool false, .int .u32 0, .int .u32 0] (v.a.n * 3)) 130)) (L1 ((w2.alloc (.cells (madeCells #[.bool false] v.i.n) 4)).alloc (.cells (madeCells #[.int .u32 0] v.k.n) 22)) (w2.heap.size + 1 + 1) (by simp) (by omega)) (((L2 w2 (w2.heap.size) (by simp) (by omega)).alloc (.cells (madeCells #[.int .u32 0] v.k.n) 22)).alloc (.cells (madeCells #[.bool false, .int .u32 0, .int .u32 0] (v.a.n * 3)) 130))
    | exact nfin21 (w2 := w2) (w3 := (((w2.alloc (.cells (madeCells #[.bool false, .int .u32 0, .int .u32 0] (v.a.n * 3)) 130)).alloc (.cells (madeCells #[.bool false] v.i.n) 4)).alloc (.cells (madeCells #[.int .u32 0] v.k.n) 22))) (tb := tb) (v := v) t0 B0 B1 HN.out ok (w2.heap.size + 1 + 1 + 1) (by simp) ⟨some ⟨w2.heap.size + 1 + 1, 0, none⟩, v.k.n, v.k.n⟩ ⟨some ⟨w2.heap.size, 0, none⟩, v.a.n, v.a.n⟩ ⟨some ⟨w2.heap.size + 1, 0, none⟩, v.i.n, v.i.n⟩ (BB _ _ _) (L0 ((w2.alloc (.cells (madeCells #[.bool false, .int .u32 0, .int .u32 0] (v.a.n * 3)) 130)).alloc (.cells (madeCells #[.bool false] v.i.n) 4)) (w2.heap.size + 1 + 1) (by simp) (by omega)) (((L1 w2 (w2.heap.size) (by simp) (by omega)).alloc (.cells (madeCells #[.bool false] v.i.n) 4)).alloc (.cells (madeCells #[.int .u32 0] v.k.n) 22)) ((L2 (w2.alloc (.cells (madeCells #[.bool false, .int .u32 0, .int .u32 0] (v.a.n * 3)) 130)) (w2.heap.size + 1) (by simp) (by omega)).alloc (.cells (madeCells #[.int .u32 0] v.k.n) 22))
    | exact nfin21 (w2 := w2) (w3 := (((w2.alloc (.cells (madeCells #[.bool false] v.i.n) 4)).alloc (.cells (madeCells #[.bool false, .int .u32 0, .int .u32 0] (v.a.n * 3)) 130)).alloc (.cells (madeCells #[.int .u32 0] v.k.n) 22))) (tb := tb) (v := v) t0 B0 B1 HN.out ok (w2.heap.size + 1 + 1 + 1) (by simp) ⟨some ⟨w2.heap.size + 1 + 1, 0, none⟩, v.k.n, v.k.n⟩ ⟨some ⟨w2.heap.size + 1, 0, none⟩, v.a.n, v.a.n⟩ ⟨some ⟨w2.heap.size, 0, none⟩, v.i.n, v.i.n⟩ (BB _ _ _) (L0 ((w2.alloc (.cells (madeCells #[.bool false] v.i.n) 4)).alloc (.cells (madeCells #[.bool false, .int .u32 0, .int .u32 0] (v.a.n * 3)) 130)) (w2.heap.size + 1 + 1) (by simp) (by omega)) ((L1 (w2.alloc (.cells (madeCells #[.bool false] v.i.n) 4)) (w2.heap.size + 1) (by simp) (by omega)).alloc (.cells (madeCells #[.int .u32 0] v.k.n) 22)) (((L2 w2 (w2.heap.size) (by simp) (by omega)).alloc (.cells (madeCells #[.bool false, .int .u32 0, .int .u32 0] (v.a.n * 3)) 130)).alloc (.cells (madeCells #[.int .u32 0] v.k.n) 22))
end Go.Proofs.YthhckhifaolmkaaGreat

namespace Go.Proofs.YthhckhifaolmkaaGreat
open Go.RowKit Go.Maps Go.Shelf Go.Sort
open Go.Proofs.YthhckhifaolmkaaGreat.Cl (Fx Fz Ck Cb Alm psA dueA dueF U Q cP own_sl own_some own_below own_base inL ret_bool ret_int heap_lt iinfo cell_one_new take_snoc aftN)
set_option linter.unusedVariables false
set_option linter.unusedSimpArgs false
set_option maxRecDepth 100000
set_option maxHeartbeats 8000000
/-- the law's ints, of two rows alike -/
theorem ints_same (w : World) (b1 b2 : Nat) (u1 u2 : Value) (l : List Nat) (hl : l.length ≤ 65) (h1 : w.ownsRow b1 3 1 u1 l.length (inL l)) (h2 : w.ownsRow b2 3 1 u2 l.length (inL l)) : Calls Tryz.prog 46 #[u1, u2] w fun e w' => e = .returned (.bool true) ∧ Below w.heap.size w w' := by
  obtain ⟨a1, c1, rfl⟩ := own_sl h1
  obtain ⟨a2, c2, rfl⟩ := own_sl h2
  have H1 : Hid (∀ (k : Nat) (x : Nat), l[k]? = some x → ∃ g, a1 = some ⟨g, 0, none⟩ ∧ w.cell? ⟨g, k, none⟩ = some (I x)) := fun k x hx => by
    obtain ⟨g, c, e⟩ := own_some h1 (by have := (List.getElem?_eq_some_iff.1 hx).1; omega)
    cases e
    refine ⟨g, rfl, ?_⟩
    rw [h1.cellAt _ (by have := (List.getElem?_eq_some_iff.1 hx).1; omega)]
    simp [inL, hx]
  have H2 : Hid (∀ (k : Nat) (x : Nat), l[k]? = some x → ∃ g, a2 = some ⟨g, 0, none⟩ ∧ w.cell? ⟨g, k, none⟩ = some (I x)) := fun k x hx => by
    obtain ⟨g, c, e⟩ := own_some h2 (by have := (List.getElem?_eq_some_iff.1 hx).1; omega)
    cases e
    refine ⟨g, rfl, ?_⟩
    rw [h2.cellAt _ (by have := (List.getElem?_eq_some_iff.1 hx).1; omega)]
    simp [inL, hx]
  clear h1 h2
  go_enter Tryz.func46, Tryz.ntmps46
  go_wp2
  go_loopw [5] (fun v5 wr => ∃ k n : Nat, k ≤ l.length ∧ v5 = I k ∧ Hid (wr = w.drewN n)) (fun v5 _ => l.length - (intOf v5).toNat)
  case atStart => exact ⟨0, 0, by omega, rfl, rfl⟩
  case round =>
    obtain ⟨k, n, hk, rfl, HN⟩ := hrel
    obtain rfl : wr = w.drewN n := HN.out
    by_cases hlt : k < l.length
    · have hltI : (k : Int) < l.length := by omega
      obtain ⟨x, hx⟩ : ∃ x, l[k]? = some x := ⟨_, List.getElem?_eq_getElem hlt⟩
      obtain ⟨g1, rfl, y1⟩ := H1.out k x hx
      obtain ⟨g2, rfl, y2⟩ := H2.out k x hx
      have z1 : (w.drewN n).cell? ⟨g1, k, none⟩ = some (I x) := y1
      have z2 : (w.drewN n).cell? ⟨g2, k, none⟩ = some (I x) := y2
      have HG : Hid (∀ m, ∃ m', (w.drewN n).drewN m = w.drewN m') := fun m => ⟨_, Cl.drewN_add _ _ _⟩
      clear y1 y2 hx HN
      generalize w.drewN n = w2 at *
      go_upto_region 6 with fail
      go_quiet (fail)
      go_wp2
      go_roundw
      case rel =>
        obtain ⟨m', hm⟩ := HG.out nq
        exact ⟨k + 1, m', by omega, by go_num, hm⟩
      case measure => simp [intOf]; omega
    · obtain rfl : k = l.length := by omega
      have hge : ¬ ((l.length : Int) < l.length) := by omega
      go_wp2
      go_ret
      exact ⟨rfl, Cl.below_drewN _ (Below.refl _ _)⟩
theorem neq_look (w : World) (b : Bool) (x y : Int) : (binOp .neq 130 (.agg #[.bool b, U x, U y]) (.agg #[.bool b, U x, U y])).run Tryz.prog w = .ok (.bool false) w := by
  simp [go_sem]
theorem eql_base (w : World) (x y z : Int) : (binOp .eql 83 (.agg #[U x, U y, U z]) (.agg #[U x, U y, U z])).run Tryz.prog w = .ok (.bool true) w := by
  obtain ⟨i, hi, -⟩ := info_parts u32info
  have e1 : ∀ (d : Nat) (a : Int), (Op.equalIn (d + 1) 22 (U a) (U a)).run Tryz.prog w = .ok true w := fun d a => by rw [run_equalIn_int (h := Tryz.underlying22)]; simp
  rw [run_eql_struct, show (10000 : Nat) = 9999 + 1 from rfl, run_equalIn_array w 9999 _ _ Tryz.underlying83 hi]
  have ec : Tryz.prog.cellsOf 22 = 1 := by kernel_rfl
  rw [ec]
  simp [Op.eqItems, List.range, List.range.loop, e1 9998, go_sem]
/-- both boards, apart -/
structure Bt (W0 w : World) (tb : Tb) (v : Ts) (B P : Nat) (p : Pl) (zn : Nat → Nat) (vv va vr : Sl) (s t : Bs) : Prop where
  b : Bo w zn tb B p s
  d : Dd W0 w tb v P vv va vr t
  ap : ∀ x, Dm P vv va vr x → zn x = 0
  lo : ∀ x, Wr zn x → W0.heap.size ≤ x
def Nb (zn : Nat → Nat) (P : Nat) (vv va vr : Sl) (x : Nat) : Prop := Wr zn x ∨ Dm P vv va vr x
section
variable {W0 w w' : World} {tb : Tb} {v : Ts} {B P : Nat} {p : Pl} {zn : Nat → Nat} {vv va vr : Sl} {s s' t t' : Bs}
theorem Bt.below (h : Bt W0 w tb v B P p zn vv va vr s t) (hb : Below w.heap.size w w') : Bt W0 w' tb v B P p zn vv va vr s t := ⟨h.b.below hb, h.d.below hb, h.ap, h.lo⟩
theorem Bt.nw (h : Bt W0 w tb v B P p zn vv va vr s t) : ∀ x, Dm P vv va vr x → ¬ Wr zn x := fun x e e2 => by
  have := h.ap x e
  unfold Wr at e2
  omega
/-- the program's call -/
theorem Bt.pro (h : Bt W0 w tb v B P p zn vv va vr s t) (hb : Bo w' zn tb B p s') (hf : Fz (Wr zn) w w') : Bt W0 w' tb v B P p zn vv va vr s' t := ⟨hb, h.d.keep hf h.nw h.lo, h.ap, h.lo⟩
/-- the document's call -/
theorem Bt.doc (h : Bt W0 w tb v B P p zn vv va vr s t) (hd : Dd W0 w' tb v P vv va vr t') (hf : Fz (Dm P vv va vr) w w') : Bt W0 w' tb v B P p zn vv va vr s t' := ⟨h.b.keep hf (fun x e e2 => e (h.ap x e2)), hd, h.ap, h.lo⟩
/-- the document's call that lays new rows -/
theorem Bt.doc2 (h : Bt W0 w tb v B P p zn vv va vr s t) {vv' va' vr' : Sl} (hd : Dd W0 w' tb v P vv' va' vr' t') (hf : Fz (Dm P vv va vr) w w') (hn : ∀ x, Dm P vv' va' vr' x → Dm P vv va vr x ∨ w.heap.size ≤ x) : Bt W0 w' tb v B P p zn vv' va' vr' s t' := ⟨h.b.keep hf (fun x e e2 => e (h.ap x e2)), hd, fun x e => by
  rcases hn x e with e2 | e2
  · exact h.ap x e2
  · by_cases e3 : zn x = 0
    · exact e3
    · have := h.b.zs x e3; omega, h.lo⟩
theorem Bt.lt (h : Bt W0 w tb v B P p zn vv va vr s t) {x : Nat} (hx : Nb zn P vv va vr x) : x < w.heap.size := by
  rcases hx with e | e
  · exact h.b.zs x (by unfold Wr at e; omega)
  · exact (h.d.lo x e).2
end
end Go.Proofs.YthhckhifaolmkaaGreat

namespace Go.Proofs.YthhckhifaolmkaaGreat
open Go.RowKit Go.Maps Go.Shelf Go.Sort
open Go.Proofs.YthhckhifaolmkaaGreat.Cl (Fx Fz Ck Cb Alm psA dueA dueF U Q cP own_sl own_some own_below own_base inL ret_bool ret_int heap_lt iinfo cell_one_new take_snoc aftN)
set_option linter.unusedVariables false
set_option linter.unusedSimpArgs false
set_option maxRecDepth 100000
set_option maxHeartbeats 16000000
/-- three rows of their own -/
structure Ow3 (w W : World) (u5 u6 u7 : Value) (n5 n6 n7 : Nat) (x5 x6 x7 : List Value) : Prop where
  b : Below w.heap.size w W
  r5 : W.ownsRow w.heap.size 22 1 u5 n5 x5
  r6 : W.ownsRow w.heap.size 130 3 u6 n6 x6
  r7 : W.ownsRow w.heap.size 3 1 u7 n7 x7
section
variable {w W W' : World} {u5 u6 u7 : Value} {n5 n6 n7 : Nat} {x5 x6 x7 : List Value}
theorem Ow3.below (h : Ow3 w W u5 u6 u7 n5 n6 n7 x5 x6 x7) (hb : Below W.heap.size W W') : Ow3 w W' u5 u6 u7 n5 n6 n7 x5 x6 x7 := ⟨h.b.trans (hb.mono h.b.size), own_below h.r5 hb, own_below h.r6 hb, own_below h.r7 hb⟩
theorem Ow3.set5 {g c k : Nat} {x : Value} (h : Ow3 w W (.slice (some ⟨g, 0, none⟩) n5 c) u6 u7 n5 n6 n7 x5 x6 x7) : Ow3 w (W.setCell ⟨g, k, none⟩ x) (.slice (some ⟨g, 0, none⟩) n5 c) u6 u7 n5 n6 n7 (x5.set k x) x6 x7 := by
  have hf := fz_set21 W g k x
  have hg := (h.r5.lt g rfl).1
  exact ⟨h.b.trans (hf.below h.b.size (by rintro b rfl; exact hg)), (h.r5.stored k x).1, hf.own h.r6 (fun y e e2 => own_apart h.r6 h.r5 (by decide) e (by have e3 : y = g := e2; rw [e3]; rfl)), hf.own h.r7 (fun y e e2 => own_apart h.r7 h.r5 (by decide) e (by have e3 : y = g := e2; rw [e3]; rfl))⟩
theorem Ow3.set6 {g c k : Nat} {x : Value} (h : Ow3 w W u5 (.slice (some ⟨g, 0, none⟩) n6 c) u7 n5 n6 n7 x5 x6 x7) : Ow3 w (W.setCell ⟨g, k, none⟩ x) u5 (.slice (some ⟨g, 0, none⟩) n6 c) u7 n5 n6 n7 x5 (x6.set k x) x7 := by
  have hf := fz_set21 W g k x
  have hg := (h.r6.lt g rfl).1
  exact ⟨h.b.trans (hf.below h.b.size (by rintro b rfl; exact hg)), hf.own h.r5 (fun y e e2 => own_apart h.r5 h.r6 (by decide) e (by have e3 : y = g := e2; rw [e3]; rfl)), (h.r6.stored k x).1, hf.own h.r7 (fun y e e2 => own_apart h.r7 h.r6 (by decide) e (by have e3 : y = g := e2; rw [e3]; rfl))⟩
theorem Ow3.set7 {g c k : Nat} {x : Value} (h : Ow3 w W u5 u6 (.slice (some ⟨g, 0, none⟩) n7 c) n5 n6 n7 x5 x6 x7) : Ow3 w (W.setCell ⟨g, k, none⟩ x) u5 u6 (.slice (some ⟨g, 0, none⟩) n7 c) n5 n6 n7 x5 x6 (x7.set k x) := by
  have hf := fz_set21 W g k x
  have hg := (h.r7.lt g rfl).1
  exact ⟨h.b.trans (hf.below h.b.size (by rintro b rfl; exact hg)), hf.own h.r5 (fun y e e2 => own_apart h.r5 h.r7 (by decide) e (by have e3 : y = g := e2; rw [e3]; rfl)), hf.own h.r6 (fun y e e2 => own_apart h.r6 h.r7 (by decide) e (by have e3 : y = g := e2; rw [e3]; rfl)), (h.r7.stored k x).1⟩
end
section
variable {W0 w w' : World} {tb : Tb} {v : Ts} {B P : Nat} {p : Pl} {zn : Nat → Nat} {vv va vr : Sl} {s : Bs}
theorem tells_any (h : Bt W0 w tb v B P p zn vv va vr s s) : Calls Tryz.prog 22 #[bP B, bP P] w fun e w' => e = .returned (.bool true) ∧ Below w.heap.size w w' := by
  have HH : Hid (Bt W0 w tb v B P p zn vv va vr s s) := h
  have hnk : tb.ctrs.length ≤ 16 := h.d.d.ok.nk
  have hna : tb.als.length ≤ 64 := h.d.d.ok.na
  have hni : tb.isrs.length ≤ 32 := h.d.d.ok.ni
  have hrl : (reqL tb s.q tb.isrs.length).length ≤ 32 := by have := reqL_len tb s.q tb.isrs.length; omega
  obtain ⟨aV, cV, evV⟩ := own_sl h.d.v
  obtain ⟨aA, cA, evA⟩ := own_sl h.d.a
  have HSV : Hid (slT vv = .slice aV tb.ctrs.length cV ∧ slT va = .slice aA tb.als.length cA) := ⟨evV, evA⟩
  have hC := bCounters h.b
  have HA : Hid (∀ W, Below w.heap.size w W → Calls Tryz.prog 41 #[bP B] W fun e w' => ∃ u, e = .returned u ∧ w'.ownsRow W.heap.size 130 3 u tb.als.length (flat (lkF s) tb.als.length) ∧ Below W.heap.size W w') := fun W hb => bAlarms (h.b.below hb)
  have HR : Hid (∀ W, Below w.heap.size w W → Calls Tryz.prog 42 #[bP B] W fun e w' => ∃ v, e = .returned v ∧ w'.ownsRow W.heap.size 3 1 v (reqL tb s.q tb.isrs.length).length (inL (reqL tb s.q tb.isrs.length)) ∧ Below W.heap.size W w') := fun W hb => bRequested (h.b.below hb)
  have HD : Hid (∀ W, Below w.heap.size w W → Calls Tryz.prog 57 #[bP P] W fun e w' => ∃ u, e = .returned u ∧ w'.ownsRow W.heap.size 3 1 u (reqL tb s.q tb.isrs.length).length (inL (reqL tb s.q tb.isrs.length)) ∧ Below W.heap.size W w') := fun W hb => dRequested (h.d.below hb)
  clear h evV evA
  go_enter Tryz.func22, Tryz.ntmps22
  go_upto_region 5 with (first
    | (go_at_call 24; refine hC.mono ?_; clear hC; rintro e w1 ⟨z5, rfl, o1, b1⟩; have hA := HA.out w1 b1; have H1 : Hid (w1.ownsRow w.heap.size 22 1 z5 tb.ctrs.length (flat (valF s) tb.ctrs.length) ∧ Below w.heap.size w w1) := ⟨o1, b1⟩; clear o1 b1)
    | (go_at_call 41; refine hA.mono ?_; clear hA; rintro e w2 ⟨z6, rfl, o2, b2⟩; have b2' := H1.out.2.trans (b2.mono H1.out.2.size); have hR := HR.out w2 b2'; have H2 : Hid (w2.ownsRow w1.heap.size 130 3 z6 tb.als.length (flat (lkF s) tb.als.length) ∧ Below w1.heap.size w1 w2 ∧ Below w.heap.size w w2) := ⟨o2, b2, b2'⟩; clear o2 b2 b2')
    | (go_at_call 42; refine hR.mono ?_; clear hR; rintro e w3 ⟨z7, rfl, o3, b3⟩; have b3' := H2.out.2.2.trans (b3.mono H2.out.2.2.size); have hD := HD.out w3 b3'; have H3 : Hid (w3.ownsRow w2.heap.size 3 1 z7 (reqL tb s.q tb.isrs.length).length (inL (reqL tb s.q tb.isrs.length)) ∧ Below w2.heap.size w2 w3 ∧ Below w.heap.size w w3) := ⟨o3, b3, b3'⟩; clear o3 b3 b3')
    | (go_at_call 57; refine hD.mono ?_; clear hD; rintro e w4 ⟨z8, rfl, o4, b4⟩; have b4' := H3.out.2.2.trans (b4.mono H3.out.2.2.size); have hI := ints_same w4 _ _ _ _ _ (by omega) (own_below H3.out.1 b4) o4; have H4 : Hid (Below w3.heap.size w3 w4 ∧ Below w.heap.size w w4) := ⟨b4, b4'⟩; clear o4 b4 b4')
    | (go_at_call 46; refine hI.mono ?_; clear hI; rintro e w5 ⟨rfl, b5⟩; have H5 : Hid (Ow3 w w5 z5 z6 z7 tb.ctrs.length tb.als.length (reqL tb s.q tb.isrs.length).length (flat (valF s) tb.ctrs.length) (flat (lkF s) tb.als.length) (inL (reqL tb s.q tb.isrs.length))) := ⟨H4.out.2.trans (b5.mono H4.out.2.size), own_below (own_below (own_below (own_below H1.out.1 H2.out.2.1) H3.out.2.1) H4.out.1) b5, own_base (own_below (own_below (own_below H2.out.1 H3.out.2.1) H4.out.1) b5) H1.out.2.size, own_base (own_below (own_below H3.out.1 H4.out.1) b5) H2.out.2.2.size⟩; clear b5))
  clear H1 H2 H3 H4
  have hd5 := HH.out.d.below H5.out.b
  obtain ⟨-, -, -, -, c13, c14, -⟩ := hd5.cells
  rw [HSV.out.1] at c13
  rw [HSV.out.2] at c14
  obtain ⟨a5, k5, rfl⟩ := own_sl H5.out.r5
  obtain ⟨a6, k6, rfl⟩ := own_sl H5.out.r6
  obtain ⟨a7, k7, rfl⟩ := own_sl H5.out.r7
  clear hd5
  have HI : Hid (∃ x5, Ow3 w w5 (.slice a5 tb.ctrs.length k5) (.slice a6 tb.als.length k6) (.slice a7 (reqL tb s.q tb.isrs.length).length k7) tb.ctrs.length tb.als.length (reqL tb s.q tb.isrs.length).length x5 (flat (lkF s) tb.als.length) (inL (reqL tb s.q tb.isrs.length)) ∧ ∀ j, 0 ≤ j → j < tb.ctrs.length → x5[j]? = some (U (s.v j))) := ⟨_, H5.out, fun j _ hj => by
    have := flat_at (f := valF s) (fun _ => rfl) (k := 1) (n := tb.ctrs.length) (j := 0) hj (by omega)
    rwa [Nat.mul_one, Nat.add_zero] at this⟩
  clear H5
  go_wp2
  clear c13 c14
  go_loopw [9] (fun v9 wr => ∃ k : Nat, k ≤ tb.ctrs.length ∧ v9 = I k ∧ Hid (∃ x5, Ow3 w wr (.slice a5 tb.ctrs.length k5) (.slice a6 tb.als.length k6) (.slice a7 (reqL tb s.q tb.isrs.length).length k7) tb.ctrs.length tb.als.length (reqL tb s.q tb.isrs.length).length x5 (flat (lkF s) tb.als.length) (inL (reqL tb s.q tb.isrs.length)) ∧ ∀ j, k ≤ j → j < tb.ctrs.length → x5[j]? = some (U (s.v j)))) (fun v9 _ => tb.ctrs.length - (intOf v9).toNat)
  case atStart => exact ⟨0, by omega, rfl, HI.out⟩
  case round =>
    clear HI
    obtain ⟨k, hk, rfl, HJ⟩ := hrel
    by_cases hlt : k < tb.ctrs.length
    · have hltI : (k : Int) < tb.ctrs.length := by omega
      obtain ⟨x5, o, hx⟩ := HJ.out
      have hd := HH.out.d.below o.b
      obtain ⟨-, -, -, -, c13, -, -⟩ := hd.cells
      rw [HSV.out.1] at c13
      obtain ⟨gv, cv, ev, q0, -⟩ := hd.vl2 hlt
      have ea : aV = some ⟨gv, 0, none⟩ := by rw [HSV.out.1] at ev; cases ev; rfl
      obtain ⟨g5, c5, e5⟩ := own_some o.r5 (by omega)
      have ea5 : a5 = some ⟨g5, 0, none⟩ := by cases e5; rfl
      subst ea5
      have q5 : wr.cell? ⟨g5, k, none⟩ = some (U (s.v k)) := by rw [o.r5.cellAt _ (by omega)]; exact hx k (Nat.le_refl _) hlt
      have f5 := o.r5.frozenAt k
      have H6 : Hid (∀ n, ∃ x5, Ow3 w ((wr.drewN n).setCell ⟨g5, k, none⟩ (.int .u32 99)) (.slice (some ⟨g5, 0, none⟩) tb.ctrs.length k5) (.slice a6 tb.als.length k6) (.slice a7 (reqL tb s.q tb.isrs.length).length k7) tb.ctrs.length tb.als.length (reqL tb s.q tb.isrs.length).length x5 (flat (lkF s) tb.als.length) (inL (reqL tb s.q tb.isrs.length)) ∧ ∀ j, k + 1 ≤ j → j < tb.ctrs.length → x5[j]? = some (U (s.v j))) := fun n => ⟨_, (o.below (Cl.below_drewN n (Below.refl _ wr))).set5, fun j h1 h2 => by rw [List.getElem?_set_ne (by omega)]; exact hx j (by omega) h2⟩
      have q5n : ∀ n, (wr.drewN n).cell? ⟨g5, k, none⟩ = some (U (s.v k)) := fun n => q5
      have f5n : ∀ n, (wr.drewN n).frozen? ⟨g5, k, none⟩ = false := fun n => f5
      clear HJ o hx hd ev e5
      subst ea
      go_upto_region 10 with fail
      go_quiet (fail)
      have H7 := H6.out nq
      have q6 := q5n nq
      have f6 := f5n nq
      have H8 : Hid _ := H7
      clear H7 H6 q5n f5n c13 q0 q5 f5
      generalize wr.drewN nq = w6 at *
      go_wp2
      go_roundw
      case rel => exact ⟨k + 1, by omega, by go_num, H8.out⟩
      case measure => simp [intOf]; omega
    · obtain rfl : k = tb.ctrs.length := by omega
      have hge : ¬ ((tb.ctrs.length : Int) < tb.ctrs.length) := by omega
      obtain ⟨x5, o, -⟩ := HJ.out
      clear HJ
      have HI : Hid (∃ x6, Ow3 w wr (.slice a5 tb.ctrs.length k5) (.slice a6 tb.als.length k6) (.slice a7 (reqL tb s.q tb.isrs.length).length k7) tb.ctrs.length tb.als.length (reqL tb s.q tb.isrs.length).length x5 x6 (inL (reqL tb s.q tb.isrs.length)) ∧ ∀ j, 0 ≤ j → j < tb.als.length → ∀ t, t < 3 → x6[j * 3 + t]? = (lkF s j)[t]?) := ⟨_, o, fun j _ hj t ht => flat_at (f := lkF s) (fun _ => rfl) (k := 3) (n := tb.als.length) hj ht⟩
      clear o
      go_wp2
      clear hge
      go_loopw [10] (fun v10 wr => ∃ k : Nat, k ≤ tb.als.length ∧ v10 = I k ∧ Hid (∃ x6, Ow3 w wr (.slice a5 tb.ctrs.length k5) (.slice a6 tb.als.length k6) (.slice a7 (reqL tb s.q tb.isrs.length).length k7) tb.ctrs.length tb.als.length (reqL tb s.q tb.isrs.length).length x5 x6 (inL (reqL tb s.q tb.isrs.length)) ∧ ∀ j, k ≤ j → j < tb.als.length → ∀ t, t < 3 → x6[j * 3 + t]? = (lkF s j)[t]?)) (fun v10 _ => tb.als.length - (intOf v10).toNat)
      case atStart => exact ⟨0, by omega, rfl, HI.out⟩
      case round =>
        clear HI
        obtain ⟨k, hk, rfl, HJ⟩ := hrel
        by_cases hlt : k < tb.als.length
        · have hltI : (k : Int) < tb.als.length := by omega
          obtain ⟨x6, o, hx⟩ := HJ.out
          have hd := HH.out.d.below o.b
          obtain ⟨-, -, -, -, -, c14, -⟩ := hd.cells
          rw [HSV.out.2] at c14
          obtain ⟨gv, cv, ev, q0, q1, q2⟩ := hd.al hlt
          have ea : aA = some ⟨gv, 0, none⟩ := by rw [HSV.out.2] at ev; cases ev; rfl
          obtain ⟨g6, c6, e6⟩ := own_some o.r6 (by omega)
          have ea6 : a6 = some ⟨g6, 0, none⟩ := by cases e6; rfl
          subst ea6
          have r0 := o.r6.cellAt (k * 3) (by omega)
          have r1 := o.r6.cellAt (k * 3 + 1) (by omega)
          have r2 := o.r6.cellAt (k * 3 + 2) (by omega)
          rw [show x6[k * 3]? = _ from hx k (Nat.le_refl _) hlt 0 (by omega)] at r0
          rw [hx k (Nat.le_refl _) hlt 1 (by omega)] at r1
          rw [hx k (Nat.le_refl _) hlt 2 (by omega)] at r2
          replace r0 : wr.cell? ⟨g6, k * 3, none⟩ = some (.bool (decide ((s.a k).1 ≠ 0))) := r0
          replace r1 : wr.cell? ⟨g6, k * 3 + 1, none⟩ = some (U (s.a k).1) := r1
          replace r2 : wr.cell? ⟨g6, k * 3 + 2, none⟩ = some (U (s.a k).2) := r2
          have hE := fun w => neq_look w (decide ((s.a k).1 ≠ 0)) (s.a k).1 (s.a k).2
          have H6 : Hid (∀ n, ∃ x6, Ow3 w ((((wr.drewN n).setCell ⟨g6, k * 3, none⟩ (.bool false)).setCell ⟨g6, k * 3 + 1, none⟩ (.int .u32 99)).setCell ⟨g6, k * 3 + 2, none⟩ (.int .u32 0)) (.slice a5 tb.ctrs.length k5) (.slice (some ⟨g6, 0, none⟩) tb.als.length k6) (.slice a7 (reqL tb s.q tb.isrs.length).length k7) tb.ctrs.length tb.als.length (reqL tb s.q tb.isrs.length).length x5 x6 (inL (reqL tb s.q tb.isrs.length)) ∧ ∀ j, k + 1 ≤ j → j < tb.als.length → ∀ t, t < 3 → x6[j * 3 + t]? = (lkF s j)[t]?) := fun n => ⟨_, (((o.below (Cl.below_drewN n (Below.refl _ wr))).set6).set6).set6, fun j h1 h2 t ht => by rw [List.getElem?_set_ne (by omega), List.getElem?_set_ne (by omega), List.getElem?_set_ne (by omega)]; exact hx j (by omega) h2 t ht⟩
          have HP : Hid (∀ n, (∃ y, (wr.drewN n).cell? ⟨g6, k * 3, none⟩ = some y) ∧ (∃ y, ((wr.drewN n).setCell ⟨g6, k * 3, none⟩ (.bool false)).cell? ⟨g6, k * 3 + 1, none⟩ = some y) ∧ (∃ y, (((wr.drewN n).setCell ⟨g6, k * 3, none⟩ (.bool false)).setCell ⟨g6, k * 3 + 1, none⟩ (.int .u32 99)).cell? ⟨g6, k * 3 + 2, none⟩ = some y) ∧ (wr.drewN n).frozen? ⟨g6, k * 3, none⟩ = false ∧ ((wr.drewN n).setCell ⟨g6, k * 3, none⟩ (.bool false)).frozen? ⟨g6, k * 3 + 1, none⟩ = false ∧ (((wr.drewN n).setCell ⟨g6, k * 3, none⟩ (.bool false)).setCell ⟨g6, k * 3 + 1, none⟩ (.int .u32 99)).frozen? ⟨g6, k * 3 + 2, none⟩ = false) := fun n => by
            obtain ⟨p0, p1, p2, f0, f1, f2, -⟩ := put3 ((o.below (Cl.below_drewN n (Below.refl _ wr))).r6) hlt (.bool false) (.int .u32 99) (.int .u32 0)
            exact ⟨p0, p1, p2, f0, f1, f2⟩
          clear HJ o hx hd ev e6
          subst ea
          generalize decide ((s.a k).1 ≠ 0) = bb at *
          go_upto_region 16 with fail
          go_quiet (fail)
          have H8 : Hid _ := H6.out nq
          obtain ⟨⟨y0, p0⟩, ⟨y1, p1⟩, ⟨y2, p2⟩, f0, f1, f2⟩ := HP.out nq
          clear H6 HP c14 q0 q1 q2 r0 r1 r2 hE
          generalize wr.drewN nq = w6 at *
          go_wp2
          go_roundw
          case rel => exact ⟨k + 1, by omega, by go_num, H8.out⟩
          case measure => simp [intOf]; omega
        · obtain rfl : k = tb.als.length := by omega
          have hge : ¬ ((tb.als.length : Int) < tb.als.length) := by omega
          obtain ⟨x6, o, -⟩ := HJ.out
          clear HJ
          generalize hrn : (reqL tb s.q tb.isrs.length).length = nr at *
          have HRN : Hid ((reqL tb s.q tb.isrs.length).length = nr) := hrn
          clear hrn
          have HI : Hid (∃ x7, Ow3 w wr (.slice a5 tb.ctrs.length k5) (.slice a6 tb.als.length k6) (.slice a7 nr k7) tb.ctrs.length tb.als.length nr x5 x6 x7) := ⟨_, o⟩
          clear o
          go_wp2
          clear hge
          go_loopw [11] (fun v11 wr => ∃ k : Nat, k ≤ nr ∧ v11 = I k ∧ Hid (∃ x7, Ow3 w wr (.slice a5 tb.ctrs.length k5) (.slice a6 tb.als.length k6) (.slice a7 nr k7) tb.ctrs.length tb.als.length nr x5 x6 x7)) (fun v11 _ => nr - (intOf v11).toNat)
          case atStart => exact ⟨0, by omega, rfl, HI.out⟩
          case round =>
            clear HI
            obtain ⟨k, hk, rfl, HJ⟩ := hrel
            by_cases hlt : k < nr
            · have hltI : (k : Int) < nr := by omega
              obtain ⟨x7, o⟩ := HJ.out
              obtain ⟨g7, c7, e7⟩ := own_some o.r7 (by omega)
              have ea7 : a7 = some ⟨g7, 0, none⟩ := by cases e7; rfl
              subst ea7
              have hl7 := o.r7.1
              have q7 : wr.cell? ⟨g7, k, none⟩ = some (x7[k]'(by omega)) := by rw [o.r7.cellAt _ (by omega)]; exact List.getElem?_eq_getElem _
              have f7 := o.r7.frozenAt k
              have H8 : Hid (∃ x7, Ow3 w (wr.setCell ⟨g7, k, none⟩ (.int .i64 (-9))) (.slice a5 tb.ctrs.length k5) (.slice a6 tb.als.length k6) (.slice (some ⟨g7, 0, none⟩) nr k7) tb.ctrs.length tb.als.length nr x5 x6 x7) := ⟨_, o.set7⟩
              generalize x7[k]'(by omega) = y7 at *
              clear HJ o e7 hl7
              go_wp2
              go_roundw
              case rel => exact ⟨k + 1, by omega, by go_num, H8.out⟩
              case measure => simp [intOf]; omega
            · obtain rfl : k = nr := by omega
              have hge : ¬ ((k : Int) < k) := by omega
              obtain ⟨x7, o⟩ := HJ.out
              have HB : Hid (Below w.heap.size w wr) := o.b
              have e9 := HRN.out
              clear HJ o HRN
              subst e9
              have hR := HR.out wr HB.out
              go_wp2_with (first
                | (go_at_call 42; refine hR.mono ?_; clear hR; rintro e w3 ⟨z7, rfl, o3, b3⟩; have b3' := HB.out.trans (b3.mono HB.out.size); have hD := HD.out w3 b3'; have H3 : Hid (w3.ownsRow wr.heap.size 3 1 z7 (reqL tb s.q tb.isrs.length).length (inL (reqL tb s.q tb.isrs.length)) ∧ Below w.heap.size w w3) := ⟨o3, b3'⟩; clear o3 b3 b3')
                | (go_at_call 57; refine hD.mono ?_; clear hD; rintro e w4 ⟨z8, rfl, o4, b4⟩; have b4' := H3.out.2.trans (b4.mono H3.out.2.size); have hI := ints_same w4 _ _ _ _ _ (by omega) (own_below H3.out.1 b4) o4; have H4 : Hid (Below w.heap.size w w4) := b4'; clear o4 b4 b4')
                | (go_at_call 46; refine hI.mono ?_; clear hI; rintro e w5 ⟨rfl, b5⟩; have H5 : Hid (Below w.heap.size w w5) := H4.out.trans (b5.mono H4.out.size); clear b5))
              go_ret
              exact ⟨rfl, H5.out⟩
end
end Go.Proofs.YthhckhifaolmkaaGreat

