import Derived.Test.YtpbnpmeigdjfdaaGreatDoorBbi
namespace Go.Proofs.YtpbnpmeigdjfdaaGreatDoor
open Go.RowKit Go.Sort
set_option linter.unusedSimpArgs false
set_option linter.unusedVariables false
set_option maxHeartbeats 16000000
set_option maxRecDepth 100000
theorem natAt_mem {l : List Nat} {i : Nat} (h : i < l.length) : natAt l i ∈ l := by
 rw [natAt_at (List.getElem?_eq_getElem h)]
 exact List.getElem_mem h
theorem rv_ok {c : Cf} {f : Fg} (hf : Fits c f) (t : Nat) : RvOK (rvL c f t) := by
 obtain ⟨k1, k2, k3, k4⟩ := tim_ok hf.t
 obtain ⟨l1, l2, l3, l4⟩ := tim_len hf.t
 intro x hx
 unfold rvL at hx
 rcases List.mem_append.1 hx with hx | hx
 ·unfold rvT at hx
  obtain ⟨i, hi, hx⟩ := List.mem_flatMap.1 hx
  have hi := List.mem_range.1 hi
  split at hx
  ·obtain rfl := List.mem_singleton.1 hx
   have a := k1 _ (natAt_mem (l := f.w) (i := i) (by omega))
   have b := k2 _ (natAt_mem (l := f.p) (i := i) (by omega))
   exact ⟨a.2, b.1, b.2⟩
  ·cases hx
 ·unfold rvI at hx
  obtain ⟨i, hi, rfl⟩ := List.mem_map.1 hx
  have hi := List.mem_range.1 hi
  have a := k3 _ (natAt_mem (l := f.i) (i := i) (by omega))
  have b := k4 _ (natAt_mem (l := f.e) (i := i) (by omega))
  exact ⟨a, b.1, b.2⟩
structure Rp where
 b : Nat
 r : Nat
 m : Bool
def rpC (x : Rp) : Array Value := #[U x.b, U x.r, .bool x.m]
def rplF (c : Cf) (f : Fg) (t lim : Nat) : Rp := ⟨blk c f t, (wst (natAt f.w t + blk c f t) (rvL c f t) lim).1, (wst (natAt f.w t + blk c f t) (rvL c f t) lim).2⟩
theorem set3B {w : World} {b : Nat} {t : TypeId} (o0 o1 o2 v0 v1 v2 : Value) (k : w.heap[b]? = some (.cells #[o0, o1, o2] t (0, 0))) : (((w.setCell ⟨b, 0, none⟩ v0).setCell ⟨b, 1, none⟩ v1).setCell ⟨b, 2, none⟩ v2).heap[b]? = some (.cells #[v0, v1, v2] t (0, 0)) := by
 have h0 := heap_setCell_same w b 0 _ _ v0 k
 have h1 := heap_setCell_same _ b 1 _ _ v1 h0
 exact heap_setCell_same _ b 2 _ _ v2 h1
theorem grown3B (w : World) (b : Nat) (v0 v1 v2 : Value) : w.grownBy (((w.setCell ⟨b, 0, none⟩ v0).setCell ⟨b, 1, none⟩ v1).setCell ⟨b, 2, none⟩ v2) (some b) := Ce.grown_same (Ce.grown_same (grown_set w b 0 v0) (grown_set _ b 1 v1)) (grown_set _ b 2 v2)
theorem res_rp {fn : Func} {n : Nat} (hf : fn.results = #[.cell n 40]) (tmps : Array Value) (b : Nat) (w : World) (v0 v1 v2 : Value)
  (h2 : tmps[n]? = some (.pointer (some ⟨b, 0, none⟩))) (hk : w.heap[b]? = some (.cells #[v0, v1, v2] 40 (0, 0))) :
  (results fn tmps).run Tryz.prog w = .ok (.agg #[v0, v1, v2]) w := by
 have hl := run_loadVar_row (P := Tryz.prog) w b 40 40 #[v0, v1, v2] (0, 0) _ hk Tryz.underlying40 rfl (by kernel_rfl)
 simp [results, hf, h2, asAddr, hl]
theorem reply_any (w : World) (y : Sy) (h : SyAt w y) (hf : Fits y.c y.f) (t : Nat) (ht : t < y.c.tasks.length) (lim : Nat) (hl : lim ≤ 1000000) :
  Calls Tryz.prog 20 #[.agg (syC y), I t, U lim] w fun e w' => e = .returned (.agg (rpC (rplF y.c y.f t lim))) ∧ Below w.heap.size w w' := by
 have hb2 : Below w.heap.size w ((w.alloc (.cells (syC y) 68)).alloc (.cells #[.int .u64 0, .int .u64 0, .bool false] 40)) := ((Below.refl w.heap.size w).alloc (Nat.le_refl _) _).alloc (by simp) _
 have hV0 := heap_two0 w (.cells (syC y) 68) (.cells #[.int .u64 0, .int .u64 0, .bool false] 40)
 have hV1 := heap_two w (.cells (syC y) 68) (.cells #[.int .u64 0, .int .u64 0, .bool false] 40)
 have hi28 := sy_hi y
 obtain ⟨wk, hwk⟩ : ∃ wk, y.f.w[t]? = some wk := ⟨_, List.getElem?_eq_getElem (by rw [(tim_len hf.t).1]; exact ht)⟩
 have hwx := (tim_ok hf.t).1 _ (List.mem_of_getElem? hwk)
 have hbx := blk_le hf t
 have htw : (t : Int) < y.vf.w.n := by have := h.f.k.n; have := (tim_len hf.t).1; omega
 obtain ⟨g2, o2, e2, hg2, d2⟩ := nat_at h.f.k hwk
 have KB : Hid (∀ W, Below w.heap.size w W → Calls Tryz.prog 23 #[.agg (syC y), I t] W fun e w' => e = .returned (U (blk y.c y.f t)) ∧ Below W.heap.size W w') := fun W hW => blocked_any W y (h.below hW) hf t ht
 have KR : Hid (∀ W, Below w.heap.size w W → Calls Tryz.prog 34 #[.agg (syC y), I t] W fun e w' => ∃ s : Sl, e = .returned (.slice s.a s.n s.c) ∧ RowsAt w' 2 rvP s (rvL y.c y.f t) ∧ Below W.heap.size W w') := fun W hW => rivals_any W y (h.below hW) hf t ht
 have KW : Hid (∀ W s, RowsAt W 2 rvP s (rvL y.c y.f t) → Calls Tryz.prog 33 #[.int .u64 (IntKind.u64.wrap ((wk : Int) + ((blk y.c y.f t : Nat) : Int))), .slice s.a s.n s.c, U lim] W fun e w' => e = .returned (.tuple #[U (rplF y.c y.f t lim).r, .bool (rplF y.c y.f t lim).m]) ∧ Below W.heap.size W w') := fun W s hs => by
  have := worst_any W (wk + blk y.c y.f t) s _ hs (rv_ok hf t) lim hl
  unfold rplF
  rw [natAt_at hwk, show IntKind.u64.wrap ((wk : Int) + ((blk y.c y.f t : Nat) : Int)) = ((wk + blk y.c y.f t : Nat) : Int) by rw [IntKind.wrap_u64]; omega]
  exact this
 have HRP : Hid ((rplF y.c y.f t lim).b = blk y.c y.f t) := rfl
 generalize rplF y.c y.f t lim = rp at *
 generalize blk y.c y.f t = bk at *
 have HX : Hid (∀ W, Below ((w.alloc (.cells (syC y) 68)).alloc (.cells #[.int .u64 0, .int .u64 0, .bool false] 40)).heap.size ((w.alloc (.cells (syC y) 68)).alloc (.cells #[.int .u64 0, .int .u64 0, .bool false] 40)) W → (W.heap[w.heap.size]? = some (.cells (syC y) 68 (0, 0)) ∧ W.cell? ⟨w.heap.size, 18, none⟩ = some (.slice (some ⟨g2, o2, none⟩) y.vf.w.n y.vf.w.c) ∧ W.cell? ⟨g2, o2 + t, none⟩ = some (U wk)) ∧ W.heap[w.heap.size + 1]? = some (.cells #[.int .u64 0, .int .u64 0, .bool false] 40 (0, 0)) ∧ Below w.heap.size w W) := fun W hW => by
  have q := (hW.block _ (heap_lt hV0)).trans hV0
  have hbw := hb2.trans (hW.mono hb2.size)
  exact ⟨⟨q, by rw [cell_at3 q 18, ← e2]; rfl, (cell_below hbw _ _ hg2).trans d2⟩, (hW.block _ (heap_lt hV1)).trans hV1, hbw⟩
 have hct := h.f.k.c
 have hcm := h.f.k.m
 unfold maxLen at hcm
 generalize syC y = C at *
 have k1 := KB.out _ hb2
 clear h hf hwk ht hb2 hV1 e2 hg2 d2 KB
 go_enter Tryz.func20, Tryz.ntmps20
 go_upto_region 1 with fail
 generalize (w.alloc (.cells C 68)).alloc (.cells #[.int .u64 0, .int .u64 0, .bool false] 40) = W2 at *
 go_upto_region 2 with (first | (refine wpList_load_row rfl 68 _ rfl w.heap.size rfl 68 _ (0, 0) _ hV0 Tryz.underlying68 rfl hi28 ?_) | (go_at_call 23; refine k1.mono ?_; clear k1; rintro e w1 ⟨rfl, hb1⟩))
 have HB1 : Hid (Below W2.heap.size W2 w1) := hb1
 obtain ⟨s0, _, hbw⟩ := HX.out _ hb1
 clear hb1 hV0
 have hS : Hid (∀ W, Below w1.heap.size w1 W → (W.heap[w.heap.size]? = some (.cells C 68 (0, 0)) ∧ W.cell? ⟨w.heap.size, 18, none⟩ = some (.slice (some ⟨g2, o2, none⟩) y.vf.w.n y.vf.w.c) ∧ W.cell? ⟨g2, o2 + t, none⟩ = some (U wk))) := fun W hW => (HX.out _ (HB1.out.trans (hW.mono HB1.out.size))).1
 have hbwd : Hid (Below w.heap.size w w1.drew) := hbw.drew
 refine wp_region_held_drew (S := fun W => W.heap[w.heap.size]? = some (.cells C 68 (0, 0)) ∧ W.cell? ⟨w.heap.size, 18, none⟩ = some (.slice (some ⟨g2, o2, none⟩) y.vf.w.n y.vf.w.c) ∧ W.cell? ⟨g2, o2 + t, none⟩ = some (U wk)) (by kernel_rfl) (hS.out w1.drew (Below.refl _ _).drew) (fun hHeld => ?_)
 clear s0 hbw
 change wpAnyH _ _ _ _ _ _ #[false, false, false, false, false, false, false, false, false, false, false, false, false, false, false, false, false, false] _ _
 try simp only [Act.put, q7a, q7b, q7c, q7d, q7e, q7f]
 refine wpAnyH_take (i := 0) (v := ?_) rfl (by kernel_rfl) (by kernel_rfl) (by kernel_rfl) (fun _ _ _ h => h) (Or.inl ⟨by rfl, ?_⟩) hHeld ?_
 rotate_left
 ·intro w' hSw
  obtain ⟨q0, q1, q2⟩ := hSw
  go_simp
  try with_reducible rfl
 try simp only [Act.put, q7a, q7b, q7c, q7d, q7e, q7f]
 refine wpAnyH_take (i := 1) (v := ?_) rfl (by kernel_rfl) (by kernel_rfl) (by kernel_rfl) (fun _ _ _ h => h) (Or.inl ⟨by rfl, ?_⟩) hHeld ?_
 rotate_left
 ·intro w' hSw
  obtain ⟨q0, q1, q2⟩ := hSw
  go_simp
  try with_reducible rfl
 try simp only [Act.put, q7a, q7b, q7c, q7d, q7e, q7f]
 refine wpAnyH_take (i := 2) (v := ?_) rfl (by kernel_rfl) (by kernel_rfl) (by kernel_rfl) (fun _ _ _ h => h) (Or.inl ⟨by rfl, ?_⟩) hHeld ?_
 rotate_left
 ·intro w' hSw
  obtain ⟨q0, q1, q2⟩ := hSw
  go_simp
  try with_reducible rfl
 try simp only [Act.put, q7a, q7b, q7c, q7d, q7e, q7f]
 refine wpAnyH_take (i := 3) (v := ?_) rfl (by kernel_rfl) (by kernel_rfl) (by kernel_rfl) (fun _ _ _ h => h) (Or.inl ⟨by rfl, ?_⟩) hHeld ?_
 rotate_left
 ·intro w' hSw
  obtain ⟨q0, q1, q2⟩ := hSw
  go_simp
  try with_reducible rfl
 try simp only [Act.put, q7a, q7b, q7c, q7d, q7e, q7f]
 refine wpAnyH_take (i := 4) (v := ?_) rfl (by kernel_rfl) (by kernel_rfl) (by kernel_rfl) (fun _ _ _ h => h) (Or.inl ⟨by rfl, ?_⟩) hHeld ?_
 rotate_left
 ·intro w' hSw
  obtain ⟨q0, q1, q2⟩ := hSw
  go_simp
  try with_reducible rfl
 try simp only [Act.put, q7a, q7b, q7c, q7d, q7e, q7f]
 refine wpAnyH_take (i := 5) (v := ?_) rfl (by kernel_rfl) (by kernel_rfl) (by kernel_rfl) (fun _ _ _ h => h) (Or.inl ⟨by rfl, ?_⟩) hHeld ?_
 rotate_left
 ·intro w' hSw
  obtain ⟨q0, q1, q2⟩ := hSw
  go_simp
  try with_reducible rfl
 try simp only [Act.put, q7a, q7b, q7c, q7d, q7e, q7f]
 refine wpAnyH_take (i := 6) (v := ?_) rfl (by kernel_rfl) (by kernel_rfl) (by kernel_rfl) (fun _ _ _ h => h) (Or.inl ⟨by rfl, ?_⟩) hHeld ?_
 rotate_left
 ·intro w' hSw
  obtain ⟨q0, q1, q2⟩ := hSw
  go_simp
  try with_reducible rfl
 try simp only [Act.put, q7a, q7b, q7c, q7d, q7e, q7f]
 refine wpAnyH_take (i := 7) (v := ?_) rfl (by kernel_rfl) (by kernel_rfl) (by kernel_rfl) (fun _ _ _ h => h) (Or.inl ⟨by rfl, ?_⟩) hHeld ?_
 rotate_left
 ·intro w' hSw
  obtain ⟨q0, q1, q2⟩ := hSw
  go_simp
  try with_reducible rfl
 try simp only [Act.put, q7a, q7b, q7c, q7d, q7e, q7f]
 refine wpAnyH_take (i := 8) (v := .agg C) rfl (by kernel_rfl) (by kernel_rfl) (by kernel_rfl) (fun _ _ _ h => h) (Or.inl ⟨by rfl, ?_⟩) hHeld ?_
 ·intro w' hSw
  have hld := run_loadVar_row (P := Tryz.prog) w' w.heap.size 68 68 C (0, 0) _ hSw.1 Tryz.underlying68 rfl hi28
  simp [execOp, Act.eval, Instr.loadAt, Instr.sureAddr, hld]
 try simp only [Act.put, q7a, q7b, q7c, q7d, q7e, q7f]
 refine wpAnyH_take (i := 9) (v := ?_) rfl (by kernel_rfl) (by kernel_rfl) (by kernel_rfl) (fun _ _ _ h => h) (Or.inl ⟨by rfl, ?_⟩) hHeld ?_
 rotate_left
 ·intro w' hSw
  go_simp
  try with_reducible rfl
 try simp only [Act.put, q7a, q7b, q7c, q7d, q7e, q7f]
 refine wpAnyH_take (i := 11) (v := ?_) rfl (by kernel_rfl) (by kernel_rfl) (by kernel_rfl) (fun _ _ _ h => h) (Or.inl ⟨by rfl, ?_⟩) hHeld ?_
 rotate_left
 ·intro w' hSw
  go_simp
  try with_reducible rfl
 try simp only [Act.put, q7a, q7b, q7c, q7d, q7e, q7f]
 refine wpAnyH_ready (rs := [10]) (by kernel_rfl) (by simp) ?_
 refine AllReadyH.cons rfl (fun K hK => ?_) AllReadyH.nil
 go_simp
 (go_at_call 34; refine (KR.out _ hbwd.out).mono ?_; rintro e w3 ⟨s, rfl, hrs, hb3⟩)
 have HB3 : Hid (Below w1.heap.size w1 w3) := (Below.refl _ _).drew.trans hb3
 refine hK.out _ _ (hS.out w3 HB3.out) (fun hHeld => ?_)
 clear hK K hb3
 try simp only [Act.put, q7a, q7b, q7c, q7d, q7e, q7f]
 refine wpAnyH_ready (rs := [12]) (by kernel_rfl) (by simp) ?_
 refine AllReadyH.cons rfl (fun K hK => ?_) AllReadyH.nil
 go_simp
 (go_at_call 33; refine (KW.out _ _ hrs).mono ?_; rintro e w4 ⟨rfl, hb4⟩)
 have HB4 : Hid (Below w1.heap.size w1 w4) := HB3.out.trans (hb4.mono HB3.out.size)
 refine hK.out _ _ (hS.out w4 HB4.out) (fun hHeld => ?_)
 clear hK K hb4
 try simp only [Act.put, q7a, q7b, q7c, q7d, q7e, q7f]
 refine wpAnyH_take (i := 13) (v := ?_) rfl (by kernel_rfl) (by kernel_rfl) (by kernel_rfl) (fun _ _ _ h => h) (Or.inl ⟨by rfl, ?_⟩) hHeld ?_
 rotate_left
 ·intro w' hSw
  go_simp
  try with_reducible rfl
 try simp only [Act.put, q7a, q7b, q7c, q7d, q7e, q7f]
 refine wpAnyH_take (i := 14) (v := ?_) rfl (by kernel_rfl) (by kernel_rfl) (by kernel_rfl) (fun _ _ _ h => h) (Or.inl ⟨by rfl, ?_⟩) hHeld ?_
 rotate_left
 ·intro w' hSw
  go_simp
  try with_reducible rfl
 try simp only [Act.put, q7a, q7b, q7c, q7d, q7e, q7f]
 refine wpAnyH_take (i := 15) (v := ?_) rfl (by kernel_rfl) (by kernel_rfl) (by kernel_rfl) (fun _ _ _ h => h) (Or.inl ⟨by rfl, ?_⟩) hHeld ?_
 rotate_left
 ·intro w' hSw
  go_simp
  try with_reducible rfl
 try simp only [Act.put, q7a, q7b, q7c, q7d, q7e, q7f]
 refine wpAnyH_take (i := 16) (v := ?_) rfl (by kernel_rfl) (by kernel_rfl) (by kernel_rfl) (fun _ _ _ h => h) (Or.inl ⟨by rfl, ?_⟩) hHeld ?_
 rotate_left
 ·intro w' hSw
  go_simp
  try with_reducible rfl
 try simp only [Act.put, q7a, q7b, q7c, q7d, q7e, q7f]
 refine wpAnyH_take (i := 17) (v := ?_) rfl (by kernel_rfl) (by kernel_rfl) (by kernel_rfl) (fun _ _ _ h => h) (Or.inl ⟨by rfl, ?_⟩) hHeld ?_
 rotate_left
 ·intro w' hSw
  go_simp
  try with_reducible rfl
 try simp only [Act.put, q7a, q7b, q7c, q7d, q7e, q7f]
 refine wpAnyH_done (by kernel_rfl) ?_ _
 obtain ⟨_, hV4, hbw4⟩ := HX.out _ (HB1.out.trans (HB4.out.mono HB1.out.size))
 obtain ⟨c0, c1, c2⟩ : w4.cell? ⟨w.heap.size + 1, 0, none⟩ = some (.int .u64 0) ∧ w4.cell? ⟨w.heap.size + 1, 1, none⟩ = some (.int .u64 0) ∧ w4.cell? ⟨w.heap.size + 1, 2, none⟩ = some (.bool false) := ⟨cell_at3 hV4 0, cell_at3 hV4 1, cell_at3 hV4 2⟩
 have fz := fun i => frozen_of_row w4 (w.heap.size + 1) i _ _ hV4
 clear hrs hHeld hbwd HB3 HB4 HB1 hS HX KR KW
 go_wp2
 refine bodyPost_ret (res_rp Tryz.results20 _ (w.heap.size + 1) _ _ _ _ rfl (set3B _ _ _ _ _ _ hV4)) rfl ?_
 exact ⟨by unfold rpC; rw [HRP.out], hbw4.grown (grown3B w4 _ _ _ _) hbw4.size (fun k e => by cases e; omega)⟩
end Go.Proofs.YtpbnpmeigdjfdaaGreatDoor
