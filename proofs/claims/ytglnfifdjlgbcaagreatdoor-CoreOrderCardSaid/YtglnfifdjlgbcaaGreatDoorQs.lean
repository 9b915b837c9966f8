import Derived.Test.YtglnfifdjlgbcaaGreatDoorXQr
import Derived.Test.YtglnfifdjlgbcaaGreatDoorXKop
import Derived.Deep.RegionHeldLaw
namespace Go.Proofs.YtglnfifdjlgbcaaGreatDoor
open Go.RowKit Go.Maps Go.Shelf Go.Sort
open Go.Proofs.YtglnfifdjlgbcaaGreatDoor.St (Fx Fz iQ iP iV)
set_option linter.unusedVariables false
set_option linter.unusedSimpArgs false

/-! ### What Check says -/
theorem ownG_in {tb : Tb} {prio : Int} : ∀ {a : Int} {l : List Int}, ownG tb prio a l = true → l.Nodup ∧ (∀ r ∈ l, a < r) ∧ ∀ r ∈ l, 0 ≤ r ∧ ∃ x, tb.ress[r.toNat]? = some x ∧ x.inner = false ∧ prio ≤ x.ceil
  | a, [], _ => ⟨List.nodup_nil, fun _ h => (by cases h), fun _ h => (by cases h)⟩
  | a, r :: l, h => by
    rw [ownG] at h
    simp only [Bool.and_eq_true, decide_eq_true_eq] at h
    obtain ⟨⟨⟨h1, h2⟩, h3⟩, h4⟩ := h
    obtain ⟨k1, k2, k3⟩ := ownG_in h4
    refine ⟨List.nodup_cons.2 ⟨fun hm => by have := k2 r hm; omega, k1⟩, fun z hz => ?_, fun z hz => ?_⟩
    · rcases List.mem_cons.1 hz with rfl | hz
      · exact h1
      · have := k2 z hz; omega
    · rcases List.mem_cons.1 hz with rfl | hz
      · unfold idB at h2
        simp at h2
        refine ⟨h2.1, ?_⟩
        unfold resOk at h3
        split at h3
        · rename_i x hx
          simp at h3
          exact ⟨x, hx, h3.1, h3.2⟩
        · cases h3
      · exact k3 z hz
theorem isrsG_in {tb : Tb} : ∀ {pre l : List IsR}, isrsG tb pre l = true → ∀ x ∈ l, isB tb x = true
  | pre, [], _, x, hx => by cases hx
  | pre, y :: l, h, x, hx => by
    rw [isrsG] at h
    simp only [Bool.and_eq_true] at h
    rcases List.mem_cons.1 hx with rfl | hx
    · exact h.1.1
    · exact isrsG_in h.2 x hx
theorem rings_pos {ts : List TkR} : ∀ {a : Int} {l : List RgR}, ringsW ts a l = true → ∀ r ∈ l, 0 ≤ r.prio
  | a, [], _, r, hr => by cases hr
  | a, r0 :: l, h, r, hr => by
    rw [ringsW] at h
    simp only [Bool.and_eq_true, inI, decide_eq_true_eq] at h
    rcases List.mem_cons.1 hr with rfl | hr
    · exact h.1.1.1.1
    · exact rings_pos h.2 r hr
theorem okt_of {tb : Tb} (h : chkP tb = true) : OKt tb := by
  unfold chkP at h
  simp only [Bool.and_eq_true] at h
  obtain ⟨⟨⟨⟨⟨⟨⟨⟨h1, h2⟩, h3⟩, h4⟩, h5⟩, h6⟩, h7⟩, h8⟩, h9⟩ := h
  unfold countsB at h1
  simp only [Bool.and_eq_true, decide_eq_true_eq, inI] at h1
  have htk : ∀ x ∈ tb.tasks, tkB tb x = true := fun x hx => List.all_eq_true.1 h4 x hx
  have his := isrsG_in h7
  refine ⟨fun o b hob => ?_, h1.2.1, by omega, h1.2.2.2.2.1, fun x hx => ?_, fun x hx => ?_⟩
  · unfold obs at hob
    split at hob
    · cases hob
    · split at hob
      · rw [Option.map_eq_some_iff] at hob
        obtain ⟨x, hx, rfl⟩ := hob
        have := his x (List.mem_of_getElem? hx)
        unfold isB at this
        simp only [Bool.and_eq_true] at this
        obtain ⟨k1, k2, k3⟩ := ownG_in this.2
        exact ⟨k1, k3⟩
      · rw [Option.map_eq_some_iff] at hob
        obtain ⟨x, hx, rfl⟩ := hob
        have := htk x (List.mem_of_getElem? hx)
        unfold tkB restB at this
        simp only [Bool.and_eq_true] at this
        obtain ⟨k1, k2, k3⟩ := ownG_in this.2.1.2
        exact ⟨k1, k3⟩
  · have h := htk x hx
    unfold tkB restB at h
    simp only [Bool.and_eq_true] at h
    have hp : 0 ≤ x.prio := by
      obtain ⟨r, hr, e⟩ := prio_mem h.1.1.1 (eq_of_beq h.1.1.2)
      rw [← e]
      exact rings_pos h3 r hr
    have h2 := h.2.1.1
    rw [Bool.or_eq_true] at h2
    rcases h2 with h2 | h2
    · exact .inl (eq_of_beq h2)
    · unfold inI at h2
      simp at h2
      exact .inr (by omega)
  · have := his x hx
    unfold isB at this
    simp only [Bool.and_eq_true, inI, decide_eq_true_eq] at this
    omega
theorem own_len {tb : Tb} (h : OKt tb) {o : Own} {b : Ob} (hob : obs tb o = some b) : b.own.length ≤ 65 := by
  obtain ⟨h1, h2⟩ := h.own o b hob
  have := nodup_sub h1 (m := (List.range tb.ress.length).map (fun (k : Nat) => (k : Int))) (fun x hx => by
    obtain ⟨h0, z, hz, _⟩ := h2 x hx
    exact List.mem_map.2 ⟨x.toNat, List.mem_range.2 (List.getElem?_eq_some_iff.1 hz).1, by omega⟩)
  have := h.ress
  simp at *
  omega
theorem obs_task {tb : Tb} {i : Nat} {x : TkR} (hx : tb.tasks[i]? = some x) : obs tb ⟨false, (i : Int)⟩ = some ⟨x.prio, 0, x.inner, x.own⟩ := by
  unfold obs
  rw [if_neg (by simp), if_neg (by simp)]
  simp [hx]
theorem obs_isr {tb : Tb} {i : Nat} {x : IsR} (hx : tb.isrs[i]? = some x) : obs tb ⟨true, (i : Int)⟩ = some ⟨x.prio, x.cat, -1, x.own⟩ := by
  unfold obs
  rw [if_neg (by simp), if_pos rfl]
  simp [hx]
/-! ### New -/
def zeroL : Ls := ⟨[], fun _ => false, ⟨false, 0, 0⟩⟩
theorem ok_zero (tb : Tb) : OKl tb zeroL := ⟨List.nodup_nil, fun _ _ h => (by cases h), fun _ h => (by cases h), by simp [zeroL]⟩
set_option maxRecDepth 100000 in
set_option maxHeartbeats 4000000 in
theorem New_no (w : World) (tb : Tb) (v : Ts) (h : TbAt w tb v) (hw : WfT tb) (hc : chkP tb = false) : Calls Tryz.prog 29 #[.agg (tbC tb v)] w fun e w' => e = .returned (.tuple #[.pointer none, I 190]) ∧ Below w.heap.size w w' := by
  have hb0 := below_alloc w (.cells (tbC tb v) 30)
  have hV := heap_alloc_new w (.cells (tbC tb v) 30)
  obtain ⟨c0, c1, c2, c3, c4, c5, c6, c7, c8, c9, c10, c11, c12⟩ := var13 hV
  have hC := check_any tb v _ (h.below hb0) hw
  rw [hc] at hC
  have HB : Hid (∀ w', Below (w.alloc (.cells (tbC tb v) 30)).heap.size (w.alloc (.cells (tbC tb v) 30)) w' → Below w.heap.size w w') := fun w' hb => hb0.trans (hb.mono hb0.size)
  unfold tbC at *
  clear h hV hb0
  go_enter Tryz.func29, Tryz.ntmps29
  go_upto_region 1 with fail
  generalize w.alloc (.cells #[I tb.uses, I tb.modes, .slice v.t.a v.t.n v.t.c, .slice v.g.a v.g.n v.g.c, .slice v.r.a v.r.n v.r.c, .slice v.k.a v.k.n v.k.c, .slice v.a.a v.a.n v.a.c, .slice v.i.a v.i.n v.i.c, .slice v.s.a v.s.n v.s.c, I tb.depth, I tb.frames, I tb.errors, I tb.calls] 30) = w1 at *
  go_wp2_with (first | (go_at_call 27; refine hC.mono ?_; clear hC; rintro e w2 ⟨rfl, hb2⟩; simp only [Bool.false_eq_true, if_false]))
  go_ret2
  exact ⟨rfl, HB.out _ hb2⟩
theorem new_fin {w4 we : World} {tb : Tb} {rs : Sl} {m mh X0 L0 n B : Nat} (hG : Gd w4 X0 m n (obs tb)) (hn : n ≤ 1024) (hbe : Below w4.heap.size w4 we) (hr : RowsAt we 2 rsrP rs tb.ress) (hrz : tb.ress ≠ [] → ∃ g, rs.a = some ⟨g, 0, none⟩ ∧ L0 ≤ g ∧ g < X0 ∧ g ≠ mh) (hh : HdM we mh []) (hmh : mh < X0 ∨ w4.heap.size ≤ mh) (hL : L0 ≤ X0 ∧ L0 ≤ mh) (hB : we.heap[B]? = some (.cells #[.slice rs.a rs.n rs.c, .map (some m), .map (some mh), .bool false, I 0, I 0] 175)) (hB4 : w4.heap.size ≤ B) (ok : OKt tb) :
    ∃ Z y, Lk we tb Z y B zeroL ∧ (∀ b, y.M B b → L0 ≤ b) ∧ ∀ b, Z b → L0 ≤ b ∧ b < we.heap.size := by
  obtain ⟨p, sb, gb, sl, Z, hg, hZ⟩ := hG
  have hg' := hg.below hbe
  have hm4 := hg.mp.lt
  have hlo := hg.lo
  have hsz := hbe.size
  refine ⟨fun x => Z x ∨ (tb.ress ≠ [] ∧ rs.a = some ⟨x, 0, none⟩), ⟨rs, m, mh, n, p, sb, gb, sl⟩, ⟨ok_zero tb, ok, hB, hr, ?_, hg'.mp, hn, hh, ?_, hg'.pn, fun o b ho => ?_, hg'.inj, fun x hx => ?_⟩, fun x hx => ?_, fun x hx => ?_⟩
  · intro hne
    obtain ⟨g, e1, _⟩ := hrz hne
    exact ⟨g, 0, e1, .inr ⟨hne, e1⟩⟩
  · show m ≠ mh
    omega
  · obtain ⟨hw, q, hq, hBq, hz, _⟩ := hg'.ps o b ho
    refine ⟨hw, q, hq, hBq, fun hne => ?_⟩
    obtain ⟨g, off, e1, e2⟩ := hz hne
    exact ⟨g, off, e1, .inl e2⟩
  · have key : x ≠ B ∧ x ≠ m ∧ x ≠ mh ∧ ∀ o q, p o = some q → x ≠ q ∧ x ≠ sb o ∧ x ≠ gb o := by
      rcases hx with hx | ⟨hne, hx⟩
      · obtain ⟨c1, c2, c3⟩ := hg.z x hx
        have := hZ x hx
        exact ⟨by omega, c2, by omega, c3⟩
      · obtain ⟨g, e1, e2, e3, e4⟩ := hrz hne
        rw [e1] at hx
        cases hx
        refine ⟨by omega, by omega, e4, fun o q hq => ?_⟩
        obtain ⟨b, _, _, h1, h2, h3⟩ := hg.pq hq
        omega
    rintro (e | e | e | ⟨o, q, hq, e | e | e⟩)
    · exact key.1 e
    · exact key.2.1 e
    · exact key.2.2.1 e
    · exact (key.2.2.2 o q hq).1 e
    · exact (key.2.2.2 o q hq).2.1 e
    · exact (key.2.2.2 o q hq).2.2 e
  · rcases hx with e | e | e | ⟨o, q, hq, e⟩
    · omega
    · have e' : x = m := e
      omega
    · have e' : x = mh := e
      omega
    · obtain ⟨b, _, _, h1, h2, h3⟩ := hg.pq hq
      have e' : x = q ∨ x = sb o ∨ x = gb o := e
      omega
  · rcases hx with hx | ⟨hne, hx⟩
    · obtain ⟨c1, _⟩ := hg.z x hx
      have := hZ x hx
      omega
    · obtain ⟨g, e1, e2, e3, e4⟩ := hrz hne
      rw [e1] at hx
      cases hx
      omega
set_option maxRecDepth 100000 in
set_option maxHeartbeats 4000000 in
theorem New_ok (w : World) (tb : Tb) (v : Ts) (h : TbAt w tb v) (hw : WfT tb) (hc : chkP tb = true) : Calls Tryz.prog 29 #[.agg (tbC tb v)] w fun e w' => ∃ B Z y, e = .returned (.tuple #[lp B, I 0]) ∧ Lk w' tb Z y B zeroL ∧ Below w.heap.size w w' ∧ (∀ b, y.M B b → w.heap.size ≤ b) ∧ (∀ b, Z b → w.heap.size ≤ b ∧ b < w'.heap.size) := by
  have hb0 := below_alloc w (.cells (tbC tb v) 30)
  have hV := heap_alloc_new w (.cells (tbC tb v) 30)
  have hC := check_any tb v _ (h.below hb0) hw
  rw [hc] at hC
  have ok := okt_of hc
  have HB : Hid (∀ w', Below (w.alloc (.cells (tbC tb v) 30)).heap.size (w.alloc (.cells (tbC tb v) 30)) w' → Below w.heap.size w w' ∧ TbAt w' tb v ∧ w'.heap[w.heap.size]? = some (.cells (tbC tb v) 30)) := fun w' hb => ⟨hb0.trans (hb.mono hb0.size), (h.below hb0).below hb, (hb.block _ (heap_lt hV)).trans hV⟩
  obtain ⟨c0, c1, c2, c3, c4, c5, c6, c7, c8, c9, c10, c11, c12⟩ := var13 hV
  unfold tbC at *
  have HOK : Hid (OKt tb) := ok
  clear h hV hb0 ok hc hw
  go_enter Tryz.func29, Tryz.ntmps29
  go_upto_region 1 with fail
  generalize w.alloc (.cells #[I tb.uses, I tb.modes, .slice v.t.a v.t.n v.t.c, .slice v.g.a v.g.n v.g.c, .slice v.r.a v.r.n v.r.c, .slice v.k.a v.k.n v.k.c, .slice v.a.a v.a.n v.a.c, .slice v.i.a v.i.n v.i.c, .slice v.s.a v.s.n v.s.c, I tb.depth, I tb.frames, I tb.errors, I tb.calls] 30) = w1 at *
  generalize hX : w.heap.size = X at *
  have HX : Hid (w.heap.size = X) := hX
  clear hX
  go_upto_region 3 with (first | (go_at_call 27; refine hC.mono ?_; clear hC; rintro e w2 ⟨rfl, hb2⟩; simp only [if_true]))
  obtain ⟨bw, ht, hV⟩ := HB.out _ hb2
  clear c0 c1 c2 c3 c4 c5 c6 c7 c8 c9 c10 c11 c12 HB
  obtain ⟨c0, c1, c2, c3, c4, c5, c6, c7, c8, c9, c10, c11, c12⟩ := var13 (tb := tb) (v := v) hV
  have H13 : Hid (∀ W, Below w2.heap.size w2 W → W.cell? ⟨X, 0, none⟩ = some (I tb.uses) ∧ W.cell? ⟨X, 1, none⟩ = some (I tb.modes) ∧ W.cell? ⟨X, 2, none⟩ = some (.slice v.t.a v.t.n v.t.c) ∧ W.cell? ⟨X, 3, none⟩ = some (.slice v.g.a v.g.n v.g.c) ∧ W.cell? ⟨X, 4, none⟩ = some (.slice v.r.a v.r.n v.r.c) ∧ W.cell? ⟨X, 5, none⟩ = some (.slice v.k.a v.k.n v.k.c) ∧ W.cell? ⟨X, 6, none⟩ = some (.slice v.a.a v.a.n v.a.c) ∧ W.cell? ⟨X, 7, none⟩ = some (.slice v.i.a v.i.n v.i.c) ∧ W.cell? ⟨X, 8, none⟩ = some (.slice v.s.a v.s.n v.s.c) ∧ W.cell? ⟨X, 9, none⟩ = some (I tb.depth) ∧ W.cell? ⟨X, 10, none⟩ = some (I tb.frames) ∧ W.cell? ⟨X, 11, none⟩ = some (I tb.errors) ∧ W.cell? ⟨X, 12, none⟩ = some (I tb.calls)) := fun W hb => var13 (tb := tb) (v := v) ((hb.block X (heap_lt hV)).trans hV)
  have hCl : ∀ W, Below w2.heap.size w2 W → Calls Tryz.prog 102 #[.slice v.r.a v.r.n v.r.c] W fun e w' => ∃ so : Sl, e = .returned (.slice so.a so.n so.c) ∧ RowsAt w' 2 rsrP so tb.ress ∧ (tb.ress ≠ [] → ∃ g, so.a = some ⟨g, 0, none⟩ ∧ W.heap.size ≤ g ∧ g < w'.heap.size) ∧ Below W.heap.size W w' ∧ Below w2.heap.size w2 w' := fun W hb => (cloneR_any W v.r tb.ress ((ht.below hb).r) (by have := HOK.out.ress; omega)).mono (by rintro e w' ⟨so, e1, e2, e3, e4⟩; exact ⟨so, e1, e2, e3, e4, hb.trans (e4.mono hb.size)⟩)
  have hOw : ∀ W, Below w2.heap.size w2 W → Calls Tryz.prog 103 #[.agg (tbC tb v)] W fun e w' => ∃ m, e = .returned (.map (some m)) ∧ Gd w' W.heap.size m (tb.tasks.length + tb.isrs.length) (obs tb) ∧ Below W.heap.size W w' ∧ Below w2.heap.size w2 w' := fun W hb => (ownersOf_any W tb v (ht.below hb) HOK.out.tasks HOK.out.isrs (fun x hx => by obtain ⟨i, hi⟩ := List.getElem?_of_mem hx; have := own_len HOK.out (obs_task hi); simp at this; omega) (fun x hx => by obtain ⟨i, hi⟩ := List.getElem?_of_mem hx; have := own_len HOK.out (obs_isr hi); simp at this; omega)).mono (by rintro e w' ⟨m, e1, e2, e3⟩; exact ⟨m, e1, e2, e3, hb.trans (e3.mono hb.size)⟩)
  unfold tbC at hOw
  have hmm := @run_makeMap Tryz.prog
  have HBW : Hid (Below X w w2 ∧ X < w2.heap.size) := ⟨bw, heap_lt hV⟩
  clear hV bw ht hb2
  go_region_held_law (fun W => W.cell? ⟨X, 0, none⟩ = some (I tb.uses) ∧ W.cell? ⟨X, 1, none⟩ = some (I tb.modes) ∧ W.cell? ⟨X, 2, none⟩ = some (.slice v.t.a v.t.n v.t.c) ∧ W.cell? ⟨X, 3, none⟩ = some (.slice v.g.a v.g.n v.g.c) ∧ W.cell? ⟨X, 4, none⟩ = some (.slice v.r.a v.r.n v.r.c) ∧ W.cell? ⟨X, 5, none⟩ = some (.slice v.k.a v.k.n v.k.c) ∧ W.cell? ⟨X, 6, none⟩ = some (.slice v.a.a v.a.n v.a.c) ∧ W.cell? ⟨X, 7, none⟩ = some (.slice v.i.a v.i.n v.i.c) ∧ W.cell? ⟨X, 8, none⟩ = some (.slice v.s.a v.s.n v.s.c) ∧ W.cell? ⟨X, 9, none⟩ = some (I tb.depth) ∧ W.cell? ⟨X, 10, none⟩ = some (I tb.frames) ∧ W.cell? ⟨X, 11, none⟩ = some (I tb.errors) ∧ W.cell? ⟨X, 12, none⟩ = some (I tb.calls)) (first | exact ⟨c0, c1, c2, c3, c4, c5, c6, c7, c8, c9, c10, c11, c12⟩ | exact k4 | exact k3 | (go_keep; done)) (first
    | (go_at_call 102; refine (hCl _ (by first | exact (Below.refl _ _).drew | exact ((Below.refl _ w2).drew).alloc (Nat.le_refl _) _ | exact ((Below.refl _ w2).alloc (Nat.le_refl _) _).drew | exact (Below.refl _ w2).alloc (Nat.le_refl _) _)).mono ?_; rintro e w3 ⟨so, rfl, r1, r2, b3, B3⟩; have k3 := H13.out w3 B3)
    | (go_at_call 103; refine (hOw _ (by first | exact B3 | exact B3.alloc B3.size _ | exact B3.drew | exact (B3.alloc B3.size _).drew | exact B3.drew.alloc B3.size _)).mono ?_; rintro e w4 ⟨m, rfl, g4, b4, B4⟩; have k4 := H13.out w4 B4))
  · go_wp2
    go_ret2
    have hbm := below_alloc w4 (.map #[] 0)
    have hbe : Below w4.heap.size w4 ((w4.alloc (.map #[] 0)).alloc (.cells #[.slice so.a so.n so.c, .map (some m), .map (some w4.heap.size), .bool false, I 0, I 0] 175)) := hbm.trans ((below_alloc _ _).mono (by simp))
    have b34 : Below w3.heap.size w3 w4 := b4
    have hh0 := HdM.made w4
    have hh : HdM ((w4.alloc (.map #[] 0)).alloc (.cells #[.slice so.a so.n so.c, .map (some m), .map (some w4.heap.size), .bool false, I 0, I 0] 175)) w4.heap.size [] := hh0.kept ((below_alloc _ _).block _ hh0.lt)
    have hs2 := B3.size
    have hs3 := b34.size
    have hXX := HX.out
    have hX2 := HBW.out.2
    obtain ⟨Z, y, q1, q2, q3⟩ := new_fin (we := (w4.alloc (.map #[] 0)).alloc (.cells #[.slice so.a so.n so.c, .map (some m), .map (some w4.heap.size), .bool false, I 0, I 0] 175)) (rs := so) (mh := w4.heap.size) (L0 := w2.heap.size) (B := w4.heap.size + 1) g4 (by have h1 := HOK.out.tasks; have h2 := HOK.out.isrs; omega) hbe (r1.below (b34.trans (hbe.mono hs3)) (fun _ _ _ _ h => h)) (fun e => by obtain ⟨g, e1, e2, e3⟩ := r2 e; exact ⟨g, e1, by have h0 : w2.drew.heap.size = w2.heap.size := rfl; omega, e3, by have := b34.size; omega⟩) hh (.inr (Nat.le_refl _)) ⟨by first | omega | (simp; omega), by omega⟩ (by have := heap_alloc_new (w4.alloc (.map #[] 0)) (.cells #[.slice so.a so.n so.c, .map (some m), .map (some w4.heap.size), .bool false, I 0, I 0] 175); rwa [World.size_alloc] at this) (by omega) HOK.out
    refine ⟨_, Z, y, rfl, q1, ?_, fun b hb => by have := q2 b hb; omega, fun b hb => by have := q3 b hb; exact ⟨by omega, this.2⟩⟩
    have h9 := HBW.out.1.trans ((B4.trans (hbe.mono B4.size)).mono (Nat.le_of_lt hX2))
    rw [← HX.out] at h9
    exact h9
  · go_wp2
    go_ret2
    have hbe : Below w4.heap.size w4 (w4.alloc (.cells #[.slice so.a so.n so.c, .map (some m), .map (some w3.heap.size), .bool false, I 0, I 0] 175)) := below_alloc _ _
    have b34 : Below w3.heap.size w3 w4 := (below_alloc w3 (.map #[] 0)).trans (b4.mono (by simp))
    have hh0 := HdM.made w3
    have hh1 : HdM w4 w3.heap.size [] := hh0.kept (b4.block _ hh0.lt)
    have hh : HdM (w4.alloc (.cells #[.slice so.a so.n so.c, .map (some m), .map (some w3.heap.size), .bool false, I 0, I 0] 175)) w3.heap.size [] := hh1.kept (hbe.block _ hh1.lt)
    have hs2 := B3.size
    have hs3 := b34.size
    have hXX := HX.out
    have hX2 := HBW.out.2
    obtain ⟨Z, y, q1, q2, q3⟩ := new_fin (we := w4.alloc (.cells #[.slice so.a so.n so.c, .map (some m), .map (some w3.heap.size), .bool false, I 0, I 0] 175)) (rs := so) (mh := w3.heap.size) (L0 := w2.heap.size) (B := w4.heap.size) g4 (by have h1 := HOK.out.tasks; have h2 := HOK.out.isrs; omega) hbe (r1.below (b34.trans (hbe.mono hs3)) (fun _ _ _ _ h => h)) (fun e => by obtain ⟨g, e1, e2, e3⟩ := r2 e; exact ⟨g, e1, by have h0 : w2.drew.heap.size = w2.heap.size := rfl; omega, by simp; omega, by omega⟩) hh (.inl (by simp)) ⟨by first | omega | (simp; omega), by omega⟩ (heap_alloc_new _ _) (by omega) HOK.out
    refine ⟨_, Z, y, rfl, q1, ?_, fun b hb => by have := q2 b hb; omega, fun b hb => by have := q3 b hb; exact ⟨by omega, this.2⟩⟩
    have h9 := HBW.out.1.trans ((B4.trans (hbe.mono B4.size)).mono (Nat.le_of_lt hX2))
    rw [← HX.out] at h9
    exact h9
  · go_wp2
    go_ret2
    have h0 : (w2.alloc (.map #[] 0)).drew.heap.size = w2.heap.size + 1 := World.size_alloc _ _
    have hbe : Below w4.heap.size w4 (w4.alloc (.cells #[.slice so.a so.n so.c, .map (some m), .map (some w2.heap.size), .bool false, I 0, I 0] 175)) := below_alloc _ _
    have b34 : Below w3.heap.size w3 w4 := b4
    have hh0 := HdM.made w2
    have hh2 : HdM w3 w2.heap.size [] := hh0.kept (b3.block _ hh0.lt)
    have hh1 : HdM w4 w2.heap.size [] := hh2.kept (b4.block _ hh2.lt)
    have hh : HdM (w4.alloc (.cells #[.slice so.a so.n so.c, .map (some m), .map (some w2.heap.size), .bool false, I 0, I 0] 175)) w2.heap.size [] := hh1.kept (hbe.block _ hh1.lt)
    have hs2 := B3.size
    have hs3 := b34.size
    have hXX := HX.out
    have hX2 := HBW.out.2
    obtain ⟨Z, y, q1, q2, q3⟩ := new_fin (we := w4.alloc (.cells #[.slice so.a so.n so.c, .map (some m), .map (some w2.heap.size), .bool false, I 0, I 0] 175)) (rs := so) (mh := w2.heap.size) (L0 := w2.heap.size) (B := w4.heap.size) g4 (by have h1 := HOK.out.tasks; have h2 := HOK.out.isrs; omega) hbe (r1.below (b34.trans (hbe.mono hs3)) (fun _ _ _ _ h => h)) (fun e => by obtain ⟨g, e1, e2, e3⟩ := r2 e; exact ⟨g, e1, by omega, e3, by omega⟩) hh (.inl (by have := b3.size; omega)) ⟨by first | omega | (simp; omega), by omega⟩ (heap_alloc_new _ _) (by omega) HOK.out
    refine ⟨_, Z, y, rfl, q1, ?_, fun b hb => by have := q2 b hb; omega, fun b hb => by have := q3 b hb; exact ⟨by omega, this.2⟩⟩
    have h9 := HBW.out.1.trans ((B4.trans (hbe.mono B4.size)).mono (Nat.le_of_lt hX2))
    rw [← HX.out] at h9
    exact h9
end Go.Proofs.YtglnfifdjlgbcaaGreatDoor
