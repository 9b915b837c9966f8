import Derived.Test.YticgikbnlpgnkaaYl
import Derived.Laws.Tables
namespace Go.Proofs.Yticgikbnlpgnkaa
open Go.RowKit
set_option linter.unusedVariables false
set_option linter.unusedSimpArgs false

/-! ### Queues: New -/
theorem zc : Try.zeroCells56 = (.bool false :: .int .u64 0 :: List.replicate 64 (.pointer none)).toArray := by kernel_rfl
noncomputable def QZ0 : Array Value := Try.zeroCells56.setIfInBounds 0 (.bool true)
noncomputable def QZ1 (F : Int) : Array Value := QZ0.setIfInBounds 1 (.int .u64 F)
theorem QZ0_eq : QZ0 = (.bool true :: .int .u64 0 :: List.replicate 64 (.pointer none)).toArray := by unfold QZ0; rw [zc]; rfl
theorem QZ1_eq (F : Int) : QZ1 F = (.bool true :: .int .u64 F :: List.replicate 64 (.pointer none)).toArray := by unfold QZ1; rw [QZ0_eq]; rfl
theorem Qm.newL (w : World) (F : Nat) : Qm (w.alloc (.cells (.bool true :: .int .u64 F :: List.replicate 64 (.pointer none)).toArray 56)) w.heap.size F (fun _ => none) := by
  refine ⟨⟨_, heap_alloc_new w _, rfl, rfl, rfl, fun p hp => ?_⟩, (fun p x hx => by cases hx), (fun p q x y hx => by cases hx)⟩
  rw [Nat.add_comm 2 p, List.getElem?_toArray, List.getElem?_cons_succ, List.getElem?_cons_succ, List.getElem?_replicate, if_pos hp]
  rfl
theorem Qm.new0 (w : World) : Qm (w.alloc (.cells QZ0 56)) w.heap.size 0 (fun _ => none) := by
  rw [QZ0_eq]; exact Qm.newL w 0
theorem Qm.new1 (w : World) (F : Nat) : Qm (w.alloc (.cells (QZ1 F) 56)) w.heap.size F (fun _ => none) := by
  rw [QZ1_eq]; exact Qm.newL w F
/-- A ring of its own is put into a queue. -/
theorem Qm.putR {w : World} {Q F : Nat} {f : RS} (h : Qm w Q F f) {p : Nat} (hp : p < 64) (hno : f p = none) {B g c hi : Nat} {l : List Int} (hc : 1 ≤ c) (hq : iQ w B g c hi (intsV l)) (hB : ∀ q y, f q = some y → y.B ≠ B ∧ y.g ≠ g) : Qm (w.setCell ⟨Q, 2 + p, none⟩ (iP B)) Q F (upd f p ⟨B, g, c, hi, l⟩) := by
  obtain ⟨cs, ho, hs, h0, h1, hpp⟩ := h.o
  have hF : Fx [Q] w (w.setCell ⟨Q, 2 + p, none⟩ (iP B)) := (Fx.refl _ w).set (.inl (by simp)) _ _
  have hQ : Q ≠ B ∧ Q ≠ g := by
    obtain ⟨c1, h1⟩ := hq.ty
    obtain ⟨c2, h2⟩ := hq.tyg
    refine ⟨fun e => ?_, fun e => ?_⟩
    · rw [e, h1] at ho; simp only [Option.some.injEq, Obj.cells.injEq] at ho; exact absurd ho.2.1 (by decide)
    · rw [e, h2] at ho; simp only [Option.some.injEq, Obj.cells.injEq] at ho; exact absurd ho.2.1 (by decide)
  refine ⟨⟨_, heap_setCell_same w Q (2 + p) _ _ (iP B) ho, by simpa using hs, ?_, ?_, fun q hq2 => ?_⟩, fun q y hy => ?_, fun q r y z hy hz hqr => ?_⟩
  · rw [Array.getElem?_setIfInBounds_ne (by omega)]; exact h0
  · rw [Array.getElem?_setIfInBounds_ne (by omega)]; exact h1
  · by_cases e : q = p
    · subst e
      rw [upd_same, Array.getElem?_setIfInBounds_self_of_lt (by omega)]
      rfl
    · rw [upd_other f _ e, Array.getElem?_setIfInBounds_ne (by omega)]
      exact hpp q hq2
  · by_cases e : q = p
    · subst e
      rw [upd_same] at hy
      cases hy
      exact ⟨hp, hc, hq.kept hF (by simp; exact fun e => hQ.1 e.symm) (by simp; exact fun e => hQ.2 e.symm)⟩
    · rw [upd_other f _ e] at hy
      obtain ⟨k1, k2, k3⟩ := h.r q y hy
      have hne := h.ne hy
      exact ⟨k1, k2, k3.kept hF (by simp; exact fun e => hne.1 e.symm) (by simp; exact fun e => hne.2 e.symm)⟩
  · by_cases e : q = p
    · subst e
      rw [upd_same] at hy
      cases hy
      rw [upd_other f _ (fun e2 => hqr e2.symm)] at hz
      have := hB r z hz
      exact ⟨fun e => this.1 e.symm, fun e => this.2 e.symm⟩
    · rw [upd_other f _ e] at hy
      by_cases e2 : r = p
      · subst e2
        rw [upd_same] at hz
        cases hz
        exact hB q y hy
      · rw [upd_other f _ e2] at hz
        exact h.a q r y z hy hz hqr
/-- A queue whose blocks lie from b0 on. -/
def Nw (b0 Q : Nat) (f : RS) : Prop := ∀ b, Qb Q f b → b0 ≤ b
theorem Nw.upd {b0 Q : Nat} {f : RS} (h : Nw b0 Q f) {p : Nat} {x : Ri} (hB : b0 ≤ x.B) (hg : b0 ≤ x.g) : Nw b0 Q (upd f p x) := by
  rintro b (e | ⟨q, y, hy, e⟩)
  · exact h b (.inl e)
  · by_cases hq : q = p
    · subst hq
      rw [upd_same] at hy
      cases hy
      rcases e with rfl | rfl
      · exact hB
      · exact hg
    · rw [upd_other f _ hq] at hy
      exact h b (.inr ⟨q, y, hy, e⟩)
theorem Mt.newS {f : RS} {l : List (Int × Int)} {k : Nat} (h : Mt f (newR (l.take k))) (hfit : fitB 64 l = true) {p c : Nat} (hx : l[k]? = some ((p : Int), (c : Int))) : f p = Option.none ∧ ∀ B g, Mt (upd f p ⟨B, g, c, 0, []⟩) (newR (l.take (k + 1))) := by
  have hlt := (List.getElem?_eq_some_iff.1 hx).1
  have htk : newR (l.take (k + 1)) = newR (l.take k) ++ [⟨p, c, 0, []⟩] := by
    rw [List.take_add_one, hx]
    simp [newR]
  have hno : f p = Option.none := h.none (fun i r hi e => by
    obtain ⟨q, d, h1, rfl⟩ := newR_get hi
    rw [List.getElem?_take] at h1
    split at h1
    · rename_i hik
      have h2 := fit_fall l 64 hfit i k q d p c hik h1 hx
      have h3 := fit_at l 64 hfit i q d h1
      simp at e
      omega
    · cases h1)
  refine ⟨hno, fun B g => ?_⟩
  rw [htk]
  have hlen : (newR (l.take k)).length = k := by simp [newR]; omega
  refine ⟨fun i r hi => ?_, fun q y hy => ?_⟩
  · by_cases hik : i < k
    · rw [List.getElem?_append_left (by omega)] at hi
      obtain ⟨y, hy, e⟩ := h.1 i r hi
      refine ⟨y, ?_, e⟩
      rw [upd_other f _ (fun e2 => ?_)]
      · exact hy
      · rw [e2, hno] at hy
        cases hy
    · rw [List.getElem?_append_right (by omega)] at hi
      have : i - (newR (l.take k)).length = 0 := by
        rcases Nat.eq_zero_or_pos (i - (newR (l.take k)).length) with e | e
        · exact e
        · rw [List.getElem?_eq_none (by simp; omega)] at hi
          cases hi
      rw [this] at hi
      simp at hi
      subst hi
      exact ⟨_, upd_same f p _, rfl, rfl, rfl⟩
  · by_cases e : q = p
    · exact ⟨k, ⟨p, c, 0, []⟩, by rw [List.getElem?_append_right (by omega), hlen]; simp, e.symm⟩
    · rw [upd_other f _ e] at hy
      obtain ⟨i, r, hi, hp⟩ := h.2 q y hy
      refine ⟨i, r, ?_, hp⟩
      rw [List.getElem?_append_left ((List.getElem?_eq_some_iff.1 hi).1)]
      exact hi
structure NwI (w wr : World) (Q : Nat) (l : List (Int × Int)) (k : Nat) (f : RS) : Prop where
  m : Qm wr Q 0 f
  t : Mt f (newR (l.take k))
  b : Below w.heap.size w wr
  n : Nw w.heap.size Q f
theorem NwI.step {w wr W : World} {Q : Nat} {l : List (Int × Int)} {k : Nat} {f : RS} (h : NwI w wr Q l k f) (hfit : fitB 64 l = true) {p c : Nat} (hp : p < 64) (hc : 1 ≤ c) (hx : l[k]? = some ((p : Int), (c : Int))) {B g : Nat} (hb : Below wr.heap.size wr W) (hq : iQ W B g c 0 []) (hB : wr.heap.size ≤ B) (hg : wr.heap.size ≤ g) : NwI w (W.setCell ⟨Q, 2 + p, none⟩ (iP B)) Q l (k + 1) (upd f p ⟨B, g, c, 0, []⟩) := by
  obtain ⟨h1, h2⟩ := h.t.newS hfit hx
  have hs := h.b.size
  refine ⟨(h.m.below hb).putR hp h1 hc hq (fun q y hy => ?_), h2 B g, ?_, h.n.upd (Nat.le_trans hs hB) (Nat.le_trans hs hg)⟩
  · have := (h.m.r q y hy).2.2.lts
    omega
  · exact (h.b.trans (hb.mono hs)).setCell (p := ⟨Q, 2 + p, none⟩) (h.n Q (.inl rfl)) _
set_option maxHeartbeats 4000000 in
theorem qNew_no (w : World) (s : Sl) (l : List (Int × Int)) (h : RowsAt w 2 rwP s l) (hfit : fitB 64 l = false) : Calls Try.prog 28 #[.slice s.a s.n s.c] w fun e w' => e = .returned (.tuple #[.pointer none, I 133]) ∧ Below w.heap.size w w' := by
  have hR := rowsFit_any w s l h
  rw [hfit] at hR
  clear h hfit
  go_enter Try.func28, Try.ntmps28
  go_wp2_with (first | (go_at_call 51; refine hR.mono ?_; rintro e w1 ⟨rfl, b1⟩))
  go_ret2
  exact ⟨rfl, b1⟩
set_option maxHeartbeats 4000000 in
theorem qNew_ok (w : World) (s : Sl) (l : List (Int × Int)) (h : RowsAt w 2 rwP s l) (hfit : fitB 64 l = true) : Calls Try.prog 28 #[.slice s.a s.n s.c] w fun e w' => ∃ Q f, e = .returned (.tuple #[qP Q, I 0]) ∧ Qu w' Q 0 f ∧ Mt f (newR l) ∧ Below w.heap.size w w' ∧ Nw w.heap.size Q f := by
  have hR := rowsFit_any w s l h
  rw [hfit] at hR
  obtain ⟨a1, n1, c1⟩ := s
  have hn1 := h.n
  simp only at hn1
  subst hn1
  have hm := fit_len l hfit
  have H : Hid (RowsAt w 2 rwP ⟨a1, l.length, c1⟩ l ∧ fitB 64 l = true) := ⟨h, hfit⟩
  clear h hfit
  simp only at hR
  simp only
  go_enter Try.func28, Try.ntmps28
  go_wp2_with (first | (go_at_call 51; refine hR.mono ?_; rintro e w1 ⟨rfl, b1⟩; clear hR))
  have HN : Hid (NwI w (w1.alloc (.cells QZ0 56)) w1.heap.size l 0 (fun _ => none)) := ⟨Qm.new0 w1, ⟨fun i r hi => by simp [newR] at hi, fun p x hx => by cases hx⟩, b1.alloc b1.size _, by
    rintro b (rfl | ⟨p, x, hx, _⟩)
    · exact b1.size
    · cases hx⟩
  clear b1
  change Hid (NwI w (w1.alloc (.cells (Try.zeroCells56.setIfInBounds 0 (.bool true)) 56)) w1.heap.size l 0 (fun _ => none)) at HN
  generalize Try.zeroCells56.setIfInBounds 0 (.bool true) = Z at *
  generalize (w1.alloc (.cells Z 56)) = W0 at *
  generalize w1.heap.size = Q at *
  go_loopw [14] (fun i wr => ∃ (k : Nat) (f : RS), k ≤ l.length ∧ i = .int .i64 k ∧ Hid (NwI w wr Q l k f)) (fun i _ => l.length - (intOf i).toNat)
  case atStart => exact ⟨0, _, Nat.zero_le _, rfl, HN.out⟩
  case round =>
    clear HN
    obtain ⟨k, f, hk, rfl, HI⟩ := hrel
    by_cases hlt : k < l.length
    · obtain ⟨⟨p, q⟩, hx⟩ : ∃ x, l[k]? = some x := ⟨_, List.getElem?_eq_getElem hlt⟩
      obtain ⟨⟨hp1, hp2⟩, _, hq1, hq2⟩ := fit_at l 64 H.out.2 k p q hx
      obtain ⟨n, rfl⟩ : ∃ n : Nat, p = n := ⟨p.toNat, by omega⟩
      obtain ⟨c, rfl⟩ : ∃ n : Nat, q = n := ⟨q.toNat, by omega⟩
      obtain ⟨g, off, rfl, x0, x1, hg⟩ := H.out.1.two HI.out.b hx
      have HX : Hid (l[k]? = some ((n : Int), (c : Int)) ∧ n < 64 ∧ 1 ≤ c ∧ c ≤ 65536 ∧ f n = Option.none) := ⟨hx, by omega, by omega, by omega, (HI.out.t.newS H.out.2 hx).1⟩
      have hst := run_storeCells_new (P := Try.prog) wr 65 #[.int .i64 0, .int .i64 0] #[I n, I c] (by kernel_rfl) rfl (by simp [Value.oneCell'])
      have hltI : (k : Int) < l.length := by omega
      have hk0 : ¬ (k : Int) < 0 := by omega
      have hn1 : (n : Int) < 64 := by omega
      have hn0 : ¬ (n : Int) < 0 := by omega
      have b1 := below_alloc wr (.cells #[I n, I c] 65)
      have y0 : (wr.alloc (.cells #[I n, I c] 65)).cell? ⟨wr.heap.size, 0, none⟩ = some (I n) := by rw [cell_of_row _ _ _ _ _ (0, 0) (heap_alloc_new wr _)]; rfl
      have y1 : (wr.alloc (.cells #[I n, I c] 65)).cell? ⟨wr.heap.size, 1, none⟩ = some (I c) := by rw [cell_of_row _ _ _ _ _ (0, 0) (heap_alloc_new wr _)]; rfl
      have hlt2 : wr.heap.size < (wr.alloc (.cells #[I n, I c] 65)).heap.size := by simp
      have hNE : wr.heap.size ≠ Q := by have := HI.out.m.lt; omega
      clear hx hq1 hq2 hp1 hp2
      go_wp2
      have B1 : Hid (Below wr.heap.size wr (wr.alloc (.cells #[I n, I c] 65))) := b1
      clear hst x0 x1 b1
      generalize (wr.alloc (.cells #[I n, I c] 65)) = W at *
      have hp := (iNewQ W.drew c HX.out.2.2.2.1).mono (R' := fun e w' => e = .returned (.tuple #[iP (W.heap.size + 1), I 0]) ∧ w'.cell? ⟨Q, 2 + n, none⟩ = some (.pointer none) ∧ w'.frozen? ⟨Q, 2 + n, none⟩ = false ∧ (w'.cell? ⟨wr.heap.size, 0, none⟩ = some (I n) ∧ w'.cell? ⟨wr.heap.size, 1, none⟩ = some (I c)) ∧ Hid (NwI w (w'.setCell ⟨Q, 2 + n, none⟩ (iP (W.heap.size + 1))) Q l (k + 1) (upd f n ⟨W.heap.size + 1, W.heap.size, c, 0, []⟩))) (fun e w' ⟨e1, q1, b2⟩ => by
        have bb : Below wr.heap.size wr w' := (B1.out.drew).trans (b2.mono (by have := B1.out.size; simpa using this))
        have hm2 := HI.out.m.below bb
        have hcp := hm2.cp HX.out.2.1
        rw [HX.out.2.2.2.2] at hcp
        have hsz := B1.out.size
        refine ⟨e1, hcp, hm2.frz _, ⟨?_, ?_⟩, HI.out.step H.out.2 HX.out.2.1 HX.out.2.2.1 HX.out.1 bb q1 (by omega) (by omega)⟩
        · exact (b2.cell (p := ⟨wr.heap.size, 0, none⟩) (by simpa using hlt2)).trans y0
        · exact (b2.cell (p := ⟨wr.heap.size, 1, none⟩) (by simpa using hlt2)).trans y1)
      go_region_held_law (fun w' => w'.cell? ⟨wr.heap.size, 0, none⟩ = some (I n) ∧ w'.cell? ⟨wr.heap.size, 1, none⟩ = some (I c))
        (first | exact ⟨y0, y1⟩ | exact hy2 | exact ⟨(cell_set_ne hNE).trans hy2.1, (cell_set_ne hNE).trans hy2.2⟩ | (go_keep; done))
        (first | (go_at_call 52; refine hp.mono ?_; rintro e w2 ⟨rfl, hc2, hz2, hy2, HN2⟩))
      all_goals
        go_wp2
        go_roundw
        case rel => exact ⟨k + 1, _, by omega, by go_num, HN2.out⟩
        case measure => simp [intOf]; omega
    · obtain rfl : k = l.length := by omega
      have hge : ¬ ((l.length : Int) < l.length) := by omega
      go_wp2
      go_ret2
      have h9 := HI.out
      have ht := h9.t
      rw [List.take_length] at ht
      exact ⟨Q, rfl, f, ⟨h9.m, Bt.zero (fun p x hx => by
        obtain ⟨i, r, hi, _, _, _, e⟩ := ht.get hx
        obtain ⟨_, _, _, rfl⟩ := newR_get hi
        exact e)⟩, ht, h9.b, h9.n⟩
end Go.Proofs.Yticgikbnlpgnkaa
