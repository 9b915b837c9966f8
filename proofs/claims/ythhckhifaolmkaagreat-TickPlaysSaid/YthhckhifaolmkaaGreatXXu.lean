import Derived.Test.YthhckhifaolmkaaGreatXXl
import Derived.Test.YthhckhifaolmkaaGreatXXj
import Derived.Test.YthhckhifaolmkaaGreatXXt
namespace Go.Proofs.YthhckhifaolmkaaGreat
open Go.RowKit Go.Shelf Go.Sort
open Go.Proofs.YthhckhifaolmkaaGreat.Cl (Fx Fz Ck Cb Alm psA dueA dueF U Q cP own_sl own_some own_below own_base inL ret_bool ret_int heap_lt iinfo cell_one_new take_snoc aftN)
set_option linter.unusedVariables false
set_option linter.unusedSimpArgs false

theorem ctinfo : (Tryz.prog.info? 85).map (fun i => (i.zero, i.size, i.bytes)) = some (some (.agg #[.pointer none, .int .u32 0, .int .u32 0, .int .u32 0, .slice none 0 0]), 5, 48) := by kernel_rfl
theorem getEm {W : World} {a : Addr} {xs : List Value} {j : Nat} (h : j < xs.length) (e : W.cell? a = xs[j]?) : ∃ y, W.cell? a = some y := ⟨_, e.trans (List.getElem?_eq_getElem h)⟩
theorem put5 {W : World} {b e n g c k : Nat} {xs : List Value} (o : W.ownsRow b e 5 (.slice (some ⟨g, 0, none⟩) n c) n xs) (hk : k < n) (a0 a1 a2 a3 a4 : Value) :
    (∃ y, W.cell? ⟨g, k * 5, none⟩ = some y) ∧ (∃ y, (W.setCell ⟨g, k * 5, none⟩ a0).cell? ⟨g, k * 5 + 1, none⟩ = some y) ∧ (∃ y, ((W.setCell ⟨g, k * 5, none⟩ a0).setCell ⟨g, k * 5 + 1, none⟩ a1).cell? ⟨g, k * 5 + 2, none⟩ = some y) ∧ (∃ y, (((W.setCell ⟨g, k * 5, none⟩ a0).setCell ⟨g, k * 5 + 1, none⟩ a1).setCell ⟨g, k * 5 + 2, none⟩ a2).cell? ⟨g, k * 5 + 3, none⟩ = some y) ∧ (∃ y, ((((W.setCell ⟨g, k * 5, none⟩ a0).setCell ⟨g, k * 5 + 1, none⟩ a1).setCell ⟨g, k * 5 + 2, none⟩ a2).setCell ⟨g, k * 5 + 3, none⟩ a3).cell? ⟨g, k * 5 + 4, none⟩ = some y) ∧
    W.frozen? ⟨g, k * 5, none⟩ = false ∧ (W.setCell ⟨g, k * 5, none⟩ a0).frozen? ⟨g, k * 5 + 1, none⟩ = false ∧ ((W.setCell ⟨g, k * 5, none⟩ a0).setCell ⟨g, k * 5 + 1, none⟩ a1).frozen? ⟨g, k * 5 + 2, none⟩ = false ∧ (((W.setCell ⟨g, k * 5, none⟩ a0).setCell ⟨g, k * 5 + 1, none⟩ a1).setCell ⟨g, k * 5 + 2, none⟩ a2).frozen? ⟨g, k * 5 + 3, none⟩ = false ∧ ((((W.setCell ⟨g, k * 5, none⟩ a0).setCell ⟨g, k * 5 + 1, none⟩ a1).setCell ⟨g, k * 5 + 2, none⟩ a2).setCell ⟨g, k * 5 + 3, none⟩ a3).frozen? ⟨g, k * 5 + 4, none⟩ = false ∧
    (((((W.setCell ⟨g, k * 5, none⟩ a0).setCell ⟨g, k * 5 + 1, none⟩ a1).setCell ⟨g, k * 5 + 2, none⟩ a2).setCell ⟨g, k * 5 + 3, none⟩ a3).setCell ⟨g, k * 5 + 4, none⟩ a4).ownsRow b e 5 (.slice (some ⟨g, 0, none⟩) n c) n (((((xs.set (k * 5) a0).set (k * 5 + 1) a1).set (k * 5 + 2) a2).set (k * 5 + 3) a3).set (k * 5 + 4) a4) ∧
    Fz (fun b => b = g) W (((((W.setCell ⟨g, k * 5, none⟩ a0).setCell ⟨g, k * 5 + 1, none⟩ a1).setCell ⟨g, k * 5 + 2, none⟩ a2).setCell ⟨g, k * 5 + 3, none⟩ a3).setCell ⟨g, k * 5 + 4, none⟩ a4) := by
  have hl := o.1
  have o1 := (o.stored (k * 5) a0).1
  have o2 := (o1.stored (k * 5 + 1) a1).1
  have o3 := (o2.stored (k * 5 + 2) a2).1
  have o4 := (o3.stored (k * 5 + 3) a3).1
  have o5 := (o4.stored (k * 5 + 4) a4).1
  exact ⟨getEm (by omega) (o.cellAt _ (by omega)), getEm (by simp; omega) (o1.cellAt _ (by omega)), getEm (by simp; omega) (o2.cellAt _ (by omega)), getEm (by simp; omega) (o3.cellAt _ (by omega)), getEm (by simp; omega) (o4.cellAt _ (by omega)), o.frozenAt _, o1.frozenAt _, o2.frozenAt _, o3.frozenAt _, o4.frozenAt _, o5, (((((Fz.refl (fun b => b = g) W).set (.inl rfl) _ _).set (.inl rfl) _ _).set (.inl rfl) _ _).set (.inl rfl) _ _).set (.inl rfl) _ _⟩
/-- a counter's row, its clock in the block cb i -/
def ctRn (tb : Tb) (cb : Nat → Nat) (ca : Nat → Sl) (i : Nat) : List Value := [cP (cb i), U (ctK tb i).max, U (ctK tb i).base, U (ctK tb i).min, slT (ca i)]
theorem Fil.congr {f g : Nat → List Value} {m n k : Nat} {xs : List Value} (h : Fil f m n k xs) (e : ∀ i, i < k → f i = g i) : Fil g m n k xs := ⟨h.1, fun i hi j hj => by rw [← e i hi]; exact h.2 i hi j hj⟩
abbrev bdB (tb : Tb) (p : Pl) (s : Bs) (v : Value) : Obj := .cells #[I tb.modes, v, slT p.va, slT p.vi, B8 (s.q 0), B8 (s.q 1), B8 (s.q 2), B8 (s.q 3)] 61
/-- A board's copy, while its counters are copied. -/
structure Cy (w wr : World) (tb : Tb) (p : Pl) (s : Bs) (k : Nat) (cb : Nat → Nat) (cv : Nat → Value) (zk : Nat → Nat) : Prop where
  b : Below w.heap.size w wr
  o : wr.heap[w.heap.size]? = some (bdB tb p s (.slice (some ⟨w.heap.size + 1, 0, none⟩) tb.ctrs.length tb.ctrs.length))
  c : ∃ xs, wr.ownsRow (w.heap.size + 1) 85 5 (.slice (some ⟨w.heap.size + 1, 0, none⟩) tb.ctrs.length tb.ctrs.length) tb.ctrs.length xs ∧ Fil (ctRn tb cb p.ca) 5 tb.ctrs.length k xs
  k : Cks wr tb (w.heap.size + 2) k cb cv zk s.v s.a
/-- the blocks of a copy -/
def cpZ (N : Nat) (zn zk : Nat → Nat) (b : Nat) : Nat := if b = N then 1 else if b = N + 1 then 2 else if zk b ≠ 0 then zk b else if zn b = 3 ∨ zn b = 4 ∨ zn b = 5 then zn b else 0
section
variable {w w' wr : World} {zn : Nat → Nat} {tb : Tb} {B : Nat} {p : Pl} {s : Bs}
theorem Cy.bo {cb : Nat → Nat} {cv : Nat → Value} {zk : Nat → Nat} (h : Bo w zn tb B p s) (c : Cy w wr tb p s tb.ctrs.length cb cv zk) :
    Bo wr (cpZ w.heap.size zn zk) tb w.heap.size ⟨⟨some ⟨w.heap.size + 1, 0, none⟩, tb.ctrs.length, tb.ctrs.length⟩, p.va, p.vi, cb, cv, p.ca⟩ s ∧ (∀ b, Wr (cpZ w.heap.size zn zk) b → w.heap.size ≤ b) ∧ (∀ b, cpZ w.heap.size zn zk b ≠ 0 → ¬ Wr zn b) := by
  have h' := h.below c.b
  obtain ⟨xs, o, hF⟩ := c.c
  have hN := heap_lt c.o
  have hN1 : w.heap.size + 1 < wr.heap.size := (o.lt _ rfl).2
  have old : ∀ b, zn b = 3 ∨ zn b = 4 ∨ zn b = 5 → cpZ w.heap.size zn zk b = zn b := fun b hb => by
    have := h.zs b (by omega)
    unfold cpZ
    rw [if_neg (by omega), if_neg (by omega), if_neg (fun e => by have := (c.k.s b e).1; omega), if_pos hb]
  refine ⟨⟨c.o, ?_, h'.a, h'.i, c.k.c, h'.n, ?_, ?_, ?_, ?_, ?_, ?_, ?_, h.ok, h.q, h.l⟩, ?_, ?_⟩
  · rw [hF.all (by omega) (fun _ => rfl)] at o
    exact own_base o (Nat.zero_le _)
  · unfold cpZ; rw [if_pos rfl]
  · intro b e
    have : w.heap.size + 1 = b := by simpa [Value.ownBlock] using e
    subst this
    unfold cpZ
    rw [if_neg (by omega), if_pos rfl]
  · intro b e; rw [old b (by rw [h.za b e]; omega)]; exact h.za b e
  · intro b e; rw [old b (by rw [h.zi b e]; omega)]; exact h.zi b e
  · intro i hi b hb
    have := c.k.z i hi b hb
    have := c.k.s b (by omega)
    unfold cpZ
    rw [if_neg (by omega), if_neg (by omega), if_pos (by omega)]
    exact c.k.z i hi b hb
  · intro i hi b e; rw [old b (by rw [h.zm i hi b e]; omega)]; exact h.zm i hi b e
  · intro b hb
    unfold cpZ at hb
    split at hb
    · omega
    · split at hb
      · omega
      · split at hb
        · rename_i e; exact (c.k.s b e).2.1
        · split at hb
          · rename_i e; have := h.zs b (by omega); have := c.b.size; omega
          · exact absurd rfl hb
  · intro b hb
    have hz : cpZ w.heap.size zn zk b ≠ 0 := by rcases hb with e | e <;> omega
    unfold Wr cpZ at hb
    split at hb
    · omega
    · split at hb
      · omega
      · split at hb
        · rename_i e; have := (c.k.s b e).1; omega
        · split at hb
          · rename_i e; omega
          · omega
  · intro b hb e
    have hb2 := h.zs b (by rcases e with e | e <;> omega)
    unfold cpZ at hb
    split at hb
    · omega
    · split at hb
      · omega
      · split at hb
        · rename_i e2; have := (c.k.s b e2).1; omega
        · split at hb
          · rename_i e2; rcases e with e | e <;> omega
          · exact absurd rfl hb
set_option maxRecDepth 100000 in
set_option maxHeartbeats 8000000 in
theorem bCopy (h : Bo w zn tb B p s) : Calls Tryz.prog 18 #[bP B] w fun e w' => ∃ B2, e = .returned (bP B2) ∧ ∃ p2 zn2, Bo w' zn2 tb B2 p2 s ∧ (∀ b, Wr zn2 b → w.heap.size ≤ b) ∧ (∀ b, zn2 b ≠ 0 → ¬ Wr zn b) ∧ Below w.heap.size w w' := by
  obtain ⟨i0, hi0, hz0, hz1, hz2⟩ := info_parts ctinfo
  obtain ⟨c0, c1, c2, c3, c4, c5, c6, c7⟩ := h.cells
  have hN := bnone_any h
  have hn := h.ok.nk
  obtain ⟨a, cc, hv⟩ := own_sl h.c
  rw [hv] at c1
  have hb0 := below_alloc w (bdB tb p s (.slice a tb.ctrs.length cc))
  have hV0 := heap_alloc_new w (bdB tb p s (.slice a tb.ctrs.length cc))
  have hs0 : (w.alloc (bdB tb p s (.slice a tb.ctrs.length cc))).heap.size = w.heap.size + 1 := by simp
  have h0 := h.below hb0
  obtain ⟨w1, hmk, ho1, hg1⟩ := run_make_full (P := Tryz.prog) (w.alloc (bdB tb p s (.slice a tb.ctrs.length cc))) (w.heap.size + 1) 55 85 i0 _ 5 Tryz.underlying55 hi0 hz0 hz1 .i64 .i64 tb.ctrs.length (by rw [hz2]; omega) (by unfold maxLen; omega) (by simp)
  obtain ⟨-, d1, -⟩ := h0.cells
  rw [hv] at d1
  have HH : Hid (Bo w zn tb B p s ∧ slT p.vc = .slice a tb.ctrs.length cc) := ⟨h, hv⟩
  clear h h0 hv
  go_enter Tryz.func18, Tryz.ntmps18
  go_upto_region 4 with (first | (go_at_call 28; refine hN.mono ?_; rintro e w1 ⟨rfl, rfl⟩))
  have hg1s := hg1.size
  have hq1 : w1.heap[w.heap.size]? = some (bdB tb p s (.slice a tb.ctrs.length cc)) := (hg1.block _ (by simp) (by simp)).trans hV0
  have b1 : Below w.heap.size w w1 := hb0.trans ((⟨hg1.os, hg1.tape, hg1.output, hg1.size, fun i hi => hg1.block i hi (by simp)⟩ : Below _ _ w1).mono hb0.size)
  have x1 : w1.cell? ⟨w.heap.size, 1, none⟩ = some (.slice a tb.ctrs.length cc) := by rw [cell_of_row _ _ _ _ _ (0, 0) hq1]; rfl
  have y1 := frozen_of_row w1 w.heap.size 1 _ _ hq1
  rw [hs0] at hmk ho1
  have F1 : Fz (fun b => b = w.heap.size) w1 (w1.setCell ⟨w.heap.size, 1, none⟩ (.slice (some ⟨w.heap.size + 1, 0, none⟩) tb.ctrs.length tb.ctrs.length)) := (Fz.refl (fun b => b = w.heap.size) w1).set (.inl rfl) _ _
  have H1 : Hid (Cy w (w1.setCell ⟨w.heap.size, 1, none⟩ (.slice (some ⟨w.heap.size + 1, 0, none⟩) tb.ctrs.length tb.ctrs.length)) tb p s 0 (fun _ => 0) (fun _ => .pointer none) (fun _ => 0)) := ⟨below_set b1 (Nat.le_refl _), heap_setCell_same _ _ 1 _ _ _ hq1, ⟨_, F1.own ho1 (fun g e e3 => by have e2 : w.heap.size + 1 = g := Option.some.inj e; have e4 : g = w.heap.size := e3; omega), Fil.zero _ (by simp [size_madeCells])⟩, Cks.zero _ _ _ _ _⟩
  have z1 : (w1.setCell ⟨w.heap.size, 1, none⟩ (.slice (some ⟨w.heap.size + 1, 0, none⟩) tb.ctrs.length tb.ctrs.length)).cell? ⟨B, 1, none⟩ = some (.slice a tb.ctrs.length cc) := by
    obtain ⟨-, q, -⟩ := (HH.out.1.below H1.out.b).cells
    rw [q, HH.out.2]
  clear c0 c1 c2 c3 c4 c5 c6 c7 hb0 hV0 ho1 hg1 hq1 b1 F1 hs0 hN hg1s
  go_upto_region 5 with fail
  clear hmk x1 y1 d1
  generalize w1.setCell ⟨w.heap.size, 1, none⟩ (.slice (some ⟨w.heap.size + 1, 0, none⟩) tb.ctrs.length tb.ctrs.length) = w2 at *
  go_wp2
  clear z1
  go_loopw [4, 5, 23] (fun _ _ v23 wr => ∃ k : Nat, k ≤ tb.ctrs.length ∧ v23 = I k ∧ Hid (∃ cb cv zk, Cy w wr tb p s k cb cv zk)) (fun _ _ v23 _ => tb.ctrs.length - (intOf v23).toNat)
  case atStart => exact ⟨0, by omega, rfl, _, _, _, H1.out⟩
  case round =>
    clear H1
    obtain ⟨k, hk, rfl, HJ⟩ := hrel
    by_cases hlt : k < tb.ctrs.length
    · have hltI : (k : Int) < tb.ctrs.length := by omega
      obtain ⟨cb, cv, zk, hJ⟩ := HJ.out
      have hr := HH.out.1.below hJ.b
      obtain ⟨g, c, ev, q0, q1, q2, q3, q4⟩ := hr.ct hlt
      have ea : a = some ⟨g, 0, none⟩ := by have := HH.out.2; rw [this] at ev; cases ev; rfl
      have hb1 := below_alloc wr (.cells #[cP (p.cb k), U (ctK tb k).max, U (ctK tb k).base, U (ctK tb k).min, slT (p.ca k)] 85)
      have hv1 := heap_alloc_new wr (.cells #[cP (p.cb k), U (ctK tb k).max, U (ctK tb k).base, U (ctK tb k).min, slT (p.ca k)] 85)
      have hsr := hJ.b.size
      obtain ⟨xs, ox, hF⟩ := hJ.c
      have hlr : w.heap.size + 1 < wr.heap.size := (ox.lt _ rfl).2
      have H2 : Hid (Bo (wr.alloc (.cells #[cP (p.cb k), U (ctK tb k).max, U (ctK tb k).base, U (ctK tb k).min, slT (p.ca k)] 85)) zn tb B p s ∧ Below w.heap.size w (wr.alloc (.cells #[cP (p.cb k), U (ctK tb k).max, U (ctK tb k).base, U (ctK tb k).min, slT (p.ca k)] 85)) ∧ (wr.alloc (.cells #[cP (p.cb k), U (ctK tb k).max, U (ctK tb k).base, U (ctK tb k).min, slT (p.ca k)] 85)).heap[w.heap.size]? = some (bdB tb p s (.slice (some ⟨w.heap.size + 1, 0, none⟩) tb.ctrs.length tb.ctrs.length)) ∧ (wr.alloc (.cells #[cP (p.cb k), U (ctK tb k).max, U (ctK tb k).base, U (ctK tb k).min, slT (p.ca k)] 85)).ownsRow (w.heap.size + 1) 85 5 (.slice (some ⟨w.heap.size + 1, 0, none⟩) tb.ctrs.length tb.ctrs.length) tb.ctrs.length xs ∧ Fil (ctRn tb cb p.ca) 5 tb.ctrs.length k xs ∧ Cks (wr.alloc (.cells #[cP (p.cb k), U (ctK tb k).max, U (ctK tb k).base, U (ctK tb k).min, slT (p.ca k)] 85)) tb (w.heap.size + 2) k cb cv zk s.v s.a ∧ (wr.alloc (.cells #[cP (p.cb k), U (ctK tb k).max, U (ctK tb k).base, U (ctK tb k).min, slT (p.ca k)] 85)).heap[wr.heap.size]? = some (.cells #[cP (p.cb k), U (ctK tb k).max, U (ctK tb k).base, U (ctK tb k).min, slT (p.ca k)] 85) ∧ w.heap.size + 1 < wr.heap.size) := ⟨hr.below hb1, hJ.b.trans (hb1.mono hsr), (hb1.block _ (heap_lt hJ.o)).trans hJ.o, own_below ox hb1, hF, hJ.k.below hb1, hv1, hlr⟩
      clear HJ hJ hr ev hb1 hv1 hsr ox hF hlr
      subst ea
      go_upto_region 8 with fail
      clear q0 q1 q2 q3 q4
      generalize wr.alloc (.cells #[cP (p.cb k), U (ctK tb k).max, U (ctK tb k).base, U (ctK tb k).min, slT (p.ca k)] 85) = w4 at *
      generalize wr.heap.size = X1 at *
      have hA := balike (H2.out.1.below ((Below.refl _ w4).drew)) hlt
      have t1 : w4.cell? ⟨w.heap.size, 1, none⟩ = some (.slice (some ⟨w.heap.size + 1, 0, none⟩) tb.ctrs.length tb.ctrs.length) := by rw [cell_of_row _ _ _ _ _ (0, 0) H2.out.2.2.1]; rfl
      have x0 : w4.cell? ⟨X1, 0, none⟩ = some (cP (p.cb k)) := by rw [cell_of_row _ _ _ _ _ (0, 0) H2.out.2.2.2.2.2.2.1]; rfl
      have x1 : w4.cell? ⟨X1, 1, none⟩ = some (U (ctK tb k).max) := by rw [cell_of_row _ _ _ _ _ (0, 0) H2.out.2.2.2.2.2.2.1]; rfl
      have x2 : w4.cell? ⟨X1, 2, none⟩ = some (U (ctK tb k).base) := by rw [cell_of_row _ _ _ _ _ (0, 0) H2.out.2.2.2.2.2.2.1]; rfl
      have x3 : w4.cell? ⟨X1, 3, none⟩ = some (U (ctK tb k).min) := by rw [cell_of_row _ _ _ _ _ (0, 0) H2.out.2.2.2.2.2.2.1]; rfl
      have x4 : w4.cell? ⟨X1, 4, none⟩ = some (slT (p.ca k)) := by rw [cell_of_row _ _ _ _ _ (0, 0) H2.out.2.2.2.2.2.2.1]; rfl
      have HS : Hid (∀ W, W.heap[w.heap.size]? = some (bdB tb p s (.slice (some ⟨w.heap.size + 1, 0, none⟩) tb.ctrs.length tb.ctrs.length)) → W.heap[X1]? = some (.cells #[cP (p.cb k), U (ctK tb k).max, U (ctK tb k).base, U (ctK tb k).min, slT (p.ca k)] 85) → (fun w' : World => w'.cell? ⟨w.heap.size, 1, none⟩ = some (.slice (some ⟨w.heap.size + 1, 0, none⟩) tb.ctrs.length tb.ctrs.length) ∧ w'.cell? ⟨X1, 0, none⟩ = some (cP (p.cb k)) ∧ w'.cell? ⟨X1, 1, none⟩ = some (U (ctK tb k).max) ∧ w'.cell? ⟨X1, 2, none⟩ = some (U (ctK tb k).base) ∧ w'.cell? ⟨X1, 3, none⟩ = some (U (ctK tb k).min) ∧ w'.cell? ⟨X1, 4, none⟩ = some (slT (p.ca k))) W) := fun W e1 e2 => ⟨by rw [cell_of_row _ _ _ _ _ (0, 0) e1]; rfl, by rw [cell_of_row _ _ _ _ _ (0, 0) e2]; rfl, by rw [cell_of_row _ _ _ _ _ (0, 0) e2]; rfl, by rw [cell_of_row _ _ _ _ _ (0, 0) e2]; rfl, by rw [cell_of_row _ _ _ _ _ (0, 0) e2]; rfl, by rw [cell_of_row _ _ _ _ _ (0, 0) e2]; rfl⟩
      go_region_held_law (fun w' : World => w'.cell? ⟨w.heap.size, 1, none⟩ = some (.slice (some ⟨w.heap.size + 1, 0, none⟩) tb.ctrs.length tb.ctrs.length) ∧ w'.cell? ⟨X1, 0, none⟩ = some (cP (p.cb k)) ∧ w'.cell? ⟨X1, 1, none⟩ = some (U (ctK tb k).max) ∧ w'.cell? ⟨X1, 2, none⟩ = some (U (ctK tb k).base) ∧ w'.cell? ⟨X1, 3, none⟩ = some (U (ctK tb k).min) ∧ w'.cell? ⟨X1, 4, none⟩ = some (slT (p.ca k))) (first | with_reducible exact ⟨t1, x0, x1, x2, x3, x4⟩ | with_reducible exact HY | with_reducible exact HZ | (go_keep; done)) (first | (go_at_call 44; refine hA.mono ?_; clear hA; rintro e w5 ⟨B2, v2, rfl, k5, n5, b5⟩; obtain ⟨hB4, b4, e4, o4, hF4, K4, v4, l4⟩ := H2.out; have B5 : Below w4.heap.size w4 w5 := ((Below.refl _ w4).drew).trans b5; have e5 := (B5.block _ (heap_lt e4)).trans e4; have v5 := (B5.block _ (heap_lt v4)).trans v4; have HY := HS.out w5 e5 v5; have o5 := own_below o4 B5; obtain ⟨⟨y0, p0⟩, ⟨y1, p1⟩, ⟨y2, p2⟩, ⟨y3, p3⟩, ⟨y4, p4⟩, f0, f1, f2, f3, f4, o6, F6⟩ := put5 o5 hlt (cP B2) (U (ctK tb k).max) (U (ctK tb k).base) (U (ctK tb k).min) (slT (p.ca k)); have K5 := K4.next B5 (by have := heap_lt v4; omega) k5 (fun b hb => by have := n5 b hb; show w4.heap.size ≤ b; have : w4.drew.heap.size = w4.heap.size := rfl; omega); have e6 := F6.heap e5 (by omega); have v6 := F6.heap v5 (by omega); have HZ := HS.out _ e6 v6; have K6 := K5.keep F6 (fun b hb e => by have := (K5.s b hb).1; omega); have H6 : Hid (∃ cb cv zk, Cy w (((((w5.setCell ⟨w.heap.size + 1, k * 5, none⟩ (cP B2)).setCell ⟨w.heap.size + 1, k * 5 + 1, none⟩ (U (ctK tb k).max)).setCell ⟨w.heap.size + 1, k * 5 + 2, none⟩ (U (ctK tb k).base)).setCell ⟨w.heap.size + 1, k * 5 + 3, none⟩ (U (ctK tb k).min)).setCell ⟨w.heap.size + 1, k * 5 + 4, none⟩ (slT (p.ca k))) tb p s (k + 1) cb cv zk) := ⟨_, _, _, (b4.trans (B5.mono b4.size)).trans (F6.below (by have := b4.size; have := B5.size; omega) (by rintro b rfl; omega)), e6, ⟨_, o6, (hF4.congr (fun i hi => by show ctRn tb cb p.ca i = ctRn tb (upN cb k B2) p.ca i; unfold ctRn; rw [upN_ne _ _ (by omega)])).five hlt (by show ctRn tb (upN cb k B2) p.ca k = _; unfold ctRn; rw [upN_same])⟩, K6⟩; clear hB4 b4 e4 o4 hF4 K4 v4 l4 B5 e5 v5 o5 o6 F6 K5 e6 v6 K6 k5 n5 b5))
      all_goals
        go_wp2
        go_roundw
        case rel => exact ⟨k + 1, by omega, by go_num, H6.out⟩
        case measure => simp [intOf]; omega
    · obtain rfl : k = tb.ctrs.length := by omega
      have hge : ¬ ((tb.ctrs.length : Int) < tb.ctrs.length) := by omega
      go_wp2
      go_ret
      obtain ⟨cb, cv, zk, hJ⟩ := HJ.out
      obtain ⟨r1, r2, r3⟩ := hJ.bo HH.out.1
      exact ⟨w.heap.size, rfl, _, _, r1, r2, r3, hJ.b⟩
end
end Go.Proofs.YthhckhifaolmkaaGreat

namespace Go.Proofs.YthhckhifaolmkaaGreat
open Go.RowKit Go.Shelf Go.Sort
open Go.Proofs.YthhckhifaolmkaaGreat.Cl (Fx Fz Ck Cb Alm psA dueA dueF U Q cP own_sl own_some own_below own_base inL ret_bool ret_int heap_lt iinfo cell_one_new take_snoc aftN)
set_option linter.unusedVariables false
set_option linter.unusedSimpArgs false

/-! ### A board that no call made -/
def NoB (w : World) (v : Value) : Prop := v = .pointer none ∨ ∃ B, v = bP B ∧ w.cell? ⟨B, 0, none⟩ = some (I 0)
theorem NoB.below {w w' : World} {v : Value} (h : NoB w v) (hb : Below w.heap.size w w') : NoB w' v := by
  rcases h with h | ⟨B, h, hc⟩
  · exact .inl h
  · exact .inr ⟨B, h, (World.cell?_of_block (hb.block B (World.block_lt_of_cell? w _ hc))).trans hc⟩
section
variable {w w' : World} {v : Value}
theorem nNone (h : NoB w v) : Calls Tryz.prog 28 #[v] w fun e w' => e = .returned (.bool true) ∧ w = w' := by
  rcases h with rfl | ⟨B, rfl, hc⟩
  · exact bnone_nil w
  · exact bnone_zero w B hc
theorem nTick (h : NoB w v) (t : Int) : Calls Tryz.prog 9 #[v, I t] w fun e w' => e = .returned (.tuple #[.slice none 0 0, I 1]) ∧ Below w.heap.size w w' := by
  have hN := nNone h
  go_enter Tryz.func9, Tryz.ntmps9
  go_wp2_with (first | (go_at_call 28; refine hN.mono ?_; rintro e w1 ⟨rfl, rfl⟩))
  go_ret2
  exact ⟨rfl, Below.refl _ _⟩
theorem nAuto (h : NoB w v) (t : Int) : Calls Tryz.prog 40 #[v, I t] w fun e w' => e = .returned (.tuple #[I 0, I 1]) ∧ Below w.heap.size w w' := by
  have hN := nNone h
  go_enter Tryz.func40, Tryz.ntmps40
  go_wp2_with (first | (go_at_call 28; refine hN.mono ?_; rintro e w1 ⟨rfl, rfl⟩))
  go_ret2
  exact ⟨rfl, Below.refl _ _⟩
theorem nNext (h : NoB w v) (t : Int) (g : Gt) : Calls Tryz.prog 23 #[v, I t, gtV g] w fun e w' => e = .returned (.tuple #[I (-1), .bool false]) ∧ Below w.heap.size w w' := by
  have hN := fun o => nNone (h.below (below_alloc w o))
  have hb := fun o => below_alloc w o
  go_enter Tryz.func23, Tryz.ntmps23
  go_wp2_with (first | (go_at_call 28; refine (hN _).mono ?_; rintro e w1 ⟨rfl, rfl⟩))
  go_ret2
  exact ⟨rfl, hb _⟩
theorem nCounters (h : NoB w v) : Calls Tryz.prog 24 #[v] w fun e w' => e = .returned (.slice none 0 0) ∧ Below w.heap.size w w' := by
  have hN := nNone h
  go_enter Tryz.func24, Tryz.ntmps24
  go_wp2_with (first | (go_at_call 28; refine hN.mono ?_; rintro e w1 ⟨rfl, rfl⟩))
  go_ret
  exact ⟨rfl, Below.refl _ _⟩
theorem nAlarms (h : NoB w v) : Calls Tryz.prog 41 #[v] w fun e w' => e = .returned (.slice none 0 0) ∧ Below w.heap.size w w' := by
  have hN := nNone h
  go_enter Tryz.func41, Tryz.ntmps41
  go_wp2_with (first | (go_at_call 28; refine hN.mono ?_; rintro e w1 ⟨rfl, rfl⟩))
  go_ret
  exact ⟨rfl, Below.refl _ _⟩
theorem nRequested (h : NoB w v) : Calls Tryz.prog 42 #[v] w fun e w' => e = .returned (.slice none 0 0) ∧ Below w.heap.size w w' := by
  have hN := nNone h
  go_enter Tryz.func42, Tryz.ntmps42
  go_wp2_with (first | (go_at_call 28; refine hN.mono ?_; rintro e w1 ⟨rfl, rfl⟩))
  go_ret
  exact ⟨rfl, Below.refl _ _⟩
theorem nIsr (h : NoB w v) (t : Int) : Calls Tryz.prog 34 #[v, I t] w fun e w' => e = .returned (.bool false) ∧ w = w' := by
  have hN := nNone h
  go_enter Tryz.func34, Tryz.ntmps34
  go_wp2_with (first | (go_at_call 28; refine hN.mono ?_; rintro e w1 ⟨rfl, rfl⟩))
  go_ret
  exact ⟨rfl, rfl⟩
theorem nRequest (h : NoB w v) (t : Int) : Calls Tryz.prog 13 #[v, I t] w fun e w' => e = .returned (I 3) ∧ Below w.heap.size w w' := by
  have hN := nIsr h t
  go_enter Tryz.func13, Tryz.ntmps13
  go_wp2_with (first | (go_at_call 34; refine hN.mono ?_; rintro e w1 ⟨rfl, rfl⟩))
  go_ret
  exact ⟨rfl, Below.refl _ _⟩
theorem nServe (h : NoB w v) (t : Int) : Calls Tryz.prog 14 #[v, I t] w fun e w' => e = .returned (I 1) ∧ Below w.heap.size w w' := by
  have hN := nNone h
  go_enter Tryz.func14, Tryz.ntmps14
  go_wp2_with (first | (go_at_call 28; refine hN.mono ?_; rintro e w1 ⟨rfl, rfl⟩))
  go_ret
  exact ⟨rfl, Below.refl _ _⟩
theorem nCalm (h : NoB w v) : Calls Tryz.prog 20 #[v] w fun e w' => e = .returned (I 1) ∧ Below w.heap.size w w' := by
  have hN := nNone h
  go_enter Tryz.func20, Tryz.ntmps20
  go_wp2_with (first | (go_at_call 28; refine hN.mono ?_; rintro e w1 ⟨rfl, rfl⟩))
  go_ret
  exact ⟨rfl, Below.refl _ _⟩
theorem nCopy (h : NoB w v) : Calls Tryz.prog 18 #[v] w fun e w' => e = .returned (.pointer none) ∧ Below w.heap.size w w' := by
  have hN := nNone h
  go_enter Tryz.func18, Tryz.ntmps18
  go_wp2_with (first | (go_at_call 28; refine hN.mono ?_; rintro e w1 ⟨rfl, rfl⟩))
  go_ret
  exact ⟨rfl, Below.refl _ _⟩
theorem nfind (h : NoB w v) (t : Int) : Calls Tryz.prog 30 #[v, I t] w fun e w' => e = .returned (.tuple #[noC, I 0, I 3]) ∧ Below w.heap.size w w' := by
  have hN := fun o => nNone (h.below (below_alloc w o))
  have hb := fun o => below_alloc w o
  have hV := heap_alloc_new w zC
  go_enter Tryz.func30, Tryz.ntmps30
  go_wp2_with (first | (go_at_call 28; refine (hN _).mono ?_; rintro e w1 ⟨rfl, rfl⟩))
  refine bodyPost_ret (res_find Tryz.results30 _ w.heap.size _ _ _ _ _ _ _ _ rfl rfl rfl hV) rfl ?_
  exact ⟨rfl, hb _⟩
theorem nLeft (h : NoB w v) (t : Int) : Calls Tryz.prog 15 #[v, I t] w fun e w' => e = .returned (.tuple #[U 0, I 3]) ∧ Below w.heap.size w w' := by
  have hF := nfind h t
  go_enter Tryz.func15, Tryz.ntmps15
  go_wp2_with (first | (go_at_call 30; refine hF.mono ?_; clear hF; rintro e w1 ⟨rfl, b1⟩))
  go_ret2
  exact ⟨rfl, b1.trans ((below_alloc w1 _).mono b1.size)⟩
theorem nRel (h : NoB w v) (t : Int) (f cy : Nat) : Calls Tryz.prog 11 #[v, I t, U f, U cy] w fun e w' => e = .returned (I 3) ∧ Below w.heap.size w w' := by
  have hF := nfind h t
  go_enter Tryz.func11, Tryz.ntmps11
  go_wp2_with (first | (go_at_call 30; refine hF.mono ?_; clear hF; rintro e w1 ⟨rfl, b1⟩))
  go_ret
  exact ⟨rfl, b1.trans ((below_alloc w1 _).mono b1.size)⟩
theorem nAbs (h : NoB w v) (t : Int) (f cy : Nat) : Calls Tryz.prog 10 #[v, I t, U f, U cy] w fun e w' => e = .returned (I 3) ∧ Below w.heap.size w w' := by
  have hF := nfind h t
  go_enter Tryz.func10, Tryz.ntmps10
  go_wp2_with (first | (go_at_call 30; refine hF.mono ?_; clear hF; rintro e w1 ⟨rfl, b1⟩))
  go_ret
  exact ⟨rfl, b1.trans ((below_alloc w1 _).mono b1.size)⟩
theorem nCancel (h : NoB w v) (t : Int) : Calls Tryz.prog 12 #[v, I t] w fun e w' => e = .returned (I 3) ∧ Below w.heap.size w w' := by
  have hF := nfind h t
  go_enter Tryz.func12, Tryz.ntmps12
  go_wp2_with (first | (go_at_call 30; refine hF.mono ?_; clear hF; rintro e w1 ⟨rfl, b1⟩))
  go_ret
  exact ⟨rfl, b1.trans ((below_alloc w1 _).mono b1.size)⟩
set_option maxRecDepth 100000 in
theorem nBase (h : NoB w v) (t : Int) : Calls Tryz.prog 39 #[v, I t] w fun e w' => e = .returned (.tuple #[.agg #[U 0, U 0, U 0], I 3]) ∧ Below w.heap.size w w' := by
  have hb0 := below_alloc w z3
  have hV0 := heap_alloc_new w z3
  have hF := nfind (h.below hb0) t
  clear h
  go_enter Tryz.func39, Tryz.ntmps39
  go_upto_region 2 with (first | (go_at_call 30; refine hF.mono ?_; clear hF; rintro e w1 ⟨rfl, b1⟩))
  have b2 := below_alloc w1 zC
  have hv2 := heap_alloc_new w1 zC
  have hq := (b2.block _ (heap_lt ((b1.block _ (heap_lt hV0)).trans hV0))).trans ((b1.block _ (heap_lt hV0)).trans hV0)
  have BB : Hid (Below w.heap.size w (w1.alloc zC)) := hb0.trans ((b1.trans (b2.mono b1.size)).mono hb0.size)
  clear b1 b2 hV0 hb0
  generalize w1.alloc zC = W at *
  generalize w1.heap.size = X1 at *
  have y1 : W.cell? ⟨X1, 1, none⟩ = some (U 0) := by rw [cell_of_row _ _ _ _ _ (0, 0) hv2]; rfl
  have y2 : W.cell? ⟨X1, 2, none⟩ = some (U 0) := by rw [cell_of_row _ _ _ _ _ (0, 0) hv2]; rfl
  have y3 : W.cell? ⟨X1, 3, none⟩ = some (U 0) := by rw [cell_of_row _ _ _ _ _ (0, 0) hv2]; rfl
  have hq1 := heap_setCell_same W w.heap.size 0 _ _ (U 0) hq
  have hq2 := heap_setCell_same _ w.heap.size 1 _ _ (U 0) hq1
  have hq3 := heap_setCell_same _ w.heap.size 2 _ _ (U 0) hq2
  have x0 : W.cell? ⟨w.heap.size, 0, none⟩ = some (.int .u32 0) := by rw [cell_of_row _ _ _ _ _ (0, 0) hq]; rfl
  have x1 : (W.setCell ⟨w.heap.size, 0, none⟩ (U 0)).cell? ⟨w.heap.size, 1, none⟩ = some (.int .u32 0) := by rw [cell_of_row _ _ _ _ _ (0, 0) hq1]; rfl
  have x2 : ((W.setCell ⟨w.heap.size, 0, none⟩ (U 0)).setCell ⟨w.heap.size, 1, none⟩ (U 0)).cell? ⟨w.heap.size, 2, none⟩ = some (.int .u32 0) := by rw [cell_of_row _ _ _ _ _ (0, 0) hq2]; rfl
  have f0 := frozen_of_row W w.heap.size 0 _ _ hq
  have f1 := frozen_of_row _ w.heap.size 1 _ _ hq1
  have f2 := frozen_of_row _ w.heap.size 2 _ _ hq2
  clear hq hq1 hq2 hv2
  go_wp2
  refine bodyPost_ret (res_base Tryz.results39 _ w.heap.size _ _ _ _ _ rfl rfl hq3) rfl ?_
  exact ⟨rfl, below_set (below_set (below_set BB.out (Nat.le_refl _)) (Nat.le_refl _)) (Nat.le_refl _)⟩
end
end Go.Proofs.YthhckhifaolmkaaGreat

namespace Go.Proofs.YthhckhifaolmkaaGreat
open Go.RowKit Go.Shelf Go.Sort
open Go.Proofs.YthhckhifaolmkaaGreat.Cl (Fx Fz Ck Cb Alm psA dueA dueF U Q cP own_sl own_some own_below own_base inL ret_bool ret_int heap_lt iinfo cell_one_new take_snoc aftN)
set_option linter.unusedVariables false
set_option linter.unusedSimpArgs false

/-! ### heads -/
abbrev g0G : Gt := ⟨false, 0, 0⟩
def hs1 : Bs := setT (oneT 9) newT 0 (Cl.relB (ctA (oneT 9) 0).min (ctA (oneT 9) 0).max 2 0) (2, 0)
def hs2 : Bs := setT (oneT 9) hs1 1 (Cl.absB (ctA (oneT 9) 1).min (ctA (oneT 9) 1).max 2 3) (Cl.untN (ctA (oneT 9) 1).max (hs1.v (ctrN (oneT 9) (1 : Int).toNat)) 2, 3)
def hs3 : Bs := tckA (oneT 9) hs2 0
def hs4 : Bs := tckA (oneT 9) hs3 0
def hs5 : Bs := reqT (oneT 9) hs4 0
section
variable {w w' : World} {zn : Nat → Nat} {B : Nat} {p : Pl}
theorem hd1 (h : Bo w zn (oneT 9) B p newT) : Calls Tryz.prog 11 #[bP B, I 0, U 2, U 0] w fun e w' => e = .returned (I 0) ∧ Bo w' zn (oneT 9) B p hs1 ∧ Fz (Wr zn) w w' := by
  have := bRel h 0 2 0 (by decide)
  rw [show setB (oneT 9) newT 0 (Cl.relB (ctA (oneT 9) 0).min (ctA (oneT 9) 0).max 2 0) = 0 by kernel_rfl] at this
  exact this
theorem hd2 (h : Bo w zn (oneT 9) B p hs1) : Calls Tryz.prog 10 #[bP B, I 1, U 2, U 3] w fun e w' => e = .returned (I 0) ∧ Bo w' zn (oneT 9) B p hs2 ∧ Fz (Wr zn) w w' := by
  have := bAbs h 1 2 3 (by decide)
  rw [show setB (oneT 9) hs1 1 (Cl.absB (ctA (oneT 9) 1).min (ctA (oneT 9) 1).max 2 3) = 0 by kernel_rfl] at this
  exact this
theorem hd3 (h : Bo w zn (oneT 9) B p hs2) : Calls Tryz.prog 9 #[bP B, I 0] w fun e w' => ∃ u, e = .returned (.tuple #[u, I 0]) ∧ w'.ownsRow w.heap.size 3 1 u 0 [] ∧ Bo w' zn (oneT 9) B p hs3 ∧ Fz (Wr zn) w w' := by
  have := bTick h 0
  rw [show tckS (oneT 9) 0 = 0 by kernel_rfl, show tckL (oneT 9) hs2 0 = [] by kernel_rfl] at this
  exact this
theorem hd4 (h : Bo w zn (oneT 9) B p hs3) : Calls Tryz.prog 9 #[bP B, I 0] w fun e w' => ∃ u, e = .returned (.tuple #[u, I 0]) ∧ w'.ownsRow w.heap.size 3 1 u 2 [I 0, I 1] ∧ Bo w' zn (oneT 9) B p hs4 ∧ Fz (Wr zn) w w' := by
  have := bTick h 0
  rw [show tckS (oneT 9) 0 = 0 by kernel_rfl, show tckL (oneT 9) hs3 0 = [0, 1] by kernel_rfl] at this
  exact this
theorem hd5 (h : Bo w zn (oneT 9) B p hs4) : Calls Tryz.prog 13 #[bP B, I 0] w fun e w' => e = .returned (I 0) ∧ Bo w' zn (oneT 9) B p hs5 ∧ Fz (Wr zn) w w' := by
  have := bRequest h 0
  rw [show reqS (oneT 9) 0 = 0 by kernel_rfl] at this
  exact this
theorem hd6 (h : Bo w zn (oneT 9) B p hs5) : Calls Tryz.prog 23 #[bP B, I 69, gtV g0G] w fun e w' => e = .returned (.tuple #[I 0, .bool true]) ∧ Below w.heap.size w w' := by
  have := bNext h 69 g0G
  rw [show (nxL (oneT 9) hs5.q g0G 69 (oneT 9).isrs.length).1 = 0 by kernel_rfl] at this
  exact this
theorem hd7 (h : Bo w zn (oneT 9) B p hs5) : Calls Tryz.prog 23 #[bP B, I 70, gtV g0G] w fun e w' => e = .returned (.tuple #[I (-1), .bool false]) ∧ Below w.heap.size w w' := by
  have := bNext h 70 g0G
  rw [show (nxL (oneT 9) hs5.q g0G 70 (oneT 9).isrs.length).1 = -1 by kernel_rfl] at this
  exact this
theorem hd8 (h : Bo w zn (oneT 9) B p hs5) : Calls Tryz.prog 24 #[bP B] w fun e w' => ∃ u, e = .returned u ∧ w'.ownsRow w.heap.size 22 1 u 1 [U 2] ∧ Below w.heap.size w w' := by
  have := bCounters h
  rw [show flat (valF hs5) (oneT 9).ctrs.length = [U 2] by kernel_rfl, show (oneT 9).ctrs.length = 1 from rfl] at this
  exact this
end
set_option maxRecDepth 100000 in
set_option maxHeartbeats 16000000 in
theorem heads21 (w : World) : Calls Tryz.prog 6 #[] w fun e w' => e = .returned (.bool true) ∧ Below w.heap.size w w' := by
  have hO := One_any w 9
  go_enter Tryz.func6, Tryz.ntmps6
  go_upto_region 2 with (first
    | (go_at_call 8; refine hO.mono ?_; clear hO; rintro e w1 ⟨v, rfl, ht, b1⟩; have hN := bNew_ok ht (one_wf (by decide)) one_chk9)
    | (go_at_call 7; refine hN.mono ?_; clear hN; rintro e w2 ⟨B, rfl, p, zn, h2, z2, b2⟩))
  have K2 : Hid (Bo w2 zn (oneT 9) B p newT ∧ Below w.heap.size w w2 ∧ ∀ b, zn b ≠ 0 → w.heap.size ≤ b) := ⟨h2, b1.trans (b2.mono b1.size), fun b e => Nat.le_trans b1.size (z2 b e)⟩
  clear ht b1 h2 b2 z2
  have HS : Hid (∀ {W W' : World}, Below w.heap.size w W → Fz (Wr zn) W W' → Below w.heap.size w W') := fun h hf => h.trans (hf.below h.size (fun b hb => K2.out.2.2 b (by rcases hb with e | e <;> omega)))
  have hc := hd1 K2.out.1
  go_upto_region 5 with (first | (go_at_call 11; refine hc.mono ?_; clear hc; rintro e w3 ⟨rfl, kk, ff⟩))
  have K3 : Hid (Bo w3 zn (oneT 9) B p hs1 ∧ Below w.heap.size w w3) := ⟨kk, HS.out K2.out.2.1 ff⟩
  clear kk ff
  have hc := hd2 K3.out.1
  go_upto_region 6 with (first | (go_at_call 10; refine hc.mono ?_; clear hc; rintro e w4 ⟨rfl, kk, ff⟩))
  have K4 : Hid (Bo w4 zn (oneT 9) B p hs2 ∧ Below w.heap.size w w4) := ⟨kk, HS.out K3.out.2 ff⟩
  clear kk ff
  have hc := hd3 K4.out.1
  go_upto_region 7 with (first | (go_at_call 9; refine hc.mono ?_; clear hc; rintro e w5 ⟨u5, rfl, oo, kk, ff⟩; obtain ⟨xa, xc, rfl⟩ := own_sl oo))
  have K5 : Hid (Bo w5 zn (oneT 9) B p hs3 ∧ Below w.heap.size w w5) := ⟨kk, HS.out K4.out.2 ff⟩
  clear kk ff oo
  have hc := hd4 K5.out.1
  go_upto_region 8 with (first | (go_at_call 9; refine hc.mono ?_; clear hc; rintro e w6 ⟨u6, rfl, oo, kk, ff⟩; obtain ⟨yg, yc, rfl⟩ := own_some oo (by omega)))
  have NY : Hid (¬ Wr zn yg) := fun e => by have := K5.out.1.zs yg (by rcases e with e | e <;> omega); have := (oo.lt yg rfl).1; omega
  have K6 : Hid (Bo w6 zn (oneT 9) B p hs4 ∧ Below w.heap.size w w6 ∧ w6.ownsRow w5.heap.size 3 1 (.slice (some ⟨yg, 0, none⟩) 2 yc) 2 [I 0, I 1]) := ⟨kk, HS.out K5.out.2 ff, oo⟩
  clear kk ff oo
  have hc := hd5 K6.out.1
  go_upto_region 9 with (first | (go_at_call 13; refine hc.mono ?_; clear hc; rintro e w7 ⟨rfl, kk, ff⟩))
  have K7 : Hid (Bo w7 zn (oneT 9) B p hs5 ∧ Below w.heap.size w w7 ∧ w7.ownsRow w5.heap.size 3 1 (.slice (some ⟨yg, 0, none⟩) 2 yc) 2 [I 0, I 1]) := ⟨kk, HS.out K6.out.2.1 ff, ff.own K6.out.2.2 (fun g e => by cases e; exact NY.out)⟩
  clear kk ff
  have hc := hd6 K7.out.1
  go_upto_region 10 with (first | (go_at_call 23; refine hc.mono ?_; clear hc; rintro e w8 ⟨rfl, bb⟩))
  have K8 : Hid (Bo w8 zn (oneT 9) B p hs5 ∧ Below w.heap.size w w8 ∧ w8.ownsRow w5.heap.size 3 1 (.slice (some ⟨yg, 0, none⟩) 2 yc) 2 [I 0, I 1]) := ⟨K7.out.1.below bb, K7.out.2.1.trans (bb.mono K7.out.2.1.size), own_below K7.out.2.2 bb⟩
  clear bb
  have hc := hd7 K8.out.1
  go_upto_region 11 with (first | (go_at_call 23; refine hc.mono ?_; clear hc; rintro e w9 ⟨rfl, bb⟩))
  have K9 : Hid (Bo w9 zn (oneT 9) B p hs5 ∧ Below w.heap.size w w9 ∧ w9.ownsRow w5.heap.size 3 1 (.slice (some ⟨yg, 0, none⟩) 2 yc) 2 [I 0, I 1]) := ⟨K8.out.1.below bb, K8.out.2.1.trans (bb.mono K8.out.2.1.size), own_below K8.out.2.2 bb⟩
  clear bb
  have hc := hd8 K9.out.1
  go_upto_region 12 with (first | (go_at_call 24; refine hc.mono ?_; clear hc; rintro e w10 ⟨u10, rfl, oo, bb⟩; obtain ⟨vg, vc, rfl⟩ := own_some oo (by omega)))
  have oy := own_below K9.out.2.2 bb
  have y1 : w10.cell? ⟨yg, 1, none⟩ = some (I 1) := by rw [oy.cellAt _ (by omega)]; rfl
  have v0 : w10.cell? ⟨vg, 0, none⟩ = some (U 2) := by rw [oo.cellAt _ (by omega)]; rfl
  have BE : Hid (Below w.heap.size w w10) := K9.out.2.1.trans (bb.mono K9.out.2.1.size)
  clear oo bb oy K2 K3 K4 K5 K6 K7 K8 K9 NY HS
  go_wp2
  go_ret
  exact ⟨rfl, BE.out⟩
end Go.Proofs.YthhckhifaolmkaaGreat

