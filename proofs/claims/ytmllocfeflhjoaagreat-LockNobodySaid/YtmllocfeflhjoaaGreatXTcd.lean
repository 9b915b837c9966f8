import Derived.Test.YtmllocfeflhjoaaGreatXQc
import Derived.Deep.Cut
import Derived.Shelf.Abstract
namespace Go.Proofs.YtmllocfeflhjoaaGreat
open Go.RowKit Go.Maps Go.Shelf Go.Sort
open Go.Proofs.YtmllocfeflhjoaaGreat.St (Fx Fz iQ iP)
set_option linter.unusedVariables false
set_option linter.unusedSimpArgs false

/-! ### find, asker -/
section
variable {w w' : World} {tb : Tb} {Z : Nat → Prop} {y : Ly} {B : Nat} {s : Ls}
theorem Lk.cells (h : Lk w tb Z y B s) : w.cell? ⟨B, 0, none⟩ = some (.slice y.rs.a y.rs.n y.rs.c) ∧ w.cell? ⟨B, 1, none⟩ = some (.map (some y.mo)) ∧ w.cell? ⟨B, 2, none⟩ = some (.map (some y.mh)) ∧ w.cell? ⟨B, 3, none⟩ = some (.bool s.g.shut) ∧ w.cell? ⟨B, 4, none⟩ = some (I s.g.all) ∧ w.cell? ⟨B, 5, none⟩ = some (I s.g.os) := by
  refine ⟨?_, ?_, ?_, ?_, ?_, ?_⟩ <;> (rw [cell_of_row w B _ _ _ (0, 0) h.o]; rfl)
theorem Lk.frz (h : Lk w tb Z y B s) (j : Nat) : w.frozen? ⟨B, j, none⟩ = false := frozen_of_row w B j _ _ h.o
theorem equalIn_map_nil {P : Program} (w : World) (d : Nat) (t k e : TypeId) (p : Option Nat) (h : P.underlying t = some (.map k e)) : (Op.equalIn (d + 1) t (.map p) (.map none)).run P w = .ok p.isNone w := by
  cases p <;> simp [Op.equalIn, run_underlying h]
theorem eql_map_nil {P : Program} (w : World) (t k e : TypeId) (p : Option Nat) (h : P.underlying t = some (.map k e)) : (binOp .eql t (.map p) (.map none)).run P w = .ok (.bool p.isNone) w := by
  simp only [binOp]
  simp [show Op.equal t (.map p) (.map none) = Op.equalIn (9999 + 1) t (.map p) (.map none) from rfl, equalIn_map_nil w 9999 t k e p h]
set_option maxHeartbeats 2000000 in
set_option maxRecDepth 100000 in
theorem none_any (h : Lk w tb Z y B s) : Calls Tryz.prog 35 #[lp B] w fun e w' => e = .returned (.bool false) ∧ w' = w := by
  obtain ⟨c0, c1, c2, c3, c4, c5⟩ := h.cells
  have hq := fun w => eql_map_nil w 29 _ _ (some y.mo) Tryz.underlying29
  clear h
  go_enter Tryz.func35, Tryz.ntmps35
  go_wp2
  go_ret
  exact ⟨rfl, rfl⟩
theorem box_own (w : World) (o : Own) : (w.alloc (.cells #[.bool o.isr, I o.id] 23)).cell? ⟨w.heap.size, 0, none⟩ = some (.bool o.isr) ∧ (w.alloc (.cells #[.bool o.isr, I o.id] 23)).cell? ⟨w.heap.size, 1, none⟩ = some (I o.id) := by
  refine ⟨?_, ?_⟩ <;> (rw [cell_of_row _ _ _ _ _ (0, 0) (heap_alloc_new w _)]; rfl)
theorem OwM.drewN {w : World} {b n : Nat} {p : Own → Option Nat} (h : OwM w b n p) (k : Nat) : OwM (w.drewN k) b n p := h.kept ((St.below_drewN k (Below.refl w.heap.size w)).block b h.lt)
set_option maxHeartbeats 2000000 in
set_option maxRecDepth 100000 in
theorem find_any (h : Lk w tb Z y B s) (o : Own) (ho : o.wf) : Calls Tryz.prog 58 #[lp B, .agg #[.bool o.isr, I o.id]] w fun e w' => e = .returned (.tuple #[opV (y.p o), .bool (y.p o).isSome]) ∧ Below w.heap.size w w' := by
  have hb := below_alloc w (.cells #[.bool o.isr, I o.id] 23)
  obtain ⟨y0, y1⟩ := box_own w o
  have h1 := h.below hb
  have hN := none_any h1
  have hl : ∀ n, (Instr.lookup 29 (.map (some y.mo)) (.agg #[.bool o.isr, I o.id]) true).run Tryz.prog ((w.alloc (.cells #[.bool o.isr, I o.id] 23)).drewN n) = .ok (.tuple #[opV (y.p o), .bool (y.p o).isSome]) ((w.alloc (.cells #[.bool o.isr, I o.id] 23)).drewN n) := fun n => (h1.m.drewN n).look o ho
  obtain ⟨c0, c1, c2, c3, c4, c5⟩ := h1.cells
  have HB : Hid (∀ n, Below w.heap.size w ((w.alloc (.cells #[.bool o.isr, I o.id] 23)).drewN n)) := fun n => St.below_drewN n hb
  clear h h1 hb
  go_enter Tryz.func58, Tryz.ntmps58
  go_upto_region 1 with fail
  generalize w.alloc (.cells #[.bool o.isr, I o.id] 23) = w1 at *
  go_upto_region 3 with (first | (go_at_call 35; refine hN.mono ?_; clear hN; rintro e w2 ⟨rfl, rfl⟩))
  go_quiet (fail)
  go_wp2
  go_ret2
  exact ⟨rfl, HB.out _⟩

/-- May this one ask for this resource? -/
def asks (tb : Tb) (o : Own) (r : Int) : Bool := (obs tb o).isSome && decide (0 ≤ r) && (match tb.ress[r.toNat]? with | some x => !x.inner | none => false)
theorem Lk.some_iff (h : Lk w tb Z y B s) (o : Own) : (y.p o).isSome = (obs tb o).isSome := by
  cases ho : obs tb o with
  | none => rw [h.pn o ho]; rfl
  | some b => obtain ⟨_, q, hq, _⟩ := h.ps o b ho; rw [hq]; rfl
theorem Lk.res (h : Lk w tb Z y B s) {j : Nat} {x : RsR} (hj : tb.ress[j]? = some x) : ∃ g off, y.rs.a = some ⟨g, off, none⟩ ∧ g < w.heap.size ∧ w.cell? ⟨g, off + j * 2, none⟩ = some (.bool x.inner) ∧ w.cell? ⟨g, off + j * 2 + 1, none⟩ = some (I x.ceil) := by
  obtain ⟨g, off, e, hg, hr⟩ := h.r.row j x hj
  obtain ⟨u0, a0, b0⟩ := hr 0 (by omega)
  have e0 : u0 = .bool x.inner := b0
  rw [e0] at a0
  obtain ⟨u1, a1, b1⟩ := hr 1 (by omega)
  have e1 : u1 = I x.ceil := b1
  rw [e1] at a1
  exact ⟨g, off, e, hg, a0, a1⟩
theorem Lk.rn (h : Lk w tb Z y B s) : y.rs.n = tb.ress.length ∧ y.rs.n ≤ y.rs.c ∧ y.rs.c ≤ 9223372036854775807 := ⟨h.r.n, h.r.c, h.r.m⟩
set_option maxHeartbeats 2000000 in
set_option maxRecDepth 100000 in
theorem asker_no (h : Lk w tb Z y B s) (o : Own) (ho : o.wf) (r : Int) (hr : asks tb o r = false) : Calls Tryz.prog 38 #[lp B, .agg #[.bool o.isr, I o.id], I r] w fun e w' => e = .returned (.tuple #[.pointer none, I 3]) ∧ Below w.heap.size w w' := by
  have hb := below_alloc w (.cells #[.bool o.isr, I o.id] 23)
  obtain ⟨y0, y1⟩ := box_own w o
  have h1 := h.below hb
  have hF := find_any h1 o ho
  have HL : Hid (∀ w', Below (w.alloc (.cells #[.bool o.isr, I o.id] 23)).heap.size (w.alloc (.cells #[.bool o.isr, I o.id] 23)) w' → Lk w' tb Z y B s) := fun w' hb' => h1.below hb'
  have HB : Hid (∀ w', Below (w.alloc (.cells #[.bool o.isr, I o.id] 23)).heap.size (w.alloc (.cells #[.bool o.isr, I o.id] 23)) w' → Below w.heap.size w w') := fun w' hb' => hb.trans (hb'.mono (by simp))
  have HS : Hid ((y.p o).isSome = (obs tb o).isSome) := h.some_iff o
  clear h h1 hb
  go_enter Tryz.func38, Tryz.ntmps38
  go_upto_region 1 with fail
  generalize w.alloc (.cells #[.bool o.isr, I o.id] 23) = w1 at *
  go_upto_region 2 with (first | (go_at_call 58; refine hF.mono ?_; clear hF; rintro e w2 ⟨rfl, hb2⟩))
  have h2 := HL.out _ hb2
  have HB2 : Hid (Below w.heap.size w w2) := HB.out _ hb2
  clear HL HB hb2 y0 y1
  obtain ⟨c0, c1, c2, c3, c4, c5⟩ := h2.cells
  obtain ⟨n1, n2, n3⟩ := h2.rn
  have hS := HS.out
  generalize hz : (y.p o).isSome = z at *
  cases z with
  | false =>
    clear h2 n1 n2 n3 hS hz hr c0 c1 c2 c3 c4 c5
    go_wp2
    go_ret2
    exact ⟨rfl, HB2.out⟩
  | true =>
    by_cases hr0 : r < 0
    · clear h2 n1 n2 n3 hS hz hr c1 c2 c3 c4 c5
      go_wp2
      go_ret2
      exact ⟨rfl, HB2.out⟩
    · by_cases hr1 : r < tb.ress.length
      · obtain ⟨k, rfl⟩ := Int.eq_ofNat_of_zero_le (Int.not_lt.1 hr0)
        obtain ⟨x, hx⟩ : ∃ x, tb.ress[k]? = some x := ⟨_, List.getElem?_eq_getElem (by omega)⟩
        have hin : x.inner = true := by
          unfold asks at hr
          rw [← hS] at hr
          simp [hx] at hr
          exact hr
        obtain ⟨g, off, e1, hg, q0, q1⟩ := h2.res hx
        rw [hin] at q0
        rw [e1] at c0
        have hk1 : (k : Int) < y.rs.n := by omega
        have hk2 : ¬ ((k : Int) < 0) := by omega
        clear h2 n1 hx hr hr0 hr1 hin e1 hS hz
        go_wp2
        go_ret2
        exact ⟨rfl, HB2.out⟩
      · have hk1 : (y.rs.n : Int) ≤ r := by omega
        clear h2 n1 hr hr1 hS hz
        go_wp2
        go_ret2
        exact ⟨rfl, HB2.out⟩
set_option maxHeartbeats 2000000 in
set_option maxRecDepth 100000 in
theorem asker_ok (h : Lk w tb Z y B s) (o : Own) (ho : o.wf) (r : Int) (hr : asks tb o r = true) (q : Nat) (hq : y.p o = some q) : Calls Tryz.prog 38 #[lp B, .agg #[.bool o.isr, I o.id], I r] w fun e w' => e = .returned (.tuple #[lp q, I 0]) ∧ Below w.heap.size w w' := by
  have hb := below_alloc w (.cells #[.bool o.isr, I o.id] 23)
  obtain ⟨y0, y1⟩ := box_own w o
  have h1 := h.below hb
  have hF := find_any h1 o ho
  rw [hq] at hF
  have HL : Hid (∀ w', Below (w.alloc (.cells #[.bool o.isr, I o.id] 23)).heap.size (w.alloc (.cells #[.bool o.isr, I o.id] 23)) w' → Lk w' tb Z y B s) := fun w' hb' => h1.below hb'
  have HB : Hid (∀ w', Below (w.alloc (.cells #[.bool o.isr, I o.id] 23)).heap.size (w.alloc (.cells #[.bool o.isr, I o.id] 23)) w' → Below w.heap.size w w') := fun w' hb' => hb.trans (hb'.mono (by simp))
  clear h h1 hb
  go_enter Tryz.func38, Tryz.ntmps38
  go_upto_region 1 with fail
  generalize w.alloc (.cells #[.bool o.isr, I o.id] 23) = w1 at *
  go_upto_region 2 with (first | (go_at_call 58; refine hF.mono ?_; clear hF; rintro e w2 ⟨rfl, hb2⟩))
  have h2 := HL.out _ hb2
  have HB2 : Hid (Below w.heap.size w w2) := HB.out _ hb2
  clear HL HB hb2 y0 y1
  obtain ⟨c0, c1, c2, c3, c4, c5⟩ := h2.cells
  obtain ⟨n1, n2, n3⟩ := h2.rn
  unfold asks at hr
  simp only [Bool.and_eq_true, decide_eq_true_eq] at hr
  obtain ⟨⟨hr0, hr1⟩, hr2⟩ := hr
  obtain ⟨k, rfl⟩ := Int.eq_ofNat_of_zero_le hr1
  simp only [Int.toNat_natCast] at hr2
  split at hr2
  · rename_i x hx
    obtain ⟨g, off, e1, hg, q0, q1⟩ := h2.res hx
    have hin : x.inner = false := by simpa using hr2
    rw [hin] at q0
    rw [e1] at c0
    have hk0 : k < tb.ress.length := (List.getElem?_eq_some_iff.1 hx).1
    have hk1 : (k : Int) < y.rs.n := by omega
    have hk2 : ¬ ((k : Int) < 0) := by omega
    simp only [opV, Option.isSome_some]
    clear h2 n1 hx hr0 hr1 hin e1 hr2 hq
    go_wp2
    go_ret2
    exact ⟨rfl, HB2.out⟩
  · cases hr2
end
end Go.Proofs.YtmllocfeflhjoaaGreat

namespace Go.Proofs.YtmllocfeflhjoaaGreat
open Go.RowKit
set_option linter.unusedVariables false
set_option linter.unusedSimpArgs false

/-! ### Tables: the small checks -/
theorem ret_bool' {a b : Bool} (h : a = b) : Ending.returned (.bool a) = Ending.returned (.bool b) := by rw [h]
set_option maxRecDepth 100000 in
theorem withinI_any (v lo hi : Int) (w : World) : Calls Tryz.prog 95 #[I v, I lo, I hi] w fun e w' => e = .returned (.bool (inI v lo hi)) ∧ w' = w := by
  unfold inI
  go_enter Tryz.func95, Tryz.ntmps95
  by_cases h1 : lo ≤ v
  · by_cases h2 : v ≤ hi
    · go_wp2
      go_ret
      exact ⟨ret_bool' (by first | (rw [Bool.eq_iff_iff]; simp; omega) | (simp; omega) | (simp_all; done)), rfl⟩
    · have h2' : hi < v := by omega
      go_wp2
      go_ret
      exact ⟨ret_bool' (by first | (rw [Bool.eq_iff_iff]; simp; omega) | (simp; omega) | (simp_all; done)), rfl⟩
  · have h1' : v < lo := by omega
    go_wp2
    go_ret
    exact ⟨ret_bool' (by first | (rw [Bool.eq_iff_iff]; simp; omega) | (simp; omega) | (simp_all; done)), rfl⟩
set_option maxRecDepth 100000 in
theorem withinK_any (v lo hi : Int) (w : World) : Calls Tryz.prog 133 #[I v, I lo, I hi] w fun e w' => e = .returned (.bool (inI v lo hi)) ∧ w' = w := by
  unfold inI
  go_enter Tryz.func133, Tryz.ntmps133
  by_cases h1 : lo ≤ v
  · by_cases h2 : v ≤ hi
    · go_wp2
      go_ret
      exact ⟨ret_bool' (by first | (rw [Bool.eq_iff_iff]; simp; omega) | (simp; omega) | (simp_all; done)), rfl⟩
    · have h2' : hi < v := by omega
      go_wp2
      go_ret
      exact ⟨ret_bool' (by first | (rw [Bool.eq_iff_iff]; simp; omega) | (simp; omega) | (simp_all; done)), rfl⟩
  · have h1' : v < lo := by omega
    go_wp2
    go_ret
    exact ⟨ret_bool' (by first | (rw [Bool.eq_iff_iff]; simp; omega) | (simp; omega) | (simp_all; done)), rfl⟩
set_option maxRecDepth 100000 in
theorem withinU_any (v lo hi : Nat) (w : World) : Calls Tryz.prog 108 #[.int .u32 (v : Int), .int .u32 (lo : Int), .int .u32 (hi : Int)] w fun e w' => e = .returned (.bool (decide (lo ≤ v) && decide (v ≤ hi))) ∧ w' = w := by
  go_enter Tryz.func108, Tryz.ntmps108
  by_cases h1 : lo ≤ v
  · have g1 : (lo : Int) ≤ v := by omega
    by_cases h2 : v ≤ hi
    · have g2 : (v : Int) ≤ hi := by omega
      go_wp2
      go_ret
      exact ⟨ret_bool' (by first | (rw [Bool.eq_iff_iff]; simp; omega) | (simp; omega) | (simp_all; done)), rfl⟩
    · have g2 : ¬ (v : Int) ≤ hi := by omega
      go_wp2
      go_ret
      exact ⟨ret_bool' (by first | (rw [Bool.eq_iff_iff]; simp; omega) | (simp; omega) | (simp_all; done)), rfl⟩
  · have g1 : ¬ (lo : Int) ≤ v := by omega
    go_wp2
    go_ret
    exact ⟨ret_bool' (by first | (rw [Bool.eq_iff_iff]; simp; omega) | (simp; omega) | (simp_all; done)), rfl⟩
set_option maxRecDepth 100000 in
theorem isID_rings (v : Int) (s : Sl) (w : World) : Calls Tryz.prog 102 #[I v, .slice s.a s.n s.c] w fun e w' => e = .returned (.bool (idB v s.n)) ∧ w' = w := by
  unfold idB
  go_enter Tryz.func102, Tryz.ntmps102
  by_cases h1 : 0 ≤ v
  · by_cases h2 : v < (s.n : Int)
    · go_wp2
      go_ret
      exact ⟨ret_bool' (by first | (rw [Bool.eq_iff_iff]; simp; omega) | (simp; omega) | (simp_all; done)), rfl⟩
    · go_wp2
      go_ret
      exact ⟨ret_bool' (by first | (rw [Bool.eq_iff_iff]; simp; omega) | (simp; omega) | (simp_all; done)), rfl⟩
  · have h1' : v < 0 := by omega
    go_wp2
    go_ret
    exact ⟨ret_bool' (by first | (rw [Bool.eq_iff_iff]; simp; omega) | (simp; omega) | (simp_all; done)), rfl⟩
set_option maxRecDepth 100000 in
theorem isID_ctrs (v : Int) (s : Sl) (w : World) : Calls Tryz.prog 111 #[I v, .slice s.a s.n s.c] w fun e w' => e = .returned (.bool (idB v s.n)) ∧ w' = w := by
  unfold idB
  go_enter Tryz.func111, Tryz.ntmps111
  by_cases h1 : 0 ≤ v
  · by_cases h2 : v < (s.n : Int)
    · go_wp2
      go_ret
      exact ⟨ret_bool' (by first | (rw [Bool.eq_iff_iff]; simp; omega) | (simp; omega) | (simp_all; done)), rfl⟩
    · go_wp2
      go_ret
      exact ⟨ret_bool' (by first | (rw [Bool.eq_iff_iff]; simp; omega) | (simp; omega) | (simp_all; done)), rfl⟩
  · have h1' : v < 0 := by omega
    go_wp2
    go_ret
    exact ⟨ret_bool' (by first | (rw [Bool.eq_iff_iff]; simp; omega) | (simp; omega) | (simp_all; done)), rfl⟩
set_option maxRecDepth 100000 in
theorem isID_ress (v : Int) (s : Sl) (w : World) : Calls Tryz.prog 132 #[I v, .slice s.a s.n s.c] w fun e w' => e = .returned (.bool (idB v s.n)) ∧ w' = w := by
  unfold idB
  go_enter Tryz.func132, Tryz.ntmps132
  by_cases h1 : 0 ≤ v
  · by_cases h2 : v < (s.n : Int)
    · go_wp2
      go_ret
      exact ⟨ret_bool' (by first | (rw [Bool.eq_iff_iff]; simp; omega) | (simp; omega) | (simp_all; done)), rfl⟩
    · go_wp2
      go_ret
      exact ⟨ret_bool' (by first | (rw [Bool.eq_iff_iff]; simp; omega) | (simp; omega) | (simp_all; done)), rfl⟩
  · have h1' : v < 0 := by omega
    go_wp2
    go_ret
    exact ⟨ret_bool' (by first | (rw [Bool.eq_iff_iff]; simp; omega) | (simp; omega) | (simp_all; done)), rfl⟩
set_option maxRecDepth 100000 in
theorem isID_tasks (v : Int) (s : Sl) (w : World) : Calls Tryz.prog 134 #[I v, .slice s.a s.n s.c] w fun e w' => e = .returned (.bool (idB v s.n)) ∧ w' = w := by
  unfold idB
  go_enter Tryz.func134, Tryz.ntmps134
  by_cases h1 : 0 ≤ v
  · by_cases h2 : v < (s.n : Int)
    · go_wp2
      go_ret
      exact ⟨ret_bool' (by first | (rw [Bool.eq_iff_iff]; simp; omega) | (simp; omega) | (simp_all; done)), rfl⟩
    · go_wp2
      go_ret
      exact ⟨ret_bool' (by first | (rw [Bool.eq_iff_iff]; simp; omega) | (simp; omega) | (simp_all; done)), rfl⟩
  · have h1' : v < 0 := by omega
    go_wp2
    go_ret
    exact ⟨ret_bool' (by first | (rw [Bool.eq_iff_iff]; simp; omega) | (simp; omega) | (simp_all; done)), rfl⟩
set_option maxRecDepth 100000 in
theorem isID_msgs (v : Int) (s : Sl) (w : World) : Calls Tryz.prog 135 #[I v, .slice s.a s.n s.c] w fun e w' => e = .returned (.bool (idB v s.n)) ∧ w' = w := by
  unfold idB
  go_enter Tryz.func135, Tryz.ntmps135
  by_cases h1 : 0 ≤ v
  · by_cases h2 : v < (s.n : Int)
    · go_wp2
      go_ret
      exact ⟨ret_bool' (by first | (rw [Bool.eq_iff_iff]; simp; omega) | (simp; omega) | (simp_all; done)), rfl⟩
    · go_wp2
      go_ret
      exact ⟨ret_bool' (by first | (rw [Bool.eq_iff_iff]; simp; omega) | (simp; omega) | (simp_all; done)), rfl⟩
  · have h1' : v < 0 := by omega
    go_wp2
    go_ret
    exact ⟨ret_bool' (by first | (rw [Bool.eq_iff_iff]; simp; omega) | (simp; omega) | (simp_all; done)), rfl⟩
end Go.Proofs.YtmllocfeflhjoaaGreat

namespace Go.Proofs.YtmllocfeflhjoaaGreat
open Go.RowKit
set_option linter.unusedVariables false
set_option linter.unusedSimpArgs false

def tkrC (x : TkR) (s : Sl) : Array Value := #[I x.prio, I x.ring, .bool x.full, I x.limit, .int .u32 (x.mask : Int), I x.inner, .slice s.a s.n s.c, .int .u32 (x.auto : Int)]
def ctrC (x : CtR) : Array Value := #[.int .u32 (x.max : Int), .int .u32 (x.base : Int), .int .u32 (x.min : Int)]
def acrC (x : AcR) : Array Value := #[I x.kind, I x.task, .int .u32 (x.mask : Int)]
def alrC (x : AlR) : Array Value := #[I x.ctr, I x.ac.kind, I x.ac.task, .int .u32 (x.ac.mask : Int), .int .u32 (x.auto : Int), .int .u32 (x.time : Int), .int .u32 (x.cycle : Int)]
def isrC (x : IsR) (s : Sl) : Array Value := #[I x.cat, I x.prio, .slice s.a s.n s.c]
def msrC (x : MsR) : Array Value := #[I x.kind, I x.len, I x.frm, .int .u64 (x.init : Int), I x.queue, I x.ac.kind, I x.ac.task, .int .u32 (x.ac.mask : Int)]
set_option maxHeartbeats 4000000 in
set_option maxRecDepth 100000 in
theorem limitFits_any (x : TkR) (s : Sl) (w : World) : Calls Tryz.prog 103 #[.agg (tkrC x s)] w fun e w' => e = .returned (.bool (limitB x)) ∧ Below w.heap.size w w' := by
  have hb : ∀ o, Below w.heap.size w (w.alloc o) := fun o => below_alloc w o
  unfold tkrC at *
  have k1 := withinI_any x.limit 1 255
  unfold limitB
  go_enter Tryz.func103, Tryz.ntmps103
  by_cases h0 : x.mask = 0
  · have h0' : ((x.mask : Int) != 0) = false := by simp [h0]
    have H0 : Hid (x.mask = 0) := h0
    clear h0
    go_wp2_with (go_at_call 95; refine (k1 _).mono ?_; rintro e w' ⟨rfl, rfl⟩)
    go_ret
    exact ⟨ret_bool' (by simp [H0.out]), hb _⟩
  · have h0' : ((x.mask : Int) != 0) = true := by simpa using h0
    have H0 : Hid (¬ x.mask = 0) := h0
    clear h0
    go_wp2
    go_ret
    exact ⟨ret_bool' (by simp [H0.out]), hb _⟩
set_option maxHeartbeats 4000000 in
set_option maxRecDepth 100000 in
theorem autoFits_any (tb : Tb) (v : Ts) (a : Nat) (ha : a < 4294967296) (hm : 1 ≤ tb.modes ∧ tb.modes ≤ 8) (w : World) : Calls Tryz.prog 105 #[.agg (tbC tb v), .int .u32 (a : Int)] w fun e w' => e = .returned (.bool (autoB tb a)) ∧ Below w.heap.size w w' := by
  have hb : ∀ o, Below w.heap.size w (w.alloc o) := fun o => below_alloc w o
  unfold tbC at *
  unfold autoB
  generalize tb.modes = m at *
  have : m = 1 ∨ m = 2 ∨ m = 3 ∨ m = 4 ∨ m = 5 ∨ m = 6 ∨ m = 7 ∨ m = 8 := by omega
  go_enter Tryz.func105, Tryz.ntmps105
  rcases this with rfl | rfl | rfl | rfl | rfl | rfl | rfl | rfl
  all_goals
    go_wp2
    go_ret
    exact ⟨ret_bool' (by rw [Bool.eq_iff_iff]; simp; omega), hb _⟩
set_option maxHeartbeats 4000000 in
set_option maxRecDepth 100000 in
theorem areApart_any (x y : IsR) (s t : Sl) (w : World) : Calls Tryz.prog 117 #[.agg (isrC x s), .agg (isrC y t)] w fun e w' => e = .returned (.bool (apartB x y)) ∧ Below w.heap.size w w' := by
  have hb : ∀ o p, Below w.heap.size w ((w.alloc o).alloc p) := fun o p => ((Below.refl w.heap.size w).alloc (Nat.le_refl _) o).alloc (by simp) p
  unfold isrC at *
  unfold apartB
  generalize x.prio = a at *
  generalize y.prio = b at *
  generalize x.cat = c at *
  generalize y.cat = d at *
  obtain ⟨R, hR⟩ : ∃ R, R = ((a != b) && (c == d || (decide (c < d) == decide (b < a)))) := ⟨_, rfl⟩
  rw [← hR]
  have HR : Hid (R = ((a != b) && (c == d || (decide (c < d) == decide (b < a))))) := hR
  clear hR
  go_enter Tryz.func117, Tryz.ntmps117
  cases h1 : (a != b)
  · go_wp2
    go_ret
    exact ⟨ret_bool' (by rw [HR.out, h1]; rfl), hb _ _⟩
  · cases h2 : (c == d)
    · go_wp2
      go_ret
      exact ⟨ret_bool' (by rw [HR.out, h1, h2]; simp), hb _ _⟩
    · go_wp2
      go_ret
      exact ⟨ret_bool' (by rw [HR.out, h1, h2]; rfl), hb _ _⟩
set_option maxHeartbeats 4000000 in
set_option maxRecDepth 100000 in
theorem timesFit_any (x : AlR) (k : CtR) (w : World) : Calls Tryz.prog 113 #[.agg (alrC x), .agg (ctrC k)] w fun e w' => e = .returned (.bool (timesB x k)) ∧ Below w.heap.size w w' := by
  have hb : ∀ o p, Below w.heap.size w ((w.alloc o).alloc p) := fun o p => ((Below.refl w.heap.size w).alloc (Nat.le_refl _) o).alloc (by simp) p
  have k1 := withinU_any x.time 1 k.max
  have k2 := withinU_any x.cycle k.min k.max
  unfold alrC ctrC at *
  unfold timesB
  go_enter Tryz.func113, Tryz.ntmps113
  by_cases h0 : x.auto = 0
  · have h0' : ((x.auto : Int) == 0) = true := by simp [h0]
    rw [if_pos h0]
    clear h0
    by_cases h1 : x.time = 0
    · have h1' : ((x.time : Int) == 0) = true := by simp [h1]
      have H1 : Hid (x.time = 0) := h1
      clear h1
      go_wp2
      go_ret
      exact ⟨ret_bool' (by rw [Bool.eq_iff_iff]; simp [H1.out]), hb _ _⟩
    · have h1' : ((x.time : Int) == 0) = false := by simpa using h1
      have H1 : Hid (¬ x.time = 0) := h1
      clear h1
      go_wp2
      go_ret
      exact ⟨ret_bool' (by rw [Bool.eq_iff_iff]; simp [H1.out]), hb _ _⟩
  · have h0' : ((x.auto : Int) == 0) = false := by simpa using h0
    rw [if_neg h0]
    clear h0
    have e1 : (decide (1 ≤ x.time ∧ x.time ≤ k.max)) = (decide (1 ≤ x.time) && decide (x.time ≤ k.max)) := by rw [Bool.eq_iff_iff]; simp
    have e2 : (decide (k.min ≤ x.cycle ∧ x.cycle ≤ k.max)) = (decide (k.min ≤ x.cycle) && decide (x.cycle ≤ k.max)) := by rw [Bool.eq_iff_iff]; simp
    rw [e1, e2]
    clear e1 e2
    generalize (decide (1 ≤ x.time) && decide (x.time ≤ k.max)) = b1 at *
    generalize (decide (k.min ≤ x.cycle) && decide (x.cycle ≤ k.max)) = b2 at *
    by_cases h2 : x.cycle = 0
    · have h2' : ((x.cycle : Int) == 0) = true := by simp [h2]
      have H2 : Hid (x.cycle = 0) := h2
      clear h2
      cases b1
      all_goals
        go_wp2_with (first | (go_at_call 108; refine (k1 _).mono ?_; clear k1; rintro e w' ⟨rfl, rfl⟩) | (go_at_call 108; refine (k2 _).mono ?_; clear k2; rintro e w' ⟨rfl, rfl⟩))
        go_ret
        exact ⟨ret_bool' (by simp [H2.out]), hb _ _⟩
    · have h2' : ((x.cycle : Int) == 0) = false := by simpa using h2
      have H2 : Hid (¬ x.cycle = 0) := h2
      clear h2
      cases b1
      all_goals
        go_wp2_with (first | (go_at_call 108; refine (k1 _).mono ?_; clear k1; rintro e w' ⟨rfl, rfl⟩) | (go_at_call 108; refine (k2 _).mono ?_; clear k2; rintro e w' ⟨rfl, rfl⟩))
        go_ret
        exact ⟨ret_bool' (by simp [H2.out]), hb _ _⟩
end Go.Proofs.YtmllocfeflhjoaaGreat

namespace Go.Proofs.YtmllocfeflhjoaaGreat
open Go.RowKit
set_option linter.unusedVariables false
set_option linter.unusedSimpArgs false

theorem ints_at9 {w : World} {s : Sl} {l : List Int} (h : RowsAt w 1 intP s l) {j : Nat} {x : Int} (hj : l[j]? = some x) : ∃ g off, s.a = some ⟨g, off, none⟩ ∧ g < w.heap.size ∧ w.cell? ⟨g, off + j, none⟩ = some (I x) := by
  obtain ⟨g, off, e, hg, hr⟩ := h.row j x hj
  obtain ⟨u, h1, h2⟩ := hr 0 (by omega)
  refine ⟨g, off, e, hg, ?_⟩
  rw [show off + j * 1 + 0 = off + j by omega] at h1
  rw [h1, h2]
set_option maxHeartbeats 8000000 in
set_option maxRecDepth 100000 in
theorem countsFit_any (tb : Tb) (v : Ts) (w : World) (h : TbAt w tb v) : Calls Tryz.prog 66 #[.agg (tbC tb v)] w fun e w' => e = .returned (.bool (countsB tb)) ∧ Below w.heap.size w w' := by
  have hb : ∀ o, Below w.heap.size w (w.alloc o) := fun o => below_alloc w o
  obtain ⟨R, hR⟩ : ∃ R, R = countsB tb := ⟨_, rfl⟩
  rw [← hR]
  have HR : Hid (R = (inI tb.uses 0 255 && inI tb.modes 1 8 && inI v.t.n 1 256 && decide (v.r.n ≤ 65 ∧ v.k.n ≤ 16 ∧ v.a.n ≤ 64 ∧ v.i.n ≤ 32 ∧ v.s.n ≤ 64))) := by
    show R = _
    rw [hR, h.t.n, h.r.n, h.k.n, h.a.n, h.i.n, h.s.n]
    rfl
  clear hR h
  have k1 := withinI_any tb.uses 0 255
  have k2 := withinI_any tb.modes 1 8
  have k3 := withinI_any v.t.n 1 256
  unfold tbC
  generalize inI tb.uses 0 255 = b1 at *
  generalize inI tb.modes 1 8 = b2 at *
  generalize inI (v.t.n : Int) 1 256 = b3 at *
  go_enter Tryz.func66, Tryz.ntmps66
  cases b1
  · go_wp2_with (first | (go_at_call 95; refine (k1 _).mono ?_; clear k1; rintro e w' ⟨rfl, rfl⟩))
    go_ret
    exact ⟨ret_bool' (by rw [HR.out]; simp), hb _⟩
  · cases b2
    · go_wp2_with (first | (go_at_call 95; refine (k1 _).mono ?_; clear k1; rintro e w' ⟨rfl, rfl⟩) | (go_at_call 95; refine (k2 _).mono ?_; clear k2; rintro e w' ⟨rfl, rfl⟩))
      go_ret
      exact ⟨ret_bool' (by rw [HR.out]; simp), hb _⟩
    · cases b3
      · go_wp2_with (first | (go_at_call 95; refine (k1 _).mono ?_; clear k1; rintro e w' ⟨rfl, rfl⟩) | (go_at_call 95; refine (k2 _).mono ?_; clear k2; rintro e w' ⟨rfl, rfl⟩) | (go_at_call 95; refine (k3 _).mono ?_; clear k3; rintro e w' ⟨rfl, rfl⟩))
        go_ret
        exact ⟨ret_bool' (by rw [HR.out]; simp), hb _⟩
      · by_cases g1 : (v.r.n : Int) ≤ 65
        · by_cases g2 : (v.k.n : Int) ≤ 16
          · by_cases g3 : (v.a.n : Int) ≤ 64
            · by_cases g4 : (v.i.n : Int) ≤ 32
              · go_wp2_with (first | (go_at_call 95; refine (k1 _).mono ?_; clear k1; rintro e w' ⟨rfl, rfl⟩) | (go_at_call 95; refine (k2 _).mono ?_; clear k2; rintro e w' ⟨rfl, rfl⟩) | (go_at_call 95; refine (k3 _).mono ?_; clear k3; rintro e w' ⟨rfl, rfl⟩))
                go_ret
                exact ⟨ret_bool' (by rw [HR.out, Bool.eq_iff_iff]; simp; omega), hb _⟩
              · go_wp2_with (first | (go_at_call 95; refine (k1 _).mono ?_; clear k1; rintro e w' ⟨rfl, rfl⟩) | (go_at_call 95; refine (k2 _).mono ?_; clear k2; rintro e w' ⟨rfl, rfl⟩) | (go_at_call 95; refine (k3 _).mono ?_; clear k3; rintro e w' ⟨rfl, rfl⟩))
                go_ret
                exact ⟨ret_bool' (by rw [HR.out, Bool.eq_iff_iff]; simp; omega), hb _⟩
            · go_wp2_with (first | (go_at_call 95; refine (k1 _).mono ?_; clear k1; rintro e w' ⟨rfl, rfl⟩) | (go_at_call 95; refine (k2 _).mono ?_; clear k2; rintro e w' ⟨rfl, rfl⟩) | (go_at_call 95; refine (k3 _).mono ?_; clear k3; rintro e w' ⟨rfl, rfl⟩))
              go_ret
              exact ⟨ret_bool' (by rw [HR.out, Bool.eq_iff_iff]; simp; omega), hb _⟩
          · go_wp2_with (first | (go_at_call 95; refine (k1 _).mono ?_; clear k1; rintro e w' ⟨rfl, rfl⟩) | (go_at_call 95; refine (k2 _).mono ?_; clear k2; rintro e w' ⟨rfl, rfl⟩) | (go_at_call 95; refine (k3 _).mono ?_; clear k3; rintro e w' ⟨rfl, rfl⟩))
            go_ret
            exact ⟨ret_bool' (by rw [HR.out, Bool.eq_iff_iff]; simp; omega), hb _⟩
        · go_wp2_with (first | (go_at_call 95; refine (k1 _).mono ?_; clear k1; rintro e w' ⟨rfl, rfl⟩) | (go_at_call 95; refine (k2 _).mono ?_; clear k2; rintro e w' ⟨rfl, rfl⟩) | (go_at_call 95; refine (k3 _).mono ?_; clear k3; rintro e w' ⟨rfl, rfl⟩))
          go_ret
          exact ⟨ret_bool' (by rw [HR.out, Bool.eq_iff_iff]; simp; omega), hb _⟩
end Go.Proofs.YtmllocfeflhjoaaGreat

namespace Go.Proofs.YtmllocfeflhjoaaGreat
open Go.RowKit
set_option linter.unusedVariables false
set_option linter.unusedSimpArgs false

theorem drop_at {α : Type} {l : List α} {j : Nat} {x : α} (h : l[j]? = some x) : l.drop j = x :: l.drop (j + 1) := by
  obtain ⟨hj, rfl⟩ := List.getElem?_eq_some_iff.1 h
  exact List.drop_eq_getElem_cons hj
set_option maxHeartbeats 8000000 in
set_option maxRecDepth 100000 in
theorem ownFits_any (tb : Tb) (v : Ts) (w : World) (h : TbAt w tb v) (s : Sl) (l : List Int) (hl : RowsAt w 1 intP s l) (prio : Int) : Calls Tryz.prog 104 #[.agg (tbC tb v), .slice s.a s.n s.c, I prio] w fun e w' => e = .returned (.bool (ownG tb prio (-1) l)) ∧ Below w.heap.size w w' := by
  have hV := heap_alloc_new w (.cells (tbC tb v) 42)
  have HB : Hid (Below w.heap.size w (w.alloc (.cells (tbC tb v) 42))) := below_alloc w _
  have HT : Hid (TbAt (w.alloc (.cells (tbC tb v) 42)) tb v) := h.below HB.out
  have HL : Hid (RowsAt (w.alloc (.cells (tbC tb v) 42)) 1 intP s l) := hl.below HB.out (fun _ _ _ _ h => h)
  obtain ⟨c0, c1, c2, c3, c4, c5, c6, c7, c8, c9, c10, c11, c12⟩ := var13 hV
  have HS : Hid (s.n = l.length) := hl.n
  have hsc : s.n ≤ s.c := hl.c
  have hsm : s.c ≤ maxLen := hl.m
  have HRn : Hid (v.r.n = tb.ress.length) := h.r.n
  have hrc : v.r.n ≤ v.r.c := h.r.c
  have hrm : v.r.c ≤ maxLen := h.r.m
  unfold maxLen at hsm hrm
  have kid := fun x => isID_ress x v.r
  obtain ⟨R, hR⟩ : ∃ R, R = ownG tb prio (-1) l := ⟨_, rfl⟩
  rw [← hR]
  have HR : Hid (R = ownG tb prio (-1) (l.drop 0)) := hR
  clear hR h hl hV c0 c1 c2 c3 c5 c6 c7 c8 c9 c10 c11 c12
  unfold tbC at *
  go_enter Tryz.func104, Tryz.ntmps104
  generalize hW : w.alloc (.cells #[I tb.uses, I tb.modes, .slice v.t.a v.t.n v.t.c, .slice v.g.a v.g.n v.g.c, .slice v.r.a v.r.n v.r.c, .slice v.k.a v.k.n v.k.c, .slice v.a.a v.a.n v.a.c, .slice v.i.a v.i.n v.i.c, .slice v.s.a v.s.n v.s.c, I tb.depth, I tb.frames, I tb.errors, I tb.calls] 42) = W1 at *
  go_upto_region 1 with fail
  clear hW
  go_wp2
  go_loopw [7, 9, 12] (fun av _ iv wr => ∃ (j : Nat) (a : Int), j ≤ s.n ∧ iv = .int .i64 j ∧ av = I a ∧ wr = W1 ∧ Hid (R = ownG tb prio a (l.drop j))) (fun _ _ iv _ => s.n - (intOf iv).toNat)
  case atStart => exact ⟨0, -1, by omega, rfl, rfl, rfl, HR.out⟩
  case round =>
    clear HR
    obtain ⟨j, a, hj, rfl, rfl, rfl, HJ⟩ := hrel
    by_cases hlt : j < s.n
    · have hlt' : (j : Int) < s.n := by omega
      obtain ⟨x, hx⟩ : ∃ x, l[j]? = some x := ⟨_, List.getElem?_eq_getElem (by rw [← HS.out]; exact hlt)⟩
      obtain ⟨g5, o5, e5, hg5, b5⟩ := ints_at9 HL.out hx
      have HX : Hid (R = (decide (a < x) && idB x tb.ress.length && resOk tb prio x && ownG tb prio x (l.drop (j + 1)))) := by
        have h9 := HJ.out
        rw [drop_at hx, ownG] at h9
        exact h9
      rw [e5]
      clear hx e5 HJ
      by_cases g1 : x ≤ a
      · go_wp2
        go_ret
        exact ⟨ret_bool' (by rw [HX.out]; have : ¬ a < x := by omega
                             simp [this]), HB.out⟩
      · have g1' : a < x := by omega
        have kx := kid x wr
        cases hid : idB x v.r.n with
        | false =>
          rw [hid] at kx
          go_wp2_with (go_at_call 132; refine kx.mono ?_; clear kx; rintro e w' ⟨rfl, rfl⟩)
          go_ret
          exact ⟨ret_bool' (by rw [HX.out, ← HRn.out, hid]; simp), HB.out⟩
        | true =>
          rw [hid] at kx
          have hid2 : 0 ≤ x ∧ x < (v.r.n : Int) := by unfold idB at hid; simpa using hid
          obtain ⟨k, rfl⟩ := Int.eq_ofNat_of_zero_le hid2.1
          obtain ⟨r, hr⟩ : ∃ r, tb.ress[k]? = some r := ⟨_, List.getElem?_eq_getElem (by rw [← HRn.out]; omega)⟩
          obtain ⟨gr, orr, er, hgr, y0, y1⟩ := rsr_at HT.out hr
          have HQ : Hid (resOk tb prio (k : Int) = (!r.inner && decide (prio ≤ r.ceil))) := by
            show _ = _
            unfold resOk
            rw [Int.toNat_natCast, hr]
          have hk1 : (k : Int) < v.r.n := hid2.2
          have HI : Hid (idB (k : Int) tb.ress.length = true) := by rw [← HRn.out]; exact hid
          rw [er] at c4
          rw [er] at kx
          clear hr er hid hid2
          generalize r.inner = ri at *
          generalize r.ceil = rc at *
          cases ri with
          | true =>
            go_wp2_with (go_at_call 132; refine kx.mono ?_; clear kx; rintro e w' ⟨rfl, rfl⟩)
            go_ret
            exact ⟨ret_bool' (by rw [HX.out, HQ.out]; simp), HB.out⟩
          | false =>
            by_cases g2 : rc < prio
            · go_wp2_with (go_at_call 132; refine kx.mono ?_; clear kx; rintro e w' ⟨rfl, rfl⟩)
              go_ret
              exact ⟨ret_bool' (by rw [HX.out, HQ.out]; have : ¬ prio ≤ rc := by omega
                                   simp [this]), HB.out⟩
            · have g2' : prio ≤ rc := by omega
              have HN : Hid (R = ownG tb prio (k : Int) (l.drop (j + 1))) := by
                have h9 := HX.out
                rw [HQ.out, HI.out] at h9
                show R = _
                simpa [g1', g2'] using h9
              go_wp2_with (go_at_call 132; refine kx.mono ?_; clear kx; rintro e w' ⟨rfl, rfl⟩)
              go_roundw
              case rel => exact ⟨j + 1, (k : Int), by omega, by go_num, rfl, trivial, HN.out⟩
              case measure => simp [intOf]; omega
    · obtain rfl : j = s.n := by omega
      have hlt' : ¬ ((s.n : Nat) : Int) < (s.n : Nat) := by omega
      have HE : Hid (R = true) := by
        have h9 := HJ.out
        rw [HS.out, List.drop_length, ownG] at h9
        exact h9
      clear HJ
      go_wp2
      go_ret
      exact ⟨ret_bool' (by rw [HE.out]), HB.out⟩
end Go.Proofs.YtmllocfeflhjoaaGreat

