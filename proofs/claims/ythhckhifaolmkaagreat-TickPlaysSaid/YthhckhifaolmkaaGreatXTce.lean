import Derived.Test.YthhckhifaolmkaaGreatXTca
import Derived.Deep.Cut
namespace Go.Proofs.YthhckhifaolmkaaGreat
open Go.RowKit
set_option linter.unusedVariables false
set_option linter.unusedSimpArgs false

def tkrC (x : TkR) (s : Sl) : Array Value := #[I x.prio, I x.ring, .bool x.full, I x.limit, .int .u32 (x.mask : Int), I x.inner, .slice s.a s.n s.c, .int .u32 (x.auto : Int)]
def ctrC (x : CtR) : Array Value := #[.int .u32 (x.max : Int), .int .u32 (x.base : Int), .int .u32 (x.min : Int)]
def acrC (x : AcR) : Array Value := #[I x.kind, I x.task, .int .u32 (x.mask : Int)]
def alrC (x : AlR) : Array Value := #[I x.ctr, I x.ac.kind, I x.ac.task, .int .u32 (x.ac.mask : Int), .int .u32 (x.auto : Int), .int .u32 (x.time : Int), .int .u32 (x.cycle : Int)]
def isrC (x : IsR) (s : Sl) : Array Value := #[I x.cat, I x.prio, .slice s.a s.n s.c]
def msrC (x : MsR) : Array Value := #[I x.kind, I x.len, I x.frm, .int .u64 (x.init : Int), I x.queue, I x.ac.kind, I x.ac.task, .int .u32 (x.ac.mask : Int)]
set_option maxHeartbeats 4000000 in
set_option maxRecDepth 100000 in
theorem limitFits_any (x : TkR) (s : Sl) (w : World) : Calls Tryz.prog 94 #[.agg (tkrC x s)] w fun e w' => e = .returned (.bool (limitB x)) ∧ Below w.heap.size w w' := by
  have hb : ∀ o, Below w.heap.size w (w.alloc o) := fun o => below_alloc w o
  unfold tkrC at *
  have k1 := withinI_any x.limit 1 255
  unfold limitB
  go_enter Tryz.func94, Tryz.ntmps94
  by_cases h0 : x.mask = 0
  · have h0' : ((x.mask : Int) != 0) = false := by simp [h0]
    have H0 : Hid (x.mask = 0) := h0
    clear h0
    go_wp2_with (go_at_call 86; refine (k1 _).mono ?_; rintro e w' ⟨rfl, rfl⟩)
    go_ret
    exact ⟨ret_bool' (by simp [H0.out]), hb _⟩
  · have h0' : ((x.mask : Int) != 0) = true := by simpa using h0
    have H0 : Hid (¬ x.mask = 0) := h0
    clear h0
    go_wp2
    go_ret
    exact ⟨ret_bool' (by simp [H0.out]), hb _⟩
set_option maxHeartbeats 4000000 in
set_option maxRecDepth 100000 in
theorem autoFits_any (tb : Tb) (v : Ts) (a : Nat) (ha : a < 4294967296) (hm : 1 ≤ tb.modes ∧ tb.modes ≤ 8) (w : World) : Calls Tryz.prog 96 #[.agg (tbC tb v), .int .u32 (a : Int)] w fun e w' => e = .returned (.bool (autoB tb a)) ∧ Below w.heap.size w w' := by
  have hb : ∀ o, Below w.heap.size w (w.alloc o) := fun o => below_alloc w o
  unfold tbC at *
  unfold autoB
  generalize tb.modes = m at *
  have : m = 1 ∨ m = 2 ∨ m = 3 ∨ m = 4 ∨ m = 5 ∨ m = 6 ∨ m = 7 ∨ m = 8 := by omega
  go_enter Tryz.func96, Tryz.ntmps96
  rcases this with rfl | rfl | rfl | rfl | rfl | rfl | rfl | rfl
  all_goals
    go_wp2
    go_ret
    exact ⟨ret_bool' (by rw [Bool.eq_iff_iff]; simp; omega), hb _⟩
set_option maxHeartbeats 4000000 in
set_option maxRecDepth 100000 in
theorem areApart_any (x y : IsR) (s t : Sl) (w : World) : Calls Tryz.prog 108 #[.agg (isrC x s), .agg (isrC y t)] w fun e w' => e = .returned (.bool (apartB x y)) ∧ Below w.heap.size w w' := by
  have hb : ∀ o p, Below w.heap.size w ((w.alloc o).alloc p) := fun o p => ((Below.refl w.heap.size w).alloc (Nat.le_refl _) o).alloc (by simp) p
  unfold isrC at *
  unfold apartB
  generalize x.prio = a at *
  generalize y.prio = b at *
  generalize x.cat = c at *
  generalize y.cat = d at *
  obtain ⟨R, hR⟩ : ∃ R, R = ((a != b) && (c == d || (decide (c < d) == decide (b < a)))) := ⟨_, rfl⟩
  rw [← hR]
  have HR : Hid (R = ((a != b) && (c == d || (decide (c < d) == decide (b < a))))) := hR
  clear hR
  go_enter Tryz.func108, Tryz.ntmps108
  cases h1 : (a != b)
  · go_wp2
    go_ret
    exact ⟨ret_bool' (by rw [HR.out, h1]; rfl), hb _ _⟩
  · cases h2 : (c == d)
    · go_wp2
      go_ret
      exact ⟨ret_bool' (by rw [HR.out, h1, h2]; simp), hb _ _⟩
    · go_wp2
      go_ret
      exact ⟨ret_bool' (by rw [HR.out, h1, h2]; rfl), hb _ _⟩
set_option maxHeartbeats 4000000 in
set_option maxRecDepth 100000 in
theorem timesFit_any (x : AlR) (k : CtR) (w : World) : Calls Tryz.prog 104 #[.agg (alrC x), .agg (ctrC k)] w fun e w' => e = .returned (.bool (timesB x k)) ∧ Below w.heap.size w w' := by
  have hb : ∀ o p, Below w.heap.size w ((w.alloc o).alloc p) := fun o p => ((Below.refl w.heap.size w).alloc (Nat.le_refl _) o).alloc (by simp) p
  have k1 := withinU_any x.time 1 k.max
  have k2 := withinU_any x.cycle k.min k.max
  unfold alrC ctrC at *
  unfold timesB
  go_enter Tryz.func104, Tryz.ntmps104
  by_cases h0 : x.auto = 0
  · have h0' : ((x.auto : Int) == 0) = true := by simp [h0]
    rw [if_pos h0]
    clear h0
    by_cases h1 : x.time = 0
    · have h1' : ((x.time : Int) == 0) = true := by simp [h1]
      have H1 : Hid (x.time = 0) := h1
      clear h1
      go_wp2
      go_ret
      exact ⟨ret_bool' (by rw [Bool.eq_iff_iff]; simp [H1.out]), hb _ _⟩
    · have h1' : ((x.time : Int) == 0) = false := by simpa using h1
      have H1 : Hid (¬ x.time = 0) := h1
      clear h1
      go_wp2
      go_ret
      exact ⟨ret_bool' (by rw [Bool.eq_iff_iff]; simp [H1.out]), hb _ _⟩
  · have h0' : ((x.auto : Int) == 0) = false := by simpa using h0
    rw [if_neg h0]
    clear h0
    have e1 : (decide (1 ≤ x.time ∧ x.time ≤ k.max)) = (decide (1 ≤ x.time) && decide (x.time ≤ k.max)) := by rw [Bool.eq_iff_iff]; simp
    have e2 : (decide (k.min ≤ x.cycle ∧ x.cycle ≤ k.max)) = (decide (k.min ≤ x.cycle) && decide (x.cycle ≤ k.max)) := by rw [Bool.eq_iff_iff]; simp
    rw [e1, e2]
    clear e1 e2
    generalize (decide (1 ≤ x.time) && decide (x.time ≤ k.max)) = b1 at *
    generalize (decide (k.min ≤ x.cycle) && decide (x.cycle ≤ k.max)) = b2 at *
    by_cases h2 : x.cycle = 0
    · have h2' : ((x.cycle : Int) == 0) = true := by simp [h2]
      have H2 : Hid (x.cycle = 0) := h2
      clear h2
      cases b1
      all_goals
        go_wp2_with (first | (go_at_call 99; refine (k1 _).mono ?_; clear k1; rintro e w' ⟨rfl, rfl⟩) | (go_at_call 99; refine (k2 _).mono ?_; clear k2; rintro e w' ⟨rfl, rfl⟩))
        go_ret
        exact ⟨ret_bool' (by simp [H2.out]), hb _ _⟩
    · have h2' : ((x.cycle : Int) == 0) = false := by simpa using h2
      have H2 : Hid (¬ x.cycle = 0) := h2
      clear h2
      cases b1
      all_goals
        go_wp2_with (first | (go_at_call 99; refine (k1 _).mono ?_; clear k1; rintro e w' ⟨rfl, rfl⟩) | (go_at_call 99; refine (k2 _).mono ?_; clear k2; rintro e w' ⟨rfl, rfl⟩))
        go_ret
        exact ⟨ret_bool' (by simp [H2.out]), hb _ _⟩
end Go.Proofs.YthhckhifaolmkaaGreat

namespace Go.Proofs.YthhckhifaolmkaaGreat
open Go.RowKit
set_option linter.unusedVariables false
set_option linter.unusedSimpArgs false

theorem ints_at9 {w : World} {s : Sl} {l : List Int} (h : RowsAt w 1 intP s l) {j : Nat} {x : Int} (hj : l[j]? = some x) : ∃ g off, s.a = some ⟨g, off, none⟩ ∧ g < w.heap.size ∧ w.cell? ⟨g, off + j, none⟩ = some (I x) := by
  obtain ⟨g, off, e, hg, hr⟩ := h.row j x hj
  obtain ⟨u, h1, h2⟩ := hr 0 (by omega)
  refine ⟨g, off, e, hg, ?_⟩
  rw [show off + j * 1 + 0 = off + j by omega] at h1
  rw [h1, h2]
set_option maxHeartbeats 8000000 in
set_option maxRecDepth 100000 in
theorem countsFit_any (tb : Tb) (v : Ts) (w : World) (h : TbAt w tb v) : Calls Tryz.prog 60 #[.agg (tbC tb v)] w fun e w' => e = .returned (.bool (countsB tb)) ∧ Below w.heap.size w w' := by
  have hb : ∀ o, Below w.heap.size w (w.alloc o) := fun o => below_alloc w o
  obtain ⟨R, hR⟩ : ∃ R, R = countsB tb := ⟨_, rfl⟩
  rw [← hR]
  have HR : Hid (R = (inI tb.uses 0 255 && inI tb.modes 1 8 && inI v.t.n 1 256 && decide (v.r.n ≤ 65 ∧ v.k.n ≤ 16 ∧ v.a.n ≤ 64 ∧ v.i.n ≤ 32 ∧ v.s.n ≤ 64))) := by
    show R = _
    rw [hR, h.t.n, h.r.n, h.k.n, h.a.n, h.i.n, h.s.n]
    rfl
  clear hR h
  have k1 := withinI_any tb.uses 0 255
  have k2 := withinI_any tb.modes 1 8
  have k3 := withinI_any v.t.n 1 256
  unfold tbC
  generalize inI tb.uses 0 255 = b1 at *
  generalize inI tb.modes 1 8 = b2 at *
  generalize inI (v.t.n : Int) 1 256 = b3 at *
  go_enter Tryz.func60, Tryz.ntmps60
  cases b1
  · go_wp2_with (first | (go_at_call 86; refine (k1 _).mono ?_; clear k1; rintro e w' ⟨rfl, rfl⟩))
    go_ret
    exact ⟨ret_bool' (by rw [HR.out]; simp), hb _⟩
  · cases b2
    · go_wp2_with (first | (go_at_call 86; refine (k1 _).mono ?_; clear k1; rintro e w' ⟨rfl, rfl⟩) | (go_at_call 86; refine (k2 _).mono ?_; clear k2; rintro e w' ⟨rfl, rfl⟩))
      go_ret
      exact ⟨ret_bool' (by rw [HR.out]; simp), hb _⟩
    · cases b3
      · go_wp2_with (first | (go_at_call 86; refine (k1 _).mono ?_; clear k1; rintro e w' ⟨rfl, rfl⟩) | (go_at_call 86; refine (k2 _).mono ?_; clear k2; rintro e w' ⟨rfl, rfl⟩) | (go_at_call 86; refine (k3 _).mono ?_; clear k3; rintro e w' ⟨rfl, rfl⟩))
        go_ret
        exact ⟨ret_bool' (by rw [HR.out]; simp), hb _⟩
      · by_cases g1 : (v.r.n : Int) ≤ 65
        · by_cases g2 : (v.k.n : Int) ≤ 16
          · by_cases g3 : (v.a.n : Int) ≤ 64
            · by_cases g4 : (v.i.n : Int) ≤ 32
              · go_wp2_with (first | (go_at_call 86; refine (k1 _).mono ?_; clear k1; rintro e w' ⟨rfl, rfl⟩) | (go_at_call 86; refine (k2 _).mono ?_; clear k2; rintro e w' ⟨rfl, rfl⟩) | (go_at_call 86; refine (k3 _).mono ?_; clear k3; rintro e w' ⟨rfl, rfl⟩))
                go_ret
                exact ⟨ret_bool' (by rw [HR.out, Bool.eq_iff_iff]; simp; omega), hb _⟩
              · go_wp2_with (first | (go_at_call 86; refine (k1 _).mono ?_; clear k1; rintro e w' ⟨rfl, rfl⟩) | (go_at_call 86; refine (k2 _).mono ?_; clear k2; rintro e w' ⟨rfl, rfl⟩) | (go_at_call 86; refine (k3 _).mono ?_; clear k3; rintro e w' ⟨rfl, rfl⟩))
                go_ret
                exact ⟨ret_bool' (by rw [HR.out, Bool.eq_iff_iff]; simp; omega), hb _⟩
            · go_wp2_with (first | (go_at_call 86; refine (k1 _).mono ?_; clear k1; rintro e w' ⟨rfl, rfl⟩) | (go_at_call 86; refine (k2 _).mono ?_; clear k2; rintro e w' ⟨rfl, rfl⟩) | (go_at_call 86; refine (k3 _).mono ?_; clear k3; rintro e w' ⟨rfl, rfl⟩))
              go_ret
              exact ⟨ret_bool' (by rw [HR.out, Bool.eq_iff_iff]; simp; omega), hb _⟩
          · go_wp2_with (first | (go_at_call 86; refine (k1 _).mono ?_; clear k1; rintro e w' ⟨rfl, rfl⟩) | (go_at_call 86; refine (k2 _).mono ?_; clear k2; rintro e w' ⟨rfl, rfl⟩) | (go_at_call 86; refine (k3 _).mono ?_; clear k3; rintro e w' ⟨rfl, rfl⟩))
            go_ret
            exact ⟨ret_bool' (by rw [HR.out, Bool.eq_iff_iff]; simp; omega), hb _⟩
        · go_wp2_with (first | (go_at_call 86; refine (k1 _).mono ?_; clear k1; rintro e w' ⟨rfl, rfl⟩) | (go_at_call 86; refine (k2 _).mono ?_; clear k2; rintro e w' ⟨rfl, rfl⟩) | (go_at_call 86; refine (k3 _).mono ?_; clear k3; rintro e w' ⟨rfl, rfl⟩))
          go_ret
          exact ⟨ret_bool' (by rw [HR.out, Bool.eq_iff_iff]; simp; omega), hb _⟩
end Go.Proofs.YthhckhifaolmkaaGreat

namespace Go.Proofs.YthhckhifaolmkaaGreat
open Go.RowKit
set_option linter.unusedVariables false
set_option linter.unusedSimpArgs false

theorem drop_at {α : Type} {l : List α} {j : Nat} {x : α} (h : l[j]? = some x) : l.drop j = x :: l.drop (j + 1) := by
  obtain ⟨hj, rfl⟩ := List.getElem?_eq_some_iff.1 h
  exact List.drop_eq_getElem_cons hj
set_option maxHeartbeats 8000000 in
set_option maxRecDepth 100000 in
theorem ownFits_any (tb : Tb) (v : Ts) (w : World) (h : TbAt w tb v) (s : Sl) (l : List Int) (hl : RowsAt w 1 intP s l) (prio : Int) : Calls Tryz.prog 95 #[.agg (tbC tb v), .slice s.a s.n s.c, I prio] w fun e w' => e = .returned (.bool (ownG tb prio (-1) l)) ∧ Below w.heap.size w w' := by
  have hV := heap_alloc_new w (.cells (tbC tb v) 37)
  have HB : Hid (Below w.heap.size w (w.alloc (.cells (tbC tb v) 37))) := below_alloc w _
  have HT : Hid (TbAt (w.alloc (.cells (tbC tb v) 37)) tb v) := h.below HB.out
  have HL : Hid (RowsAt (w.alloc (.cells (tbC tb v) 37)) 1 intP s l) := hl.below HB.out (fun _ _ _ _ h => h)
  obtain ⟨c0, c1, c2, c3, c4, c5, c6, c7, c8, c9, c10, c11, c12⟩ := var13 hV
  have HS : Hid (s.n = l.length) := hl.n
  have hsc : s.n ≤ s.c := hl.c
  have hsm : s.c ≤ maxLen := hl.m
  have HRn : Hid (v.r.n = tb.ress.length) := h.r.n
  have hrc : v.r.n ≤ v.r.c := h.r.c
  have hrm : v.r.c ≤ maxLen := h.r.m
  unfold maxLen at hsm hrm
  have kid := fun x => isID_ress x v.r
  obtain ⟨R, hR⟩ : ∃ R, R = ownG tb prio (-1) l := ⟨_, rfl⟩
  rw [← hR]
  have HR : Hid (R = ownG tb prio (-1) (l.drop 0)) := hR
  clear hR h hl hV c0 c1 c2 c3 c5 c6 c7 c8 c9 c10 c11 c12
  unfold tbC at *
  go_enter Tryz.func95, Tryz.ntmps95
  generalize hW : w.alloc (.cells #[I tb.uses, I tb.modes, .slice v.t.a v.t.n v.t.c, .slice v.g.a v.g.n v.g.c, .slice v.r.a v.r.n v.r.c, .slice v.k.a v.k.n v.k.c, .slice v.a.a v.a.n v.a.c, .slice v.i.a v.i.n v.i.c, .slice v.s.a v.s.n v.s.c, I tb.depth, I tb.frames, I tb.errors, I tb.calls] 37) = W1 at *
  go_upto_region 1 with fail
  clear hW
  go_wp2
  go_loopw [7, 9, 12] (fun av _ iv wr => ∃ (j : Nat) (a : Int), j ≤ s.n ∧ iv = .int .i64 j ∧ av = I a ∧ wr = W1 ∧ Hid (R = ownG tb prio a (l.drop j))) (fun _ _ iv _ => s.n - (intOf iv).toNat)
  case atStart => exact ⟨0, -1, by omega, rfl, rfl, rfl, HR.out⟩
  case round =>
    clear HR
    obtain ⟨j, a, hj, rfl, rfl, rfl, HJ⟩ := hrel
    by_cases hlt : j < s.n
    · have hlt' : (j : Int) < s.n := by omega
      obtain ⟨x, hx⟩ : ∃ x, l[j]? = some x := ⟨_, List.getElem?_eq_getElem (by rw [← HS.out]; exact hlt)⟩
      obtain ⟨g5, o5, e5, hg5, b5⟩ := ints_at9 HL.out hx
      have HX : Hid (R = (decide (a < x) && idB x tb.ress.length && resOk tb prio x && ownG tb prio x (l.drop (j + 1)))) := by
        have h9 := HJ.out
        rw [drop_at hx, ownG] at h9
        exact h9
      rw [e5]
      clear hx e5 HJ
      by_cases g1 : x ≤ a
      · go_wp2
        go_ret
        exact ⟨ret_bool' (by rw [HX.out]; have : ¬ a < x := (by omega); simp [this]), HB.out⟩
      · have g1' : a < x := by omega
        have kx := kid x wr
        cases hid : idB x v.r.n with
        | false =>
          rw [hid] at kx
          go_wp2_with (go_at_call 131; refine kx.mono ?_; clear kx; rintro e w' ⟨rfl, rfl⟩)
          go_ret
          exact ⟨ret_bool' (by rw [HX.out, ← HRn.out, hid]; simp), HB.out⟩
        | true =>
          rw [hid] at kx
          have hid2 : 0 ≤ x ∧ x < (v.r.n : Int) := by unfold idB at hid; simpa using hid
          obtain ⟨k, rfl⟩ := Int.eq_ofNat_of_zero_le hid2.1
          obtain ⟨r, hr⟩ : ∃ r, tb.ress[k]? = some r := ⟨_, List.getElem?_eq_getElem (by rw [← HRn.out]; omega)⟩
          obtain ⟨gr, orr, er, hgr, y0, y1⟩ := rsr_at HT.out hr
          have HQ : Hid (resOk tb prio (k : Int) = (!r.inner && decide (prio ≤ r.ceil))) := by
            show _ = _
            unfold resOk
            rw [Int.toNat_natCast, hr]
          have hk1 : (k : Int) < v.r.n := hid2.2
          have HI : Hid (idB (k : Int) tb.ress.length = true) := by rw [← HRn.out]; exact hid
          rw [er] at c4
          rw [er] at kx
          clear hr er hid hid2
          generalize r.inner = ri at *
          generalize r.ceil = rc at *
          cases ri with
          | true =>
            go_wp2_with (go_at_call 131; refine kx.mono ?_; clear kx; rintro e w' ⟨rfl, rfl⟩)
            go_ret
            exact ⟨ret_bool' (by rw [HX.out, HQ.out]; simp), HB.out⟩
          | false =>
            by_cases g2 : rc < prio
            · go_wp2_with (go_at_call 131; refine kx.mono ?_; clear kx; rintro e w' ⟨rfl, rfl⟩)
              go_ret
              exact ⟨ret_bool' (by rw [HX.out, HQ.out]; have : ¬ prio ≤ rc := (by omega); simp [this]), HB.out⟩
            · have g2' : prio ≤ rc := by omega
              have HN : Hid (R = ownG tb prio (k : Int) (l.drop (j + 1))) := by
                have h9 := HX.out
                rw [HQ.out, HI.out] at h9
                show R = _
                simpa [g1', g2'] using h9
              go_wp2_with (go_at_call 131; refine kx.mono ?_; clear kx; rintro e w' ⟨rfl, rfl⟩)
              go_roundw
              case rel => exact ⟨j + 1, (k : Int), by omega, by go_num, rfl, trivial, HN.out⟩
              case measure => simp [intOf]; omega
    · obtain rfl : j = s.n := by omega
      have hlt' : ¬ ((s.n : Nat) : Int) < (s.n : Nat) := by omega
      have HE : Hid (R = true) := by
        have h9 := HJ.out
        rw [HS.out, List.drop_length, ownG] at h9
        exact h9
      clear HJ
      go_wp2
      go_ret
      exact ⟨ret_bool' (by rw [HE.out]), HB.out⟩
end Go.Proofs.YthhckhifaolmkaaGreat

namespace Go.Proofs.YthhckhifaolmkaaGreat
open Go.RowKit
set_option linter.unusedVariables false
set_option linter.unusedSimpArgs false

/-! ### every: at each kind of row -/
theorem all_take9 {α : Type} (p : α → Bool) (l : List α) (j : Nat) (x : α) (h : l[j]? = some x) : (l.take (j + 1)).all p = ((l.take j).all p && p x) := by
  rw [List.take_add_one, h, Option.toList_some, List.all_append]
  simp
theorem all_false9 {α : Type} {p : α → Bool} {l : List α} {j : Nat} {x : α} (h : l[j]? = some x) (hp : p x = false) : l.all p = false := by
  apply Bool.eq_false_iff.2
  intro h2
  have := List.all_eq_true.1 h2 x (List.mem_of_getElem? h)
  rw [hp] at this
  cases this
set_option maxHeartbeats 8000000 in
set_option maxRecDepth 100000 in
theorem every_tkr (w : World) (s : Sl) (l : List TkR) (hl : ∀ W, Below w.heap.size w W → RowsAt W 8 (tkrP W) s l) (f : Nat) (caps : Array Value) (eg : ∀ args W, (callFunc f args).run Tryz.prog W = .ok (.enter f args) W) (p : TkR → Bool)
    (hf : ∀ W, Below w.heap.size w W → ∀ x ∈ l, ∀ (s6 : Sl), RowsAt W 1 intP s6 x.own → Calls Tryz.prog f (#[.agg #[I x.prio, I x.ring, .bool x.full, I x.limit, .int .u32 (x.mask : Int), I x.inner, .slice s6.a s6.n s6.c, .int .u32 (x.auto : Int)]] ++ caps) W fun e w' => e = .returned (.bool (p x)) ∧ Below W.heap.size W w') :
    Calls Tryz.prog 91 #[.slice s.a s.n s.c, .func (.func f) #[] caps] w fun e w' => e = .returned (.bool (l.all p)) ∧ Below w.heap.size w w' := by
  have h0 := hl w (Below.refl _ _)
  have HS : Hid (s.n = l.length) := h0.n
  have hsc : s.n ≤ s.c := h0.c
  have hsm : s.c ≤ maxLen := h0.m
  unfold maxLen at hsm
  have HH : Hid (∀ W, Below w.heap.size w W → RowsAt W 8 (tkrP W) s l) := hl
  have HFF : Hid (∀ W, Below w.heap.size w W → ∀ x ∈ l, ∀ (s6 : Sl), RowsAt W 1 intP s6 x.own → Calls Tryz.prog f (#[.agg #[I x.prio, I x.ring, .bool x.full, I x.limit, .int .u32 (x.mask : Int), I x.inner, .slice s6.a s6.n s6.c, .int .u32 (x.auto : Int)]] ++ caps) W fun e w' => e = .returned (.bool (p x)) ∧ Below W.heap.size W w') := hf
  obtain ⟨R, hR⟩ : ∃ R, R = l.all p := ⟨_, rfl⟩
  rw [← hR]
  have HR : Hid (R = l.all p) := hR
  clear hl hR hf h0
  go_enter Tryz.func91, Tryz.ntmps91
  go_wp2
  go_loopw [6, 9] (fun _ iv wr => ∃ j : Nat, j ≤ s.n ∧ iv = .int .i64 j ∧ Hid ((l.take j).all p = true ∧ Below w.heap.size w wr)) (fun _ iv _ => s.n - (intOf iv).toNat)
  case atStart => exact ⟨0, by omega, rfl, by simp, Below.refl _ _⟩
  case round =>
    obtain ⟨j, hj, rfl, HJ⟩ := hrel
    by_cases hlt : j < s.n
    · have hlt' : (j : Int) < s.n := by omega
      obtain ⟨x, hx⟩ : ∃ x, l[j]? = some x := ⟨_, List.getElem?_eq_getElem (by rw [← HS.out]; exact hlt)⟩
      obtain ⟨g5, o5, e5, hg5, hr5⟩ := (HH.out _ HJ.out.2).row j x hx
      obtain ⟨u0, a0, q0⟩ := hr5 0 (by omega)
      have e0 : u0 = I x.prio := q0
      subst e0
      obtain ⟨u1, a1, q1⟩ := hr5 1 (by omega)
      have e1 : u1 = I x.ring := q1
      subst e1
      obtain ⟨u2, a2, q2⟩ := hr5 2 (by omega)
      have e2 : u2 = .bool x.full := q2
      subst e2
      obtain ⟨u3, a3, q3⟩ := hr5 3 (by omega)
      have e3 : u3 = I x.limit := q3
      subst e3
      obtain ⟨u4, a4, q4⟩ := hr5 4 (by omega)
      have e4 : u4 = .int .u32 (x.mask : Int) := q4
      subst e4
      obtain ⟨u5, a5, q5⟩ := hr5 5 (by omega)
      have e5 : u5 = I x.inner := q5
      subst e5
      obtain ⟨u6, a6, q6⟩ := hr5 6 (by omega)
      obtain ⟨s6, e6, r6⟩ := (show IntsV wr x.own u6 from q6)
      subst e6
      obtain ⟨u7, a7, q7⟩ := hr5 7 (by omega)
      have e7 : u7 = .int .u32 (x.auto : Int) := q7
      subst e7
      rw [Nat.add_zero] at a0
      have HB : Hid (Below w.heap.size w (wr.alloc (.cells #[I x.prio, I x.ring, .bool x.full, I x.limit, .int .u32 (x.mask : Int), I x.inner, .slice s6.a s6.n s6.c, .int .u32 (x.auto : Int)] 95))) := HJ.out.2.trans ((below_alloc wr _).mono HJ.out.2.size)
      have cx := HFF.out _ HB.out x (List.mem_of_getElem? hx) s6 (r6.below (below_alloc wr _) (fun _ _ _ _ h => h))
      have HT : Hid (p x = false → R = false) := fun ht => by rw [HR.out]; exact all_false9 hx ht
      have HA : Hid (p x = true → (l.take (j + 1)).all p = true) := fun ht => by rw [all_take9 _ _ j _ hx, HJ.out.1, ht]; rfl
      rw [e5]
      clear hx e5 HJ hr5 q0 q1 q2 q3 q4 q5 q6 q7
      cases he : p x with
      | false =>
        rw [he] at cx
        have HE : Hid (R = false) := HT.out he
        clear HT HA he
        go_wp2
        refine cx.mono ?_
        clear cx
        rintro e7 w7 ⟨rfl, hb7⟩
        have HB7 : Hid (Below w.heap.size w w7) := HB.out.trans (hb7.mono HB.out.size)
        clear hb7
        go_wp2
        go_ret
        exact ⟨ret_bool' HE.out.symm, HB7.out⟩
      | true =>
        rw [he] at cx
        have HA2 : Hid ((l.take (j + 1)).all p = true) := HA.out he
        clear HT HA he
        go_wp2
        refine cx.mono ?_
        clear cx
        rintro e7 w7 ⟨rfl, hb7⟩
        have HB7 : Hid (Below w.heap.size w w7) := HB.out.trans (hb7.mono HB.out.size)
        clear hb7
        go_wp2
        go_roundw
        case rel => exact ⟨j + 1, by omega, by go_num, HA2.out, HB7.out⟩
        case measure => simp [intOf]; omega
    · obtain rfl : j = s.n := by omega
      have hlt' : ¬ ((s.n : Nat) : Int) < (s.n : Nat) := by omega
      have HE : Hid (R = true) := by
        show _ = _
        rw [HR.out]
        have := HJ.out.1
        rwa [List.take_of_length_le (by rw [HS.out]; exact Nat.le_refl _)] at this
      have HB : Hid (Below w.heap.size w wr) := HJ.out.2
      clear HR HJ
      go_wp2
      go_ret
      exact ⟨ret_bool' HE.out.symm, HB.out⟩
set_option maxHeartbeats 8000000 in
set_option maxRecDepth 100000 in
theorem every_rsr (w : World) (s : Sl) (l : List RsR) (hl : ∀ W, Below w.heap.size w W → RowsAt W 2 rsrP s l) (f : Nat) (caps : Array Value) (eg : ∀ args W, (callFunc f args).run Tryz.prog W = .ok (.enter f args) W) (p : RsR → Bool)
    (hf : ∀ W, Below w.heap.size w W → ∀ x ∈ l,  Calls Tryz.prog f (#[.agg #[.bool x.inner, I x.ceil]] ++ caps) W fun e w' => e = .returned (.bool (p x)) ∧ Below W.heap.size W w') :
    Calls Tryz.prog 87 #[.slice s.a s.n s.c, .func (.func f) #[] caps] w fun e w' => e = .returned (.bool (l.all p)) ∧ Below w.heap.size w w' := by
  have h0 := hl w (Below.refl _ _)
  have HS : Hid (s.n = l.length) := h0.n
  have hsc : s.n ≤ s.c := h0.c
  have hsm : s.c ≤ maxLen := h0.m
  unfold maxLen at hsm
  have HH : Hid (∀ W, Below w.heap.size w W → RowsAt W 2 rsrP s l) := hl
  have HFF : Hid (∀ W, Below w.heap.size w W → ∀ x ∈ l,  Calls Tryz.prog f (#[.agg #[.bool x.inner, I x.ceil]] ++ caps) W fun e w' => e = .returned (.bool (p x)) ∧ Below W.heap.size W w') := hf
  obtain ⟨R, hR⟩ : ∃ R, R = l.all p := ⟨_, rfl⟩
  rw [← hR]
  have HR : Hid (R = l.all p) := hR
  clear hl hR hf h0
  go_enter Tryz.func87, Tryz.ntmps87
  go_wp2
  go_loopw [6, 9] (fun _ iv wr => ∃ j : Nat, j ≤ s.n ∧ iv = .int .i64 j ∧ Hid ((l.take j).all p = true ∧ Below w.heap.size w wr)) (fun _ iv _ => s.n - (intOf iv).toNat)
  case atStart => exact ⟨0, by omega, rfl, by simp, Below.refl _ _⟩
  case round =>
    obtain ⟨j, hj, rfl, HJ⟩ := hrel
    by_cases hlt : j < s.n
    · have hlt' : (j : Int) < s.n := by omega
      obtain ⟨x, hx⟩ : ∃ x, l[j]? = some x := ⟨_, List.getElem?_eq_getElem (by rw [← HS.out]; exact hlt)⟩
      obtain ⟨g5, o5, e5, hg5, hr5⟩ := (HH.out _ HJ.out.2).row j x hx
      obtain ⟨u0, a0, q0⟩ := hr5 0 (by omega)
      have e0 : u0 = .bool x.inner := q0
      subst e0
      obtain ⟨u1, a1, q1⟩ := hr5 1 (by omega)
      have e1 : u1 = I x.ceil := q1
      subst e1
      rw [Nat.add_zero] at a0
      have HB : Hid (Below w.heap.size w (wr.alloc (.cells #[.bool x.inner, I x.ceil] 151))) := HJ.out.2.trans ((below_alloc wr _).mono HJ.out.2.size)
      have cx := HFF.out _ HB.out x (List.mem_of_getElem? hx) 
      have HT : Hid (p x = false → R = false) := fun ht => by rw [HR.out]; exact all_false9 hx ht
      have HA : Hid (p x = true → (l.take (j + 1)).all p = true) := fun ht => by rw [all_take9 _ _ j _ hx, HJ.out.1, ht]; rfl
      rw [e5]
      clear hx e5 HJ hr5 q0 q1
      cases he : p x with
      | false =>
        rw [he] at cx
        have HE : Hid (R = false) := HT.out he
        clear HT HA he
        go_wp2
        refine cx.mono ?_
        clear cx
        rintro e7 w7 ⟨rfl, hb7⟩
        have HB7 : Hid (Below w.heap.size w w7) := HB.out.trans (hb7.mono HB.out.size)
        clear hb7
        go_wp2
        go_ret
        exact ⟨ret_bool' HE.out.symm, HB7.out⟩
      | true =>
        rw [he] at cx
        have HA2 : Hid ((l.take (j + 1)).all p = true) := HA.out he
        clear HT HA he
        go_wp2
        refine cx.mono ?_
        clear cx
        rintro e7 w7 ⟨rfl, hb7⟩
        have HB7 : Hid (Below w.heap.size w w7) := HB.out.trans (hb7.mono HB.out.size)
        clear hb7
        go_wp2
        go_roundw
        case rel => exact ⟨j + 1, by omega, by go_num, HA2.out, HB7.out⟩
        case measure => simp [intOf]; omega
    · obtain rfl : j = s.n := by omega
      have hlt' : ¬ ((s.n : Nat) : Int) < (s.n : Nat) := by omega
      have HE : Hid (R = true) := by
        show _ = _
        rw [HR.out]
        have := HJ.out.1
        rwa [List.take_of_length_le (by rw [HS.out]; exact Nat.le_refl _)] at this
      have HB : Hid (Below w.heap.size w wr) := HJ.out.2
      clear HR HJ
      go_wp2
      go_ret
      exact ⟨ret_bool' HE.out.symm, HB.out⟩
set_option maxHeartbeats 8000000 in
set_option maxRecDepth 100000 in
theorem every_ctr (w : World) (s : Sl) (l : List CtR) (hl : ∀ W, Below w.heap.size w W → RowsAt W 3 ctrP s l) (f : Nat) (caps : Array Value) (eg : ∀ args W, (callFunc f args).run Tryz.prog W = .ok (.enter f args) W) (p : CtR → Bool)
    (hf : ∀ W, Below w.heap.size w W → ∀ x ∈ l,  Calls Tryz.prog f (#[.agg #[.int .u32 (x.max : Int), .int .u32 (x.base : Int), .int .u32 (x.min : Int)]] ++ caps) W fun e w' => e = .returned (.bool (p x)) ∧ Below W.heap.size W w') :
    Calls Tryz.prog 97 #[.slice s.a s.n s.c, .func (.func f) #[] caps] w fun e w' => e = .returned (.bool (l.all p)) ∧ Below w.heap.size w w' := by
  have h0 := hl w (Below.refl _ _)
  have HS : Hid (s.n = l.length) := h0.n
  have hsc : s.n ≤ s.c := h0.c
  have hsm : s.c ≤ maxLen := h0.m
  unfold maxLen at hsm
  have HH : Hid (∀ W, Below w.heap.size w W → RowsAt W 3 ctrP s l) := hl
  have HFF : Hid (∀ W, Below w.heap.size w W → ∀ x ∈ l,  Calls Tryz.prog f (#[.agg #[.int .u32 (x.max : Int), .int .u32 (x.base : Int), .int .u32 (x.min : Int)]] ++ caps) W fun e w' => e = .returned (.bool (p x)) ∧ Below W.heap.size W w') := hf
  obtain ⟨R, hR⟩ : ∃ R, R = l.all p := ⟨_, rfl⟩
  rw [← hR]
  have HR : Hid (R = l.all p) := hR
  clear hl hR hf h0
  go_enter Tryz.func97, Tryz.ntmps97
  go_wp2
  go_loopw [6, 9] (fun _ iv wr => ∃ j : Nat, j ≤ s.n ∧ iv = .int .i64 j ∧ Hid ((l.take j).all p = true ∧ Below w.heap.size w wr)) (fun _ iv _ => s.n - (intOf iv).toNat)
  case atStart => exact ⟨0, by omega, rfl, by simp, Below.refl _ _⟩
  case round =>
    obtain ⟨j, hj, rfl, HJ⟩ := hrel
    by_cases hlt : j < s.n
    · have hlt' : (j : Int) < s.n := by omega
      obtain ⟨x, hx⟩ : ∃ x, l[j]? = some x := ⟨_, List.getElem?_eq_getElem (by rw [← HS.out]; exact hlt)⟩
      obtain ⟨g5, o5, e5, hg5, hr5⟩ := (HH.out _ HJ.out.2).row j x hx
      obtain ⟨u0, a0, q0⟩ := hr5 0 (by omega)
      have e0 : u0 = .int .u32 (x.max : Int) := q0
      subst e0
      obtain ⟨u1, a1, q1⟩ := hr5 1 (by omega)
      have e1 : u1 = .int .u32 (x.base : Int) := q1
      subst e1
      obtain ⟨u2, a2, q2⟩ := hr5 2 (by omega)
      have e2 : u2 = .int .u32 (x.min : Int) := q2
      subst e2
      rw [Nat.add_zero] at a0
      have HB : Hid (Below w.heap.size w (wr.alloc (.cells #[.int .u32 (x.max : Int), .int .u32 (x.base : Int), .int .u32 (x.min : Int)] 81))) := HJ.out.2.trans ((below_alloc wr _).mono HJ.out.2.size)
      have cx := HFF.out _ HB.out x (List.mem_of_getElem? hx) 
      have HT : Hid (p x = false → R = false) := fun ht => by rw [HR.out]; exact all_false9 hx ht
      have HA : Hid (p x = true → (l.take (j + 1)).all p = true) := fun ht => by rw [all_take9 _ _ j _ hx, HJ.out.1, ht]; rfl
      rw [e5]
      clear hx e5 HJ hr5 q0 q1 q2
      cases he : p x with
      | false =>
        rw [he] at cx
        have HE : Hid (R = false) := HT.out he
        clear HT HA he
        go_wp2
        refine cx.mono ?_
        clear cx
        rintro e7 w7 ⟨rfl, hb7⟩
        have HB7 : Hid (Below w.heap.size w w7) := HB.out.trans (hb7.mono HB.out.size)
        clear hb7
        go_wp2
        go_ret
        exact ⟨ret_bool' HE.out.symm, HB7.out⟩
      | true =>
        rw [he] at cx
        have HA2 : Hid ((l.take (j + 1)).all p = true) := HA.out he
        clear HT HA he
        go_wp2
        refine cx.mono ?_
        clear cx
        rintro e7 w7 ⟨rfl, hb7⟩
        have HB7 : Hid (Below w.heap.size w w7) := HB.out.trans (hb7.mono HB.out.size)
        clear hb7
        go_wp2
        go_roundw
        case rel => exact ⟨j + 1, by omega, by go_num, HA2.out, HB7.out⟩
        case measure => simp [intOf]; omega
    · obtain rfl : j = s.n := by omega
      have hlt' : ¬ ((s.n : Nat) : Int) < (s.n : Nat) := by omega
      have HE : Hid (R = true) := by
        show _ = _
        rw [HR.out]
        have := HJ.out.1
        rwa [List.take_of_length_le (by rw [HS.out]; exact Nat.le_refl _)] at this
      have HB : Hid (Below w.heap.size w wr) := HJ.out.2
      clear HR HJ
      go_wp2
      go_ret
      exact ⟨ret_bool' HE.out.symm, HB.out⟩
set_option maxHeartbeats 8000000 in
set_option maxRecDepth 100000 in
theorem every_alr (w : World) (s : Sl) (l : List AlR) (hl : ∀ W, Below w.heap.size w W → RowsAt W 7 alrP s l) (f : Nat) (caps : Array Value) (eg : ∀ args W, (callFunc f args).run Tryz.prog W = .ok (.enter f args) W) (p : AlR → Bool)
    (hf : ∀ W, Below w.heap.size w W → ∀ x ∈ l,  Calls Tryz.prog f (#[.agg #[I x.ctr, I x.ac.kind, I x.ac.task, .int .u32 (x.ac.mask : Int), .int .u32 (x.auto : Int), .int .u32 (x.time : Int), .int .u32 (x.cycle : Int)]] ++ caps) W fun e w' => e = .returned (.bool (p x)) ∧ Below W.heap.size W w') :
    Calls Tryz.prog 100 #[.slice s.a s.n s.c, .func (.func f) #[] caps] w fun e w' => e = .returned (.bool (l.all p)) ∧ Below w.heap.size w w' := by
  have h0 := hl w (Below.refl _ _)
  have HS : Hid (s.n = l.length) := h0.n
  have hsc : s.n ≤ s.c := h0.c
  have hsm : s.c ≤ maxLen := h0.m
  unfold maxLen at hsm
  have HH : Hid (∀ W, Below w.heap.size w W → RowsAt W 7 alrP s l) := hl
  have HFF : Hid (∀ W, Below w.heap.size w W → ∀ x ∈ l,  Calls Tryz.prog f (#[.agg #[I x.ctr, I x.ac.kind, I x.ac.task, .int .u32 (x.ac.mask : Int), .int .u32 (x.auto : Int), .int .u32 (x.time : Int), .int .u32 (x.cycle : Int)]] ++ caps) W fun e w' => e = .returned (.bool (p x)) ∧ Below W.heap.size W w') := hf
  obtain ⟨R, hR⟩ : ∃ R, R = l.all p := ⟨_, rfl⟩
  rw [← hR]
  have HR : Hid (R = l.all p) := hR
  clear hl hR hf h0
  go_enter Tryz.func100, Tryz.ntmps100
  go_wp2
  go_loopw [6, 9] (fun _ iv wr => ∃ j : Nat, j ≤ s.n ∧ iv = .int .i64 j ∧ Hid ((l.take j).all p = true ∧ Below w.heap.size w wr)) (fun _ iv _ => s.n - (intOf iv).toNat)
  case atStart => exact ⟨0, by omega, rfl, by simp, Below.refl _ _⟩
  case round =>
    obtain ⟨j, hj, rfl, HJ⟩ := hrel
    by_cases hlt : j < s.n
    · have hlt' : (j : Int) < s.n := by omega
      obtain ⟨x, hx⟩ : ∃ x, l[j]? = some x := ⟨_, List.getElem?_eq_getElem (by rw [← HS.out]; exact hlt)⟩
      obtain ⟨g5, o5, e5, hg5, hr5⟩ := (HH.out _ HJ.out.2).row j x hx
      obtain ⟨u0, a0, q0⟩ := hr5 0 (by omega)
      have e0 : u0 = I x.ctr := q0
      subst e0
      obtain ⟨u1, a1, q1⟩ := hr5 1 (by omega)
      have e1 : u1 = I x.ac.kind := q1
      subst e1
      obtain ⟨u2, a2, q2⟩ := hr5 2 (by omega)
      have e2 : u2 = I x.ac.task := q2
      subst e2
      obtain ⟨u3, a3, q3⟩ := hr5 3 (by omega)
      have e3 : u3 = .int .u32 (x.ac.mask : Int) := q3
      subst e3
      obtain ⟨u4, a4, q4⟩ := hr5 4 (by omega)
      have e4 : u4 = .int .u32 (x.auto : Int) := q4
      subst e4
      obtain ⟨u5, a5, q5⟩ := hr5 5 (by omega)
      have e5 : u5 = .int .u32 (x.time : Int) := q5
      subst e5
      obtain ⟨u6, a6, q6⟩ := hr5 6 (by omega)
      have e6 : u6 = .int .u32 (x.cycle : Int) := q6
      subst e6
      rw [Nat.add_zero] at a0
      have HB : Hid (Below w.heap.size w (wr.alloc (.cells #[I x.ctr, I x.ac.kind, I x.ac.task, .int .u32 (x.ac.mask : Int), .int .u32 (x.auto : Int), .int .u32 (x.time : Int), .int .u32 (x.cycle : Int)] 99))) := HJ.out.2.trans ((below_alloc wr _).mono HJ.out.2.size)
      have cx := HFF.out _ HB.out x (List.mem_of_getElem? hx) 
      have HT : Hid (p x = false → R = false) := fun ht => by rw [HR.out]; exact all_false9 hx ht
      have HA : Hid (p x = true → (l.take (j + 1)).all p = true) := fun ht => by rw [all_take9 _ _ j _ hx, HJ.out.1, ht]; rfl
      rw [e5]
      clear hx e5 HJ hr5 q0 q1 q2 q3 q4 q5 q6
      cases he : p x with
      | false =>
        rw [he] at cx
        have HE : Hid (R = false) := HT.out he
        clear HT HA he
        go_wp2
        refine cx.mono ?_
        clear cx
        rintro e7 w7 ⟨rfl, hb7⟩
        have HB7 : Hid (Below w.heap.size w w7) := HB.out.trans (hb7.mono HB.out.size)
        clear hb7
        go_wp2
        go_ret
        exact ⟨ret_bool' HE.out.symm, HB7.out⟩
      | true =>
        rw [he] at cx
        have HA2 : Hid ((l.take (j + 1)).all p = true) := HA.out he
        clear HT HA he
        go_wp2
        refine cx.mono ?_
        clear cx
        rintro e7 w7 ⟨rfl, hb7⟩
        have HB7 : Hid (Below w.heap.size w w7) := HB.out.trans (hb7.mono HB.out.size)
        clear hb7
        go_wp2
        go_roundw
        case rel => exact ⟨j + 1, by omega, by go_num, HA2.out, HB7.out⟩
        case measure => simp [intOf]; omega
    · obtain rfl : j = s.n := by omega
      have hlt' : ¬ ((s.n : Nat) : Int) < (s.n : Nat) := by omega
      have HE : Hid (R = true) := by
        show _ = _
        rw [HR.out]
        have := HJ.out.1
        rwa [List.take_of_length_le (by rw [HS.out]; exact Nat.le_refl _)] at this
      have HB : Hid (Below w.heap.size w wr) := HJ.out.2
      clear HR HJ
      go_wp2
      go_ret
      exact ⟨ret_bool' HE.out.symm, HB.out⟩
set_option maxHeartbeats 8000000 in
set_option maxRecDepth 100000 in
theorem every_isr (w : World) (s : Sl) (l : List IsR) (hl : ∀ W, Below w.heap.size w W → RowsAt W 3 (isrP W) s l) (f : Nat) (caps : Array Value) (eg : ∀ args W, (callFunc f args).run Tryz.prog W = .ok (.enter f args) W) (p : IsR → Bool)
    (hf : ∀ W, Below w.heap.size w W → ∀ x ∈ l, ∀ (s2 : Sl), RowsAt W 1 intP s2 x.own → Calls Tryz.prog f (#[.agg #[I x.cat, I x.prio, .slice s2.a s2.n s2.c]] ++ caps) W fun e w' => e = .returned (.bool (p x)) ∧ Below W.heap.size W w') :
    Calls Tryz.prog 106 #[.slice s.a s.n s.c, .func (.func f) #[] caps] w fun e w' => e = .returned (.bool (l.all p)) ∧ Below w.heap.size w w' := by
  have h0 := hl w (Below.refl _ _)
  have HS : Hid (s.n = l.length) := h0.n
  have hsc : s.n ≤ s.c := h0.c
  have hsm : s.c ≤ maxLen := h0.m
  unfold maxLen at hsm
  have HH : Hid (∀ W, Below w.heap.size w W → RowsAt W 3 (isrP W) s l) := hl
  have HFF : Hid (∀ W, Below w.heap.size w W → ∀ x ∈ l, ∀ (s2 : Sl), RowsAt W 1 intP s2 x.own → Calls Tryz.prog f (#[.agg #[I x.cat, I x.prio, .slice s2.a s2.n s2.c]] ++ caps) W fun e w' => e = .returned (.bool (p x)) ∧ Below W.heap.size W w') := hf
  obtain ⟨R, hR⟩ : ∃ R, R = l.all p := ⟨_, rfl⟩
  rw [← hR]
  have HR : Hid (R = l.all p) := hR
  clear hl hR hf h0
  go_enter Tryz.func106, Tryz.ntmps106
  go_wp2
  go_loopw [6, 9] (fun _ iv wr => ∃ j : Nat, j ≤ s.n ∧ iv = .int .i64 j ∧ Hid ((l.take j).all p = true ∧ Below w.heap.size w wr)) (fun _ iv _ => s.n - (intOf iv).toNat)
  case atStart => exact ⟨0, by omega, rfl, by simp, Below.refl _ _⟩
  case round =>
    obtain ⟨j, hj, rfl, HJ⟩ := hrel
    by_cases hlt : j < s.n
    · have hlt' : (j : Int) < s.n := by omega
      obtain ⟨x, hx⟩ : ∃ x, l[j]? = some x := ⟨_, List.getElem?_eq_getElem (by rw [← HS.out]; exact hlt)⟩
      obtain ⟨g5, o5, e5, hg5, hr5⟩ := (HH.out _ HJ.out.2).row j x hx
      obtain ⟨u0, a0, q0⟩ := hr5 0 (by omega)
      have e0 : u0 = I x.cat := q0
      subst e0
      obtain ⟨u1, a1, q1⟩ := hr5 1 (by omega)
      have e1 : u1 = I x.prio := q1
      subst e1
      obtain ⟨u2, a2, q2⟩ := hr5 2 (by omega)
      obtain ⟨s2, e2, r2⟩ := (show IntsV wr x.own u2 from q2)
      subst e2
      rw [Nat.add_zero] at a0
      have HB : Hid (Below w.heap.size w (wr.alloc (.cells #[I x.cat, I x.prio, .slice s2.a s2.n s2.c] 88))) := HJ.out.2.trans ((below_alloc wr _).mono HJ.out.2.size)
      have cx := HFF.out _ HB.out x (List.mem_of_getElem? hx) s2 (r2.below (below_alloc wr _) (fun _ _ _ _ h => h))
      have HT : Hid (p x = false → R = false) := fun ht => by rw [HR.out]; exact all_false9 hx ht
      have HA : Hid (p x = true → (l.take (j + 1)).all p = true) := fun ht => by rw [all_take9 _ _ j _ hx, HJ.out.1, ht]; rfl
      rw [e5]
      clear hx e5 HJ hr5 q0 q1 q2
      cases he : p x with
      | false =>
        rw [he] at cx
        have HE : Hid (R = false) := HT.out he
        clear HT HA he
        go_wp2
        refine cx.mono ?_
        clear cx
        rintro e7 w7 ⟨rfl, hb7⟩
        have HB7 : Hid (Below w.heap.size w w7) := HB.out.trans (hb7.mono HB.out.size)
        clear hb7
        go_wp2
        go_ret
        exact ⟨ret_bool' HE.out.symm, HB7.out⟩
      | true =>
        rw [he] at cx
        have HA2 : Hid ((l.take (j + 1)).all p = true) := HA.out he
        clear HT HA he
        go_wp2
        refine cx.mono ?_
        clear cx
        rintro e7 w7 ⟨rfl, hb7⟩
        have HB7 : Hid (Below w.heap.size w w7) := HB.out.trans (hb7.mono HB.out.size)
        clear hb7
        go_wp2
        go_roundw
        case rel => exact ⟨j + 1, by omega, by go_num, HA2.out, HB7.out⟩
        case measure => simp [intOf]; omega
    · obtain rfl : j = s.n := by omega
      have hlt' : ¬ ((s.n : Nat) : Int) < (s.n : Nat) := by omega
      have HE : Hid (R = true) := by
        show _ = _
        rw [HR.out]
        have := HJ.out.1
        rwa [List.take_of_length_le (by rw [HS.out]; exact Nat.le_refl _)] at this
      have HB : Hid (Below w.heap.size w wr) := HJ.out.2
      clear HR HJ
      go_wp2
      go_ret
      exact ⟨ret_bool' HE.out.symm, HB.out⟩
set_option maxHeartbeats 8000000 in
set_option maxRecDepth 100000 in
theorem every_msr (w : World) (s : Sl) (l : List MsR) (hl : ∀ W, Below w.heap.size w W → RowsAt W 8 msrP s l) (f : Nat) (caps : Array Value) (eg : ∀ args W, (callFunc f args).run Tryz.prog W = .ok (.enter f args) W) (p : MsR → Bool)
    (hf : ∀ W, Below w.heap.size w W → ∀ x ∈ l,  Calls Tryz.prog f (#[.agg #[I x.kind, I x.len, I x.frm, .int .u64 (x.init : Int), I x.queue, I x.ac.kind, I x.ac.task, .int .u32 (x.ac.mask : Int)]] ++ caps) W fun e w' => e = .returned (.bool (p x)) ∧ Below W.heap.size W w') :
    Calls Tryz.prog 109 #[.slice s.a s.n s.c, .func (.func f) #[] caps] w fun e w' => e = .returned (.bool (l.all p)) ∧ Below w.heap.size w w' := by
  have h0 := hl w (Below.refl _ _)
  have HS : Hid (s.n = l.length) := h0.n
  have hsc : s.n ≤ s.c := h0.c
  have hsm : s.c ≤ maxLen := h0.m
  unfold maxLen at hsm
  have HH : Hid (∀ W, Below w.heap.size w W → RowsAt W 8 msrP s l) := hl
  have HFF : Hid (∀ W, Below w.heap.size w W → ∀ x ∈ l,  Calls Tryz.prog f (#[.agg #[I x.kind, I x.len, I x.frm, .int .u64 (x.init : Int), I x.queue, I x.ac.kind, I x.ac.task, .int .u32 (x.ac.mask : Int)]] ++ caps) W fun e w' => e = .returned (.bool (p x)) ∧ Below W.heap.size W w') := hf
  obtain ⟨R, hR⟩ : ∃ R, R = l.all p := ⟨_, rfl⟩
  rw [← hR]
  have HR : Hid (R = l.all p) := hR
  clear hl hR hf h0
  go_enter Tryz.func109, Tryz.ntmps109
  go_wp2
  go_loopw [6, 9] (fun _ iv wr => ∃ j : Nat, j ≤ s.n ∧ iv = .int .i64 j ∧ Hid ((l.take j).all p = true ∧ Below w.heap.size w wr)) (fun _ iv _ => s.n - (intOf iv).toNat)
  case atStart => exact ⟨0, by omega, rfl, by simp, Below.refl _ _⟩
  case round =>
    obtain ⟨j, hj, rfl, HJ⟩ := hrel
    by_cases hlt : j < s.n
    · have hlt' : (j : Int) < s.n := by omega
      obtain ⟨x, hx⟩ : ∃ x, l[j]? = some x := ⟨_, List.getElem?_eq_getElem (by rw [← HS.out]; exact hlt)⟩
      obtain ⟨g5, o5, e5, hg5, hr5⟩ := (HH.out _ HJ.out.2).row j x hx
      obtain ⟨u0, a0, q0⟩ := hr5 0 (by omega)
      have e0 : u0 = I x.kind := q0
      subst e0
      obtain ⟨u1, a1, q1⟩ := hr5 1 (by omega)
      have e1 : u1 = I x.len := q1
      subst e1
      obtain ⟨u2, a2, q2⟩ := hr5 2 (by omega)
      have e2 : u2 = I x.frm := q2
      subst e2
      obtain ⟨u3, a3, q3⟩ := hr5 3 (by omega)
      have e3 : u3 = .int .u64 (x.init : Int) := q3
      subst e3
      obtain ⟨u4, a4, q4⟩ := hr5 4 (by omega)
      have e4 : u4 = I x.queue := q4
      subst e4
      obtain ⟨u5, a5, q5⟩ := hr5 5 (by omega)
      have e5 : u5 = I x.ac.kind := q5
      subst e5
      obtain ⟨u6, a6, q6⟩ := hr5 6 (by omega)
      have e6 : u6 = I x.ac.task := q6
      subst e6
      obtain ⟨u7, a7, q7⟩ := hr5 7 (by omega)
      have e7 : u7 = .int .u32 (x.ac.mask : Int) := q7
      subst e7
      rw [Nat.add_zero] at a0
      have HB : Hid (Below w.heap.size w (wr.alloc (.cells #[I x.kind, I x.len, I x.frm, .int .u64 (x.init : Int), I x.queue, I x.ac.kind, I x.ac.task, .int .u32 (x.ac.mask : Int)] 184))) := HJ.out.2.trans ((below_alloc wr _).mono HJ.out.2.size)
      have cx := HFF.out _ HB.out x (List.mem_of_getElem? hx) 
      have HT : Hid (p x = false → R = false) := fun ht => by rw [HR.out]; exact all_false9 hx ht
      have HA : Hid (p x = true → (l.take (j + 1)).all p = true) := fun ht => by rw [all_take9 _ _ j _ hx, HJ.out.1, ht]; rfl
      rw [e5]
      clear hx e5 HJ hr5 q0 q1 q2 q3 q4 q5 q6 q7
      cases he : p x with
      | false =>
        rw [he] at cx
        have HE : Hid (R = false) := HT.out he
        clear HT HA he
        go_wp2
        refine cx.mono ?_
        clear cx
        rintro e7 w7 ⟨rfl, hb7⟩
        have HB7 : Hid (Below w.heap.size w w7) := HB.out.trans (hb7.mono HB.out.size)
        clear hb7
        go_wp2
        go_ret
        exact ⟨ret_bool' HE.out.symm, HB7.out⟩
      | true =>
        rw [he] at cx
        have HA2 : Hid ((l.take (j + 1)).all p = true) := HA.out he
        clear HT HA he
        go_wp2
        refine cx.mono ?_
        clear cx
        rintro e7 w7 ⟨rfl, hb7⟩
        have HB7 : Hid (Below w.heap.size w w7) := HB.out.trans (hb7.mono HB.out.size)
        clear hb7
        go_wp2
        go_roundw
        case rel => exact ⟨j + 1, by omega, by go_num, HA2.out, HB7.out⟩
        case measure => simp [intOf]; omega
    · obtain rfl : j = s.n := by omega
      have hlt' : ¬ ((s.n : Nat) : Int) < (s.n : Nat) := by omega
      have HE : Hid (R = true) := by
        show _ = _
        rw [HR.out]
        have := HJ.out.1
        rwa [List.take_of_length_le (by rw [HS.out]; exact Nat.le_refl _)] at this
      have HB : Hid (Below w.heap.size w wr) := HJ.out.2
      clear HR HJ
      go_wp2
      go_ret
      exact ⟨ret_bool' HE.out.symm, HB.out⟩
end Go.Proofs.YthhckhifaolmkaaGreat

