import Derived.Test.YtmllocfeflhjoaaGreatXQdb
import Derived.Laws.StructEq
import Derived.Test.YtmllocfeflhjoaaGreatXQl
namespace Go.Proofs.YtmllocfeflhjoaaGreat
open Go.RowKit Go.Maps Go.Shelf Go.Sort
open Go.Proofs.YtmllocfeflhjoaaGreat.St (Fx Fz iQ iP iV)
set_option linter.unusedVariables false
set_option linter.unusedSimpArgs false
set_option maxRecDepth 100000
set_option maxHeartbeats 8000000
/-- owners compared -/
theorem eql_own19 (w : World) (x y : Own) : (binOp .eql 23 (.agg #[.bool x.isr, I x.id]) (.agg #[.bool y.isr, I y.id])).run Tryz.prog w = .ok (.bool (decide (x = y))) w := by
  obtain ⟨b, n⟩ := x
  obtain ⟨c, m⟩ := y
  by_cases h1 : b = c <;> by_cases h2 : n = m <;> simp [go_sem, h1, h2]
section
variable {W0 w w' : World} {tb : Tb} {v : Ts} {P : Nat} {a b : Value} {L : Tks} {i : List Bool} {g : Gt}
/-- the place of what an owner took last, of the first k takes -/
def laK (o : Own) (L : Tks) : Nat → Int
  | 0 => -1
  | k + 1 => match L[k]? with
    | some t => if t.1 = o then (k : Int) else laK o L k
    | none => laK o L k
theorem laK_eq {o : Own} {L : Tks} {k : Nat} {t : Own × Int} (h : L[k]? = some t) : laK o L (k + 1) = if t.1 = o then (k : Int) else laK o L k := by rw [laK, h]
theorem dLast (h : Dl W0 w tb v P a b L i g) (o : Own) : Calls Tryz.prog 89 #[lp P, .agg #[.bool o.isr, I o.id]] w fun e w' => e = .returned (I (laK o L L.length)) ∧ Below w.heap.size w w' := by
  have hb := below_alloc w (.cells #[.bool o.isr, I o.id] 23)
  obtain ⟨y0, y1⟩ := box_own w o
  have h1 := h.below hb
  have hl : L.length ≤ 65 := h.m
  have HB : Hid (Below w.heap.size w (w.alloc (.cells #[.bool o.isr, I o.id] 23))) := hb
  clear h hb
  go_enter Tryz.func89, Tryz.ntmps89
  go_upto_region 1 with fail
  generalize w.alloc (.cells #[.bool o.isr, I o.id] 23) = w1 at *
  have HH : Hid (∀ n, Dl W0 (w1.drewN n) tb v P a b L i g) := fun n => h1.below (St.below_drewN n (Below.refl _ _))
  have HY : Hid (∀ n, (w1.drewN n).cell? ⟨w.heap.size, 0, none⟩ = some (.bool o.isr) ∧ (w1.drewN n).cell? ⟨w.heap.size, 1, none⟩ = some (I o.id)) := fun n => ⟨y0, y1⟩
  have HD : Hid (∀ n, Below w.heap.size w (w1.drewN n)) := fun n => St.below_drewN n HB.out
  obtain ⟨a2, cc, rfl⟩ := own_slk19 h1.q
  clear h1 y0 y1 HB
  go_wp2
  go_loopw [5, 6] (fun v5 v6 wr => ∃ k n : Nat, k ≤ L.length ∧ v5 = I (laK o L k) ∧ v6 = I k ∧ wr = w1.drewN n) (fun _ v6 _ => L.length - (intOf v6).toNat)
  case atStart => exact ⟨0, 0, by omega, rfl, rfl, rfl⟩
  case round =>
    obtain ⟨k, n, hk, rfl, rfl, rfl⟩ := hrel
    have h2 := HH.out n
    obtain ⟨y0, y1⟩ := HY.out n
    obtain ⟨-, -, -, c13, -, -, -, -⟩ := h2.cells
    by_cases hlt : k < L.length
    · have hltI : (k : Int) < L.length := by omega
      obtain ⟨x, hx⟩ : ∃ x, L[k]? = some x := ⟨_, List.getElem?_eq_getElem hlt⟩
      obtain ⟨g1, k1, e1, q1, q2, q3⟩ := h2.at hx
      cases e1
      have hE := fun w => eql_own19 w x.1 o
      have HL := laK_eq (o := o) hx
      by_cases h0 : x.1 = o
      · rw [if_pos h0] at HL
        rw [decide_eq_true h0] at hE
        have HLh : Hid (laK o L (k + 1) = (k : Int)) := HL
        have HG : Hid (∀ m, ∃ m', (w1.drewN n).drewN m = w1.drewN m') := fun m => ⟨_, St.drewN_add _ _ _⟩
        clear HL h2 hx h0
        generalize hz : laK o L k = z at *
        generalize w1.drewN n = w2 at *
        go_upto_region 5 with fail
        go_quiet (fail)
        go_wp2
        go_roundw
        case rel =>
          obtain ⟨m', hm⟩ := HG.out _
          exact ⟨k + 1, m', by omega, by rw [HLh.out], by go_num, hm⟩
        case measure => simp [intOf]; omega
      · rw [if_neg h0] at HL
        rw [decide_eq_false h0] at hE
        have HLh : Hid (laK o L (k + 1) = laK o L k) := HL
        have HG : Hid (∀ m, ∃ m', (w1.drewN n).drewN m = w1.drewN m') := fun m => ⟨_, St.drewN_add _ _ _⟩
        clear HL h2 hx h0
        generalize hz : laK o L k = z at *
        generalize w1.drewN n = w2 at *
        go_upto_region 5 with fail
        go_quiet (fail)
        go_wp2
        go_roundw
        case rel =>
          obtain ⟨m', hm⟩ := HG.out _
          exact ⟨k + 1, m', by omega, by rw [HLh.out], by go_num, hm⟩
        case measure => simp [intOf]; omega
    · obtain rfl : k = L.length := by omega
      have hge : ¬ ((L.length : Int) < L.length) := by omega
      clear h2 y0 y1
      generalize hz : laK o L L.length = z at *
      go_wp2
      go_ret
      exact ⟨rfl, HD.out _⟩
end
end Go.Proofs.YtmllocfeflhjoaaGreat

namespace Go.Proofs.YtmllocfeflhjoaaGreat
open Go.RowKit Go.Maps Go.Shelf Go.Sort
open Go.Proofs.YtmllocfeflhjoaaGreat.St (Fx Fz iQ iP iV)
set_option linter.unusedVariables false
set_option linter.unusedSimpArgs false
set_option maxRecDepth 100000
set_option maxHeartbeats 8000000
section
variable {W0 w w' : World} {tb : Tb} {v : Ts} {P : Nat} {a b : Value} {L : Tks} {i : List Bool} {g : Gt}
theorem obs_cases {tb : Tb} {o : Own} {q : Ob} (h : obs tb o = some q) : (∃ (j : Nat) (x : IsR), o = ⟨true, (j : Int)⟩ ∧ tb.isrs[j]? = some x ∧ q = ⟨x.prio, x.cat, -1, x.own⟩) ∨ (∃ (j : Nat) (x : TkR), o = ⟨false, (j : Int)⟩ ∧ tb.tasks[j]? = some x ∧ q = ⟨x.prio, 0, x.inner, x.own⟩) := by
  obtain ⟨c, id⟩ := o
  unfold obs at h
  by_cases h0 : id < 0
  · simp [h0] at h
  · obtain ⟨j, rfl⟩ := Int.eq_ofNat_of_zero_le (show 0 ≤ id by omega)
    cases c with
    | true =>
      simp at h
      obtain ⟨x, hx, rfl⟩ := h
      exact .inl ⟨j, x, rfl, hx, rfl⟩
    | false =>
      simp at h
      obtain ⟨x, hx, rfl⟩ := h
      exact .inr ⟨j, x, rfl, hx, rfl⟩
theorem dBase (h : Dl W0 w tb v P a b L i g) {o : Own} {q : Ob} (ho : obs tb o = some q) : Calls Tryz.prog 87 #[lp P, .agg #[.bool o.isr, I o.id]] w fun e w' => ∃ sl : Sl, e = .returned (.tuple #[I q.prio, .slice sl.a sl.n sl.c]) ∧ RowsAt w' 1 intP sl q.own ∧ Below w.heap.size w w' := by
  have hb := below_alloc w (.cells #[.bool o.isr, I o.id] 23)
  obtain ⟨y0, y1⟩ := box_own w o
  have h1 := h.below hb
  have HB : Hid (Below w.heap.size w (w.alloc (.cells #[.bool o.isr, I o.id] 23))) := hb
  clear h hb
  rcases obs_cases ho with ⟨j, x, rfl, hx, rfl⟩ | ⟨j, x, rfl, hx, rfl⟩
  · go_enter Tryz.func87, Tryz.ntmps87
    go_upto_region 1 with fail
    generalize w.alloc (.cells #[.bool true, I j] 23) = w1 at *
    obtain ⟨-, -, c7, -, -, -, -, -⟩ := h1.cells
    obtain ⟨n1, n2, n3⟩ := h1.ns
    have hj : (j : Int) < v.i.n := by have := (List.getElem?_eq_some_iff.1 hx).1; omega
    obtain ⟨g1, off, s2, e1, hg, q0, q1, q2, hR⟩ := isr_at h1.t hx
    have HR : Hid (∀ n, RowsAt (w1.drewN n) 1 intP s2 x.own) := fun n => hR.below (St.below_drewN n (Below.refl _ _)) (fun _ _ _ _ h => h)
    have HD : Hid (∀ n, Below w.heap.size w (w1.drewN n)) := fun n => St.below_drewN n HB.out
    rw [e1] at c7
    clear h1 hx ho hR HB e1 hg n1 n2 n3
    go_upto_region 2 with fail
    go_quiet (fail)
    go_wp2
    go_ret2
    exact ⟨s2, rfl, HR.out _, HD.out _⟩
  · go_enter Tryz.func87, Tryz.ntmps87
    go_upto_region 1 with fail
    generalize w.alloc (.cells #[.bool false, I j] 23) = w1 at *
    obtain ⟨c2, -, -, -, -, -, -, -⟩ := h1.cells
    obtain ⟨n1, n2, n3⟩ := h1.ns
    have hj : (j : Int) < v.t.n := by have := (List.getElem?_eq_some_iff.1 hx).1; omega
    obtain ⟨g1, off, s2, e1, hg, q0, -, -, -, -, -, q2, -, hR⟩ := tkr_at h1.t hx
    have HR : Hid (∀ n, RowsAt (w1.drewN n) 1 intP s2 x.own) := fun n => hR.below (St.below_drewN n (Below.refl _ _)) (fun _ _ _ _ h => h)
    have HD : Hid (∀ n, Below w.heap.size w (w1.drewN n)) := fun n => St.below_drewN n HB.out
    rw [e1] at c2
    clear h1 hx ho hR HB e1 hg n1 n2 n3
    go_upto_region 3 with fail
    go_quiet (fail)
    go_wp2
    go_ret2
    exact ⟨s2, rfl, HR.out _, HD.out _⟩
theorem dKnown (h : Dl W0 w tb v P a b L i g) (o : Own) (r : Int) : Calls Tryz.prog 86 #[lp P, .agg #[.bool o.isr, I o.id], I r] w fun e w' => e = .returned (.bool (asks tb o r)) ∧ Below w.heap.size w w' := by
  have hb := below_alloc w (.cells #[.bool o.isr, I o.id] 23)
  obtain ⟨y0, y1⟩ := box_own w o
  have h1 := h.below hb
  have HB : Hid (∀ w', Below (w.alloc (.cells #[.bool o.isr, I o.id] 23)).heap.size (w.alloc (.cells #[.bool o.isr, I o.id] 23)) w' → Below w.heap.size w w') := fun w' hb' => hb.trans (hb'.mono (by simp))
  have hT := dThere h1 o
  have HL : Hid (∀ w', Below (w.alloc (.cells #[.bool o.isr, I o.id] 23)).heap.size (w.alloc (.cells #[.bool o.isr, I o.id] 23)) w' → Dl W0 w' tb v P a b L i g) := fun w' hb' => h1.below hb'
  obtain ⟨n1, n2, n3⟩ := h.ns
  obtain ⟨R, hR⟩ : ∃ R, R = asks tb o r := ⟨_, rfl⟩
  rw [← hR]
  unfold asks at hR
  clear h hb
  generalize (obs tb o).isSome = s at *
  cases s with
  | false =>
    have HR : Hid (R = false) := by show R = false; rw [hR]; rfl
    clear hR h1
    go_enter Tryz.func86, Tryz.ntmps86
    go_upto_region 1 with fail
    generalize w.alloc (.cells #[.bool o.isr, I o.id] 23) = w1 at *
    go_wp2_with (first | (go_at_call 90; refine hT.mono ?_; clear hT; rintro e w2 ⟨rfl, hb2⟩))
    go_ret
    exact ⟨by rw [HR.out]; rfl, HB.out _ hb2⟩
  | true =>
    by_cases h0 : 0 ≤ r
    · by_cases h2 : r < v.r.n
      · obtain ⟨k, rfl⟩ := Int.eq_ofNat_of_zero_le h0
        obtain ⟨x, hx⟩ : ∃ x, tb.ress[k]? = some x := ⟨_, List.getElem?_eq_getElem (by omega)⟩
        have HR : Hid (R = !x.inner) := by show R = _; rw [hR]; simp [hx]
        clear hR h1
        go_enter Tryz.func86, Tryz.ntmps86
        go_upto_region 1 with fail
        generalize w.alloc (.cells #[.bool o.isr, I o.id] 23) = w1 at *
        have HX : Hid (tb.ress[k]? = some x) := hx
        clear hx n1 n2 n3 h0
        go_wp2_with (first | (go_at_call 90; refine hT.mono ?_; clear hT; rintro e w2 ⟨rfl, hb2⟩; have h2' := HL.out _ hb2; obtain ⟨-, c4, -, -, -, -, -, -⟩ := h2'.cells; obtain ⟨g1, off, e1, hg, q0, -⟩ := rsr_at h2'.t HX.out; rw [e1] at c4; clear h2' hg e1; replace hb2 : Hid _ := hb2))
        go_ret
        exact ⟨by rw [HR.out]; rfl, HB.out _ hb2.out⟩
      · have HR : Hid (R = false) := by show R = false; rw [hR, List.getElem?_eq_none (by omega)]; simp
        clear hR h1
        go_enter Tryz.func86, Tryz.ntmps86
        go_upto_region 1 with fail
        generalize w.alloc (.cells #[.bool o.isr, I o.id] 23) = w1 at *
        go_wp2_with (first | (go_at_call 90; refine hT.mono ?_; clear hT; rintro e w2 ⟨rfl, hb2⟩; obtain ⟨c2, c4, c7, c13, c14, c15, c16, c17⟩ := (HL.out _ hb2).cells; replace hb2 : Hid _ := hb2))
        go_ret
        exact ⟨by rw [HR.out]; rfl, HB.out _ hb2.out⟩
    · have h0b : r < 0 := by omega
      have HR : Hid (R = false) := by show R = false; rw [hR, decide_eq_false h0]; rfl
      clear hR h1
      go_enter Tryz.func86, Tryz.ntmps86
      go_upto_region 1 with fail
      generalize w.alloc (.cells #[.bool o.isr, I o.id] 23) = w1 at *
      go_wp2_with (first | (go_at_call 90; refine hT.mono ?_; clear hT; rintro e w2 ⟨rfl, hb2⟩))
      go_ret
      exact ⟨by rw [HR.out]; rfl, HB.out _ hb2⟩
end
end Go.Proofs.YtmllocfeflhjoaaGreat

namespace Go.Proofs.YtmllocfeflhjoaaGreat
open Go.RowKit Go.Maps Go.Shelf Go.Sort
open Go.Proofs.YtmllocfeflhjoaaGreat.St (Fx Fz iQ iP iV)
set_option linter.unusedVariables false
set_option linter.unusedSimpArgs false
set_option maxRecDepth 100000
set_option maxHeartbeats 8000000

/-! ### The gate -/
section
variable {w w' : World} {tb : Tb} {Z : Nat → Prop} {y : Ly} {B : Nat} {s : Ls}
def okG (g : Gt) : Prop := 0 ≤ g.all ∧ g.all ≤ 255 ∧ 0 ≤ g.os ∧ g.os ≤ 255
theorem Lk.setG (h : Lk w tb Z y B s) {g : Gt} (hg : okG g) (hf : Fz (fun b => b = B) w w') (ho : w'.heap[B]? = some (.cells #[.slice y.rs.a y.rs.n y.rs.c, .map (some y.mo), .map (some y.mh), .bool g.shut, I g.all, I g.os] 32)) : Lk w' tb Z y B ⟨s.L, s.i, g⟩ ∧ Fz (y.M B) w w' := by
  have hz : ∀ b, Z b → ¬ (b = B) := fun b hb e => h.z b hb (.inl e)
  refine ⟨⟨⟨h.ok.nd, h.ok.own, h.ok.i, hg⟩, h.tk, ho, rows_kept h.r h.zr (fun b hb hlt => hf.block b hlt (hz b hb)) hf.size, h.zr, h.m.kept (hf.block _ h.m.lt (h.m.ne h.o).symm), h.n, h.h.kept (hf.block _ h.h.lt (h.h.ne h.o).symm), h.ne, h.pn, fun o b hob => ?_, h.inj, h.z⟩, hf.mono (fun x e => .inl e)⟩
  obtain ⟨hw, q, hq, hB, hzz⟩ := h.ps o b hob
  have ha := h.apt hq
  exact ⟨hw, q, hq, hB.kept hf hzz ha.a.1 ha.a.2.1 ha.a.2.2 hz, hzz⟩
theorem setB {B : Nat} {a b c d e f v : Value} {t : TypeId} (h : w.heap[B]? = some (.cells #[a, b, c, d, e, f] t)) : (w.setCell ⟨B, 3, none⟩ v).heap[B]? = some (.cells #[a, b, c, v, e, f] t) ∧ (w.setCell ⟨B, 4, none⟩ v).heap[B]? = some (.cells #[a, b, c, d, v, f] t) ∧ (w.setCell ⟨B, 5, none⟩ v).heap[B]? = some (.cells #[a, b, c, d, e, v] t) :=
  ⟨heap_setCell_same _ B 3 _ _ _ h, heap_setCell_same _ B 4 _ _ _ h, heap_setCell_same _ B 5 _ _ _ h⟩
theorem fz_set (w : World) (B k : Nat) (v : Value) : Fz (fun b => b = B) w (w.setCell ⟨B, k, none⟩ v) := (Fz.refl (fun b => b = B) w).set (.inl rfl) _ _
theorem shut_any (h : Lk w tb Z y B s) (x : Bool) : Calls Tryz.prog 42 #[lp B, .bool x] w fun e w' => e = .returned (I 0) ∧ Lk w' tb Z y B ⟨s.L, s.i, ⟨x, s.g.all, s.g.os⟩⟩ ∧ Fz (y.M B) w w' := by
  have hN := none_any h
  obtain ⟨c0, c1, c2, c3, c4, c5⟩ := h.cells
  have hf := h.frz 3
  have HK : Hid _ := h.setG (g := ⟨x, s.g.all, s.g.os⟩) h.ok.g (fz_set w B 3 (.bool x)) (setB h.o).1
  clear h
  go_enter Tryz.func42, Tryz.ntmps42
  go_wp2_with (first | (go_at_call 35; refine hN.mono ?_; clear hN; rintro e w1 ⟨rfl, hw1⟩; cases hw1.symm))
  go_ret
  exact ⟨rfl, HK.out⟩
theorem Close_any (h : Lk w tb Z y B s) : Calls Tryz.prog 13 #[lp B] w fun e w' => e = .returned (I 0) ∧ Lk w' tb Z y B ⟨s.L, s.i, ⟨true, s.g.all, s.g.os⟩⟩ ∧ Fz (y.M B) w w' := by
  have hN := shut_any h true
  clear h
  go_enter Tryz.func13, Tryz.ntmps13
  go_wp2_with (first | (go_at_call 42; refine hN.mono ?_; clear hN; rintro e w1 ⟨rfl, h1, h2⟩))
  go_ret
  exact ⟨rfl, h1, h2⟩
theorem Open_any (h : Lk w tb Z y B s) : Calls Tryz.prog 25 #[lp B] w fun e w' => e = .returned (I 0) ∧ Lk w' tb Z y B ⟨s.L, s.i, ⟨false, s.g.all, s.g.os⟩⟩ ∧ Fz (y.M B) w w' := by
  have hN := shut_any h false
  clear h
  go_enter Tryz.func25, Tryz.ntmps25
  go_wp2_with (first | (go_at_call 42; refine hN.mono ?_; clear hN; rintro e w1 ⟨rfl, h1, h2⟩))
  go_ret
  exact ⟨rfl, h1, h2⟩
/-- one more, or one fewer -/
def cntG (g : Gt) (all : Bool) (k : Int) : Gt := if all = true then ⟨g.shut, min (max (g.all + k) 0) 255, g.os⟩ else ⟨g.shut, g.all, min (max (g.os + k) 0) 255⟩
def mn19 (a b : Int) : Int := min a b
def mxx19 (a b : Int) : Int := max a b
theorem max_two20 (ats : Array TypeId) (ty : TypeId) (a b : Int) : Builtin.max_ ats ty #[.int .i64 a, .int .i64 b] = pure (.int .i64 (mxx19 a b)) := by
  show (do let s ← Builtin.max2 (.int .i64 a) (.int .i64 b); pure s : Sem Value) = _
  simp only [Builtin.max2]
  show (pure _ : Sem Value) = _
  congr 2
  unfold mxx19
  split <;> omega
theorem min_two20 (ats : Array TypeId) (ty : TypeId) (a b : Int) : Builtin.min_ ats ty #[.int .i64 a, .int .i64 b] = pure (.int .i64 (mn19 a b)) := by
  show (do let s ← Builtin.min2 (.int .i64 a) (.int .i64 b); pure s : Sem Value) = _
  simp only [Builtin.min2]
  show (pure _ : Sem Value) = _
  congr 2
  unfold mn19
  split <;> omega
attribute [local go_sem 5000] max_two20 min_two20
theorem okG_cnt {g : Gt} (h : okG g) (all : Bool) (k : Int) : okG (cntG g all k) := by
  unfold okG cntG at *
  cases all <;> simp <;> omega
theorem count_any (h : Lk w tb Z y B s) (x : Bool) (k : Int) (hk : k = 1 ∨ k = -1) : Calls Tryz.prog 64 #[lp B, .bool x, I k] w fun e w' => e = .returned (I 0) ∧ Lk w' tb Z y B ⟨s.L, s.i, cntG s.g x k⟩ ∧ Fz (y.M B) w w' := by
  have hN := none_any h
  obtain ⟨c0, c1, c2, c3, c4, c5⟩ := h.cells
  have f4 := h.frz 4
  have f5 := h.frz 5
  have hg : okG s.g := h.ok.g
  have k1 : s.g.all + k < 9223372036854775808 := by unfold okG at hg; omega
  have k2 : -9223372036854775808 ≤ s.g.all + k := by unfold okG at hg; omega
  have k3 : s.g.os + k < 9223372036854775808 := by unfold okG at hg; omega
  have k4 : -9223372036854775808 ≤ s.g.os + k := by unfold okG at hg; omega
  cases x with
  | true =>
    have HK : Hid (Lk (w.setCell ⟨B, 4, none⟩ (I (mn19 (mxx19 (s.g.all + k) 0) 255))) tb Z y B ⟨s.L, s.i, cntG s.g true k⟩ ∧ Fz (y.M B) w (w.setCell ⟨B, 4, none⟩ (I (mn19 (mxx19 (s.g.all + k) 0) 255)))) := h.setG (g := cntG s.g true k) (okG_cnt hg true k) (fz_set w B 4 _) (setB h.o).2.1
    clear h hg hk
    go_enter Tryz.func64, Tryz.ntmps64
    go_wp2_with (first | (go_at_call 35; refine hN.mono ?_; clear hN; rintro e w1 ⟨rfl, hw1⟩; cases hw1.symm))
    go_ret
    exact ⟨rfl, HK.out⟩
  | false =>
    have HK : Hid (Lk (w.setCell ⟨B, 5, none⟩ (I (mn19 (mxx19 (s.g.os + k) 0) 255))) tb Z y B ⟨s.L, s.i, cntG s.g false k⟩ ∧ Fz (y.M B) w (w.setCell ⟨B, 5, none⟩ (I (mn19 (mxx19 (s.g.os + k) 0) 255)))) := h.setG (g := cntG s.g false k) (okG_cnt hg false k) (fz_set w B 5 _) (setB h.o).2.2
    clear h hg hk
    go_enter Tryz.func64, Tryz.ntmps64
    go_wp2_with (first | (go_at_call 35; refine hN.mono ?_; clear hN; rintro e w1 ⟨rfl, hw1⟩; cases hw1.symm))
    go_ret
    exact ⟨rfl, HK.out⟩
theorem Suspend_any (h : Lk w tb Z y B s) (x : Bool) : Calls Tryz.prog 26 #[lp B, .bool x] w fun e w' => e = .returned (I 0) ∧ Lk w' tb Z y B ⟨s.L, s.i, cntG s.g x 1⟩ ∧ Fz (y.M B) w w' := by
  have hN := count_any h x 1 (.inl rfl)
  clear h
  go_enter Tryz.func26, Tryz.ntmps26
  go_wp2_with (first | (go_at_call 64; refine hN.mono ?_; clear hN; rintro e w1 ⟨rfl, h1, h2⟩))
  go_ret
  exact ⟨rfl, h1, h2⟩
theorem Resume_any (h : Lk w tb Z y B s) (x : Bool) : Calls Tryz.prog 27 #[lp B, .bool x] w fun e w' => e = .returned (I 0) ∧ Lk w' tb Z y B ⟨s.L, s.i, cntG s.g x (-1)⟩ ∧ Fz (y.M B) w w' := by
  have hN := count_any h x (-1) (.inr rfl)
  clear h
  go_enter Tryz.func27, Tryz.ntmps27
  go_wp2_with (first | (go_at_call 64; refine hN.mono ?_; clear hN; rintro e w1 ⟨rfl, h1, h2⟩))
  go_ret
  exact ⟨rfl, h1, h2⟩
theorem Gate_any (h : Lk w tb Z y B s) : Calls Tryz.prog 23 #[lp B] w fun e w' => e = .returned (.agg #[.bool s.g.shut, I s.g.all, I s.g.os]) ∧ Below w.heap.size w w' := by
  have hb := below_alloc w (.cells #[.bool false, I 0, I 0] 25)
  have hV := heap_alloc_new w (.cells #[.bool false, I 0, I 0] 25)
  have h1 := h.below hb
  have hF := none_any h1
  obtain ⟨c0, c1, c2, c3, c4, c5⟩ := h1.cells
  have a1 := fun i => cell_of_row _ _ i _ _ (0, 0) hV
  have k0 : (w.alloc (.cells #[.bool false, I 0, I 0] 25)).cell? ⟨w.heap.size, 0, none⟩ = some (.bool false) := a1 0
  have k1 : (w.alloc (.cells #[.bool false, I 0, I 0] 25)).cell? ⟨w.heap.size, 1, none⟩ = some (I 0) := a1 1
  have k2 : (w.alloc (.cells #[.bool false, I 0, I 0] 25)).cell? ⟨w.heap.size, 2, none⟩ = some (I 0) := a1 2
  have k3 : ∀ j, (w.alloc (.cells #[.bool false, I 0, I 0] 25)).frozen? ⟨w.heap.size, j, none⟩ = false := fun j => frozen_of_row _ _ j _ _ hV
  have HB : Hid (∀ a b c, Below w.heap.size w ((((w.alloc (.cells #[.bool false, I 0, I 0] 25)).setCell ⟨w.heap.size, 0, none⟩ a).setCell ⟨w.heap.size, 1, none⟩ b).setCell ⟨w.heap.size, 2, none⟩ c) ∧ ((((w.alloc (.cells #[.bool false, I 0, I 0] 25)).setCell ⟨w.heap.size, 0, none⟩ a).setCell ⟨w.heap.size, 1, none⟩ b).setCell ⟨w.heap.size, 2, none⟩ c).heap[w.heap.size]? = some (.cells #[a, b, c] 25)) := fun a b c => ⟨((hb.setCell (Nat.le_refl _) _).setCell (Nat.le_refl _) _).setCell (Nat.le_refl _) _, heap_setCell_same _ _ 2 _ _ _ (heap_setCell_same _ _ 1 _ _ _ (heap_setCell_same _ _ 0 _ _ _ hV))⟩
  clear h h1 hb hV a1
  go_enter Tryz.func23, Tryz.ntmps23
  go_upto_region 1 with fail
  generalize w.alloc (.cells #[.bool false, I 0, I 0] 25) = w1 at *
  go_wp2_with (first | (go_at_call 35; refine hF.mono ?_; clear hF; rintro e w2 ⟨rfl, rfl⟩))
  exact bodyPost_ret (res_gate Tryz.results23 _ w.heap.size _ _ _ _ rfl (HB.out _ _ _).2) rfl ⟨rfl, (HB.out _ _ _).1⟩
theorem mayCount_any (w : World) (n : Int) : Calls Tryz.prog 65 #[I n] w fun e w' => e = .returned (.bool (decide (0 ≤ n ∧ n ≤ 255))) ∧ w = w' := by
  by_cases h1 : 0 ≤ n
  · have h1b : ¬ (n < 0) := by omega
    by_cases h2 : n ≤ 255
    · have hd : decide (0 ≤ n ∧ n ≤ 255) = true := by simp; omega
      rw [hd]
      go_enter Tryz.func65, Tryz.ntmps65
      go_wp2
      go_ret
      exact ⟨by first | rfl | (simp; done) | (simp; omega), rfl⟩
    · have hd : decide (0 ≤ n ∧ n ≤ 255) = false := by simp; omega
      rw [hd]
      go_enter Tryz.func65, Tryz.ntmps65
      go_wp2
      go_ret
      exact ⟨by first | rfl | (simp; done) | (simp; omega), rfl⟩
  · have hd : decide (0 ≤ n ∧ n ≤ 255) = false := by simp; omega
    rw [hd]
    go_enter Tryz.func65, Tryz.ntmps65
    go_wp2
    go_ret
    exact ⟨by first | rfl | (simp; omega), rfl⟩
/-- May it be put? -/
def mayG (g : Gt) : Bool := decide (0 ≤ g.all ∧ g.all ≤ 255) && decide (0 ≤ g.os ∧ g.os ≤ 255)
theorem Put_ok (h : Lk w tb Z y B s) (g : Gt) (hg : mayG g = true) : Calls Tryz.prog 28 #[lp B, .agg #[.bool g.shut, I g.all, I g.os]] w fun e w' => e = .returned (I 0) ∧ Lk w' tb Z y B ⟨s.L, s.i, g⟩ ∧ Fz (y.M B) w w' := by
  have hb := below_alloc w (.cells #[.bool g.shut, I g.all, I g.os] 25)
  have hV := heap_alloc_new w (.cells #[.bool g.shut, I g.all, I g.os] 25)
  have h1 := h.below hb
  have hF := none_any h1
  obtain ⟨c0, c1, c2, c3, c4, c5⟩ := h1.cells
  have fr := h1.frz
  have a1 := fun i => cell_of_row _ _ i _ _ (0, 0) hV
  have k0 : (w.alloc (.cells #[.bool g.shut, I g.all, I g.os] 25)).cell? ⟨w.heap.size, 0, none⟩ = some (.bool g.shut) := a1 0
  have k1 : (w.alloc (.cells #[.bool g.shut, I g.all, I g.os] 25)).cell? ⟨w.heap.size, 1, none⟩ = some (I g.all) := a1 1
  have k2 : (w.alloc (.cells #[.bool g.shut, I g.all, I g.os] 25)).cell? ⟨w.heap.size, 2, none⟩ = some (I g.os) := a1 2
  have HL : Hid (Lk (w.alloc (.cells #[.bool g.shut, I g.all, I g.os] 25)) tb Z y B s ∧ Below w.heap.size w (w.alloc (.cells #[.bool g.shut, I g.all, I g.os] 25))) := ⟨h1, hb⟩
  have hBX : ¬ (B = w.heap.size) := by have := heap_lt h.o; omega
  have hc1 := fun W => mayCount_any W g.all
  have hc2 := fun W => mayCount_any W g.os
  clear h h1 hb hV a1
  unfold mayG at hg
  simp only [Bool.and_eq_true, decide_eq_true_eq] at hg
  obtain ⟨q1, q2⟩ := hg
  have HG : Hid (okG g) := ⟨q1.1, q1.2, q2.1, q2.2⟩
  simp only [decide_eq_true q1] at hc1
  simp only [decide_eq_true q2] at hc2
  clear q1 q2
  go_enter Tryz.func28, Tryz.ntmps28
  go_upto_region 1 with fail
  generalize w.alloc (.cells #[.bool g.shut, I g.all, I g.os] 25) = w1 at *
  have HK : Hid (Lk (((w1.setCell ⟨B, 3, none⟩ (.bool g.shut)).setCell ⟨B, 4, none⟩ (I g.all)).setCell ⟨B, 5, none⟩ (I g.os)) tb Z y B ⟨s.L, s.i, g⟩ ∧ Fz (y.M B) w (((w1.setCell ⟨B, 3, none⟩ (.bool g.shut)).setCell ⟨B, 4, none⟩ (I g.all)).setCell ⟨B, 5, none⟩ (I g.os))) := by
    obtain ⟨k1, k2⟩ := HL.out.1.setG HG.out ((((Fz.refl (fun b => b = B) w1).set (.inl rfl) _ _).set (.inl rfl) _ _).set (.inl rfl) _ _) (setB (setB (setB HL.out.1.o).1).2.1).2.2
    exact ⟨k1, (Fz.of_below HL.out.2).trans k2⟩
  go_wp2_with (first | (go_at_call 35; refine hF.mono ?_; clear hF; rintro e w2 ⟨rfl, hw2⟩; cases hw2.symm) | (go_at_call 65; refine (hc1 _).mono ?_; clear hc1; rintro e w3 ⟨rfl, rfl⟩) | (go_at_call 65; refine (hc2 _).mono ?_; clear hc2; rintro e w3 ⟨rfl, rfl⟩))
  go_ret
  exact ⟨rfl, HK.out⟩
theorem Put_no (h : Lk w tb Z y B s) (g : Gt) (hg : mayG g = false) : Calls Tryz.prog 28 #[lp B, .agg #[.bool g.shut, I g.all, I g.os]] w fun e w' => e = .returned (I 2) ∧ Below w.heap.size w w' := by
  have hb := below_alloc w (.cells #[.bool g.shut, I g.all, I g.os] 25)
  have hV := heap_alloc_new w (.cells #[.bool g.shut, I g.all, I g.os] 25)
  have h1 := h.below hb
  have hF := none_any h1
  obtain ⟨c0, c1, c2, c3, c4, c5⟩ := h1.cells
  have fr := h1.frz
  have a1 := fun i => cell_of_row _ _ i _ _ (0, 0) hV
  have k0 : (w.alloc (.cells #[.bool g.shut, I g.all, I g.os] 25)).cell? ⟨w.heap.size, 0, none⟩ = some (.bool g.shut) := a1 0
  have k1 : (w.alloc (.cells #[.bool g.shut, I g.all, I g.os] 25)).cell? ⟨w.heap.size, 1, none⟩ = some (I g.all) := a1 1
  have k2 : (w.alloc (.cells #[.bool g.shut, I g.all, I g.os] 25)).cell? ⟨w.heap.size, 2, none⟩ = some (I g.os) := a1 2
  have HL : Hid (Lk (w.alloc (.cells #[.bool g.shut, I g.all, I g.os] 25)) tb Z y B s ∧ Below w.heap.size w (w.alloc (.cells #[.bool g.shut, I g.all, I g.os] 25))) := ⟨h1, hb⟩
  have hBX : ¬ (B = w.heap.size) := by have := heap_lt h.o; omega
  have hc1 := fun W => mayCount_any W g.all
  have hc2 := fun W => mayCount_any W g.os
  clear h h1 hb hV a1
  by_cases q1 : 0 ≤ g.all ∧ g.all ≤ 255
  · have q2 : ¬ (0 ≤ g.os ∧ g.os ≤ 255) := fun q2 => by unfold mayG at hg; rw [decide_eq_true q1, decide_eq_true q2] at hg; cases hg
    simp only [decide_eq_true q1] at hc1
    simp only [decide_eq_false q2] at hc2
    clear q1 q2 hg
    go_enter Tryz.func28, Tryz.ntmps28
    go_upto_region 1 with fail
    generalize w.alloc (.cells #[.bool g.shut, I g.all, I g.os] 25) = w1 at *
    go_wp2_with (first | (go_at_call 35; refine hF.mono ?_; clear hF; rintro e w2 ⟨rfl, hw2⟩; cases hw2.symm) | (go_at_call 65; refine (hc1 _).mono ?_; clear hc1; rintro e w3 ⟨rfl, rfl⟩) | (go_at_call 65; refine (hc2 _).mono ?_; clear hc2; rintro e w3 ⟨rfl, rfl⟩))
    go_ret
    exact ⟨rfl, HL.out.2⟩
  · simp only [decide_eq_false q1] at hc1
    clear q1 hc2 hg
    go_enter Tryz.func28, Tryz.ntmps28
    go_upto_region 1 with fail
    generalize w.alloc (.cells #[.bool g.shut, I g.all, I g.os] 25) = w1 at *
    go_wp2_with (first | (go_at_call 35; refine hF.mono ?_; clear hF; rintro e w2 ⟨rfl, hw2⟩; cases hw2.symm) | (go_at_call 65; refine (hc1 _).mono ?_; clear hc1; rintro e w3 ⟨rfl, rfl⟩))
    go_ret
    exact ⟨rfl, HL.out.2⟩
/-- Does the gate let this ISR through? -/
def takesB (tb : Tb) (s : Ls) (i : Int) : Bool := match obs tb ⟨true, i⟩ with | some b => !s.g.shut && decide (¬ (0 < s.g.all)) && (b.cat != 2 || s.g.os == 0) | none => false
theorem Takes_any (h : Lk w tb Z y B s) (i : Int) (hi : (⟨true, i⟩ : Own).wf) : Calls Tryz.prog 22 #[lp B, I i] w fun e w' => e = .returned (.bool (takesB tb s i)) ∧ Below w.heap.size w w' := by
  have hF := find_any h ⟨true, i⟩ hi
  have H : Hid (Lk w tb Z y B s) := h
  clear h
  go_enter Tryz.func22, Tryz.ntmps22
  go_upto_region 2 with (first | (go_at_call 58; refine hF.mono ?_; clear hF; rintro e w2 ⟨rfl, hb2⟩))
  have h2 := H.out.below hb2
  have HB : Hid (Below w.heap.size w w2) := hb2
  obtain ⟨c0, c1, c2, c3, c4, c5⟩ := h2.cells
  rcases h2.own ⟨true, i⟩ with ⟨hp, ho⟩ | ⟨q, b, hp, ho⟩
  · have HI : Hid (takesB tb s i = false) := by show _ = _; unfold takesB; rw [ho]
    rw [hp]
    simp only [opV, Option.isSome_none]
    clear h2 hp ho hb2
    go_wp2
    go_ret
    refine ⟨?_, HB.out⟩
    rw [HI.out]
    rfl
  · obtain ⟨b', hob', -, hB, -⟩ := h2.pq hp
    rw [ho] at hob'
    cases hob'
    obtain ⟨d0, d1, d2, d3, d4, d5⟩ := hB.cells
    have HI : Hid (takesB tb s i = (!s.g.shut && decide (¬ (0 < s.g.all)) && (b.cat != 2 || s.g.os == 0))) := by show _ = _; unfold takesB; rw [ho]
    rw [hp]
    simp only [opV, Option.isSome_some]
    clear h2 hp ho hb2 hB
    rcases Bool.eq_false_or_eq_true s.g.shut with hs | hs
    · rw [hs] at c3
      have HS : Hid (s.g.shut = true) := hs
      clear hs
      go_wp2
      go_ret
      refine ⟨?_, HB.out⟩
      rw [HI.out, HS.out]
      rfl
    · rw [hs] at c3
      have HS : Hid (s.g.shut = false) := hs
      clear hs
      by_cases ha : 0 < s.g.all
      · go_wp2
        go_ret
        refine ⟨?_, HB.out⟩
        rw [HI.out, HS.out, decide_eq_false (by simpa using ha)]
        rfl
      · by_cases hc : b.cat = 2
        · have hcb : (b.cat == 2) = true := beq_iff_eq.2 hc
          have HC : Hid (b.cat = 2 ∧ ¬ (0 < s.g.all)) := ⟨hc, ha⟩
          rw [hc] at d1
          clear hc hcb
          go_wp2
          go_ret
          refine ⟨?_, HB.out⟩
          rw [HI.out, HS.out, decide_eq_true HC.out.2, HC.out.1]
          simp
        · have hcb : (b.cat == 2) = false := beq_eq_false_iff_ne.2 hc
          have HC : Hid (b.cat ≠ 2 ∧ ¬ (0 < s.g.all)) := ⟨hc, ha⟩
          go_wp2
          go_ret
          refine ⟨?_, HB.out⟩
          rw [HI.out, HS.out, decide_eq_true HC.out.2]
          simp [HC.out.1]
end
end Go.Proofs.YtmllocfeflhjoaaGreat

namespace Go.Proofs.YtmllocfeflhjoaaGreat
open Go.RowKit Go.Maps Go.Shelf Go.Sort
open Go.Proofs.YtmllocfeflhjoaaGreat.St (Fx Fz iQ iP iV)
set_option linter.unusedVariables false
set_option linter.unusedSimpArgs false
set_option maxRecDepth 100000
set_option maxHeartbeats 8000000
section
variable {W0 w w' : World} {tb : Tb} {v : Ts} {P : Nat} {a b : Value} {L : Tks} {i : List Bool} {g : Gt}
theorem own_neP {w : World} {b e k n P T : Nat} {u : Value} {xs : List Value} {C : Array Value} (h : w.ownsRow b e k u n xs) (hP : w.heap[P]? = some (.cells C T)) (he : T ≠ e) : u.ownBlock ≠ some P := by
  intro hg
  rcases h.2 with ⟨rfl, _⟩ | ⟨g1, c1, cur1, rfl, _, hh1, _⟩
  · cases hg
  · cases hg
    rw [hP] at hh1
    injection hh1 with hh1
    injection hh1 with _ hh1 _
    exact he hh1
theorem Dl.setG (h : Dl W0 w tb v P a b L i g) {g' : Gt} (hf : Fz (fun b => b = P) w w') (ho : w'.heap[P]? = some (.cells (dC tb v a b g') 82)) : Dl W0 w' tb v P a b L i g' ∧ Fz (Dm P a b) w w' :=
  ⟨⟨ho, h.t0, h.lo.trans (hf.below h.lo.size (fun x e => by rw [e]; exact h.p)), h.p, h.tk, hf.own h.q (fun x e e2 => own_neP h.q h.o (by decide) (by rw [← e2]; exact e)), hf.own h.r (fun x e e2 => own_neP h.r h.o (by decide) (by rw [← e2]; exact e)), h.n, h.m⟩, hf.mono (fun x e => .inl e)⟩
theorem setD (h : w.heap[P]? = some (.cells (dC tb v a b g) 82)) : (∀ x, (w.setCell ⟨P, 15, none⟩ (.bool x)).heap[P]? = some (.cells (dC tb v a b ⟨x, g.all, g.os⟩) 82)) ∧ (∀ x, (w.setCell ⟨P, 16, none⟩ (I x)).heap[P]? = some (.cells (dC tb v a b ⟨g.shut, x, g.os⟩) 82)) ∧ (∀ x, (w.setCell ⟨P, 17, none⟩ (I x)).heap[P]? = some (.cells (dC tb v a b ⟨g.shut, g.all, x⟩) 82)) :=
  ⟨fun x => heap_setCell_same _ P 15 _ _ _ h, fun x => heap_setCell_same _ P 16 _ _ _ h, fun x => heap_setCell_same _ P 17 _ _ _ h⟩
/-- Has -/
def hasI (i : List Bool) (t : Int) : Bool := decide (0 ≤ t) && (i[t.toNat]?).getD false
theorem dHas (h : Dl W0 w tb v P a b L i g) (t : Int) : Calls Tryz.prog 54 #[lp P, I t] w fun e w' => e = .returned (.bool (hasI i t)) ∧ w = w' := by
  obtain ⟨-, -, -, -, c14, -, -, -⟩ := h.cells
  have hl := h.n
  have hl2 := h.tk.tasks
  by_cases h0 : 0 ≤ t
  · obtain ⟨k, rfl⟩ := Int.eq_ofNat_of_zero_le h0
    by_cases hk : k < i.length
    · have hkI : (k : Int) < i.length := by omega
      obtain ⟨x, hx⟩ : ∃ x, i[k]? = some x := ⟨_, List.getElem?_eq_getElem hk⟩
      obtain ⟨g1, c1, rfl⟩ := own_some19 h.r (by omega)
      have q : w.cell? ⟨g1, k, none⟩ = some (.bool x) := by rw [h.r.cellAt _ (by omega), List.getElem?_map, hx]; rfl
      have HR : Hid (hasI i k = x) := by show _ = _; simp [hasI, hx]
      clear h hl hx
      go_enter Tryz.func54, Tryz.ntmps54
      go_wp2
      go_ret
      exact ⟨by rw [HR.out]; rfl, rfl⟩
    · have hkI : ¬ ((k : Int) < i.length) := by omega
      have HR : Hid (hasI i k = false) := by show _ = _; simp [hasI, List.getElem?_eq_none (show i.length ≤ k by omega)]
      obtain ⟨a2, cc, rfl⟩ := own_slk19 h.r
      clear h hl
      go_enter Tryz.func54, Tryz.ntmps54
      go_wp2
      go_ret
      exact ⟨by rw [HR.out]; rfl, rfl⟩
  · have HR : Hid (hasI i t = false) := by show _ = _; simp [hasI]; omega
    have h0b : t < 0 := by omega
    clear h hl
    go_enter Tryz.func54, Tryz.ntmps54
    go_wp2
    go_ret
    exact ⟨by rw [HR.out]; rfl, rfl⟩
/-- Takes -/
theorem dTakes (h : Dl W0 w tb v P a b L i g) (hg : okG g) (f : Own → Bool) (t : Int) : Calls Tryz.prog 55 #[lp P, I t] w fun e w' => e = .returned (.bool (takesB tb ⟨L, f, g⟩ t)) ∧ w = w' := by
  obtain ⟨-, -, c7, -, -, c15, c16, c17⟩ := h.cells
  obtain ⟨n1, n2, n3⟩ := h.ns
  obtain ⟨R, hR⟩ : ∃ R, R = takesB tb ⟨L, f, g⟩ t := ⟨_, rfl⟩
  rw [← hR]
  by_cases h0 : 0 ≤ t
  · obtain ⟨k, rfl⟩ := Int.eq_ofNat_of_zero_le h0
    by_cases hk : k < v.i.n
    · have hkI : (k : Int) < v.i.n := by omega
      obtain ⟨x, hx⟩ : ∃ x, tb.isrs[k]? = some x := ⟨_, List.getElem?_eq_getElem (by omega)⟩
      obtain ⟨g1, off, s2, e1, -, q0, -, -, -⟩ := isr_at h.t hx
      rw [e1] at c7
      have HC : Hid (x.cat = 1 ∨ x.cat = 2) := h.tk.cat x (List.mem_of_getElem? hx)
      have HR : Hid (R = (!g.shut && decide (¬ (0 < g.all)) && (x.cat != 2 || g.os == 0))) := by show _ = _; rw [hR, takesB, obs_isr hx]
      clear hR h e1 hx n1 n2 n3 hk h0
      cases hs : g.shut with
      | true =>
        rw [hs] at c15
        go_enter Tryz.func55, Tryz.ntmps55
        go_wp2
        go_ret
        exact ⟨by rw [HR.out, hs]; rfl, rfl⟩
      | false =>
        rw [hs] at c15
        by_cases ha : 0 < g.all
        · have HR2 : Hid (R = false) := by
            show R = false
            rw [HR.out, hs]
            simp [ha]
          clear HR
          go_enter Tryz.func55, Tryz.ntmps55
          go_wp2
          go_ret
          exact ⟨by rw [HR2.out]; rfl, rfl⟩
        · have hab : g.all = 0 := by unfold okG at hg; omega
          rw [hab] at c16
          have HA : Hid (g.all = 0) := hab
          clear hab hg
          rcases HC.out with e | e
          · rw [e] at q0
            go_enter Tryz.func55, Tryz.ntmps55
            go_wp2
            go_ret
            exact ⟨by rw [HR.out, hs, HA.out, e]; rfl, rfl⟩
          · rw [e] at q0
            go_enter Tryz.func55, Tryz.ntmps55
            go_wp2
            go_ret
            exact ⟨by rw [HR.out, hs, HA.out, e]; rfl, rfl⟩
    · have hkI : ¬ ((k : Int) < v.i.n) := by omega
      have hkJ : (v.i.n : Int) ≤ k := by omega
      have HR : Hid (R = false) := by
        show _ = _
        rw [hR, takesB]
        have : obs tb ⟨true, (k : Int)⟩ = none := by simp [obs, List.getElem?_eq_none (show tb.isrs.length ≤ k by omega)]
        rw [this]
      clear hR h n1 n2 n3 hg
      go_enter Tryz.func55, Tryz.ntmps55
      go_wp2
      go_ret
      exact ⟨by rw [HR.out]; rfl, rfl⟩
  · have h0b : t < 0 := by omega
    have HR : Hid (R = false) := by
      show _ = _
      rw [hR, takesB]
      have : obs tb ⟨true, t⟩ = none := by simp [obs, h0b]
      rw [this]
    clear hR h n1 n2 n3 hg
    go_enter Tryz.func55, Tryz.ntmps55
    go_wp2
    go_ret
    exact ⟨by rw [HR.out]; rfl, rfl⟩
/-- Holder -/
theorem pl_hdr (r : Int) : ∀ (L : Tks) (n : Nat), (hdr L r = none ∧ plF r L n = -1) ∨ ∃ (k : Nat) (o : Own), L[k]? = some (o, r) ∧ hdr L r = some o ∧ plF r L n = ((n + k : Nat) : Int)
  | [], n => .inl ⟨rfl, rfl⟩
  | t :: l, n => by
    by_cases h : t.2 = r
    · refine .inr ⟨0, t.1, ?_, ?_, ?_⟩
      · rw [← h]; rfl
      · simp [hdr, h]
      · rw [plF, if_pos h]; simp
    · have e : hdr (t :: l) r = hdr l r := by simp [hdr, h]
      rw [e, plF, if_neg h]
      rcases pl_hdr r l (n + 1) with ⟨h1, h2⟩ | ⟨k, o, h1, h2, h3⟩
      · exact .inl ⟨h1, h2⟩
      · refine .inr ⟨k + 1, o, by simpa using h1, h2, ?_⟩
        rw [h3]
        congr 1
        omega
theorem dHolder (h : Dl W0 w tb v P a b L i g) (r : Int) : Calls Tryz.prog 52 #[lp P, I r] w fun e w' => e = .returned (.tuple #[ozV (hdr L r), .bool (hdr L r).isSome]) ∧ Below w.heap.size w w' := by
  have hb := below_alloc w (.cells #[.bool false, I 0] 23)
  have h1 := h.below hb
  have hH := dHolderI h1 r
  have hm := h.m
  unfold plR at hH
  have HB : Hid (Below w.heap.size w (w.alloc (.cells #[.bool false, I 0] 23))) := hb
  have k0 : (w.alloc (.cells #[.bool false, I 0] 23)).cell? ⟨w.heap.size, 0, none⟩ = some (.bool false) := by rw [cell_of_row _ _ _ _ _ (0, 0) (heap_alloc_new w _)]; rfl
  have k1 : (w.alloc (.cells #[.bool false, I 0] 23)).cell? ⟨w.heap.size, 1, none⟩ = some (I 0) := by rw [cell_of_row _ _ _ _ _ (0, 0) (heap_alloc_new w _)]; rfl
  have k2 : ∀ j, (w.alloc (.cells #[.bool false, I 0] 23)).frozen? ⟨w.heap.size, j, none⟩ = false := fun j => frozen_of_row _ _ j _ _ (heap_alloc_new w _)
  have HZ : Hid (∀ x y, Below w.heap.size w (((w.alloc (.cells #[.bool false, I 0] 23)).setCell ⟨w.heap.size, 0, none⟩ x).setCell ⟨w.heap.size, 1, none⟩ y) ∧ (((w.alloc (.cells #[.bool false, I 0] 23)).setCell ⟨w.heap.size, 0, none⟩ x).setCell ⟨w.heap.size, 1, none⟩ y).heap[w.heap.size]? = some (.cells #[x, y] 23)) := fun x y => ⟨(hb.setCell (Nat.le_refl _) _).setCell (Nat.le_refl _) _, heap_setCell_same _ _ 1 _ _ _ (heap_setCell_same _ _ 0 _ _ _ (heap_alloc_new w _))⟩
  rcases pl_hdr r L 0 with ⟨e1, e2⟩ | ⟨k, o, e1, e2, e3⟩
  · rw [e1]
    rw [e2] at hH
    clear h h1 hb
    go_enter Tryz.func52, Tryz.ntmps52
    go_upto_region 1 with fail
    generalize w.alloc (.cells #[.bool false, I 0] 23) = w1 at *
    generalize hXe : w.heap.size = X at *
    have HXE : Hid (w.heap.size = X) := hXe
    clear hXe
    go_wp2_with (first | (go_at_call 88; refine hH.mono ?_; clear hH; rintro e w2 ⟨rfl, rfl⟩))
    refine bodyPost_ret (res_own2 Tryz.results52 _ X _ _ _ _ rfl rfl (HZ.out _ _).2) rfl ⟨rfl, by rw [HXE.out]; exact (HZ.out _ _).1⟩
  · rw [e2]
    rw [e3, Nat.zero_add] at hH
    obtain ⟨g1, c1, rfl, q1, q2, -⟩ := h1.at e1
    obtain ⟨-, -, -, c13, -, -, -, -⟩ := h1.cells
    have hk : (k : Int) < L.length := by have := (List.getElem?_eq_some_iff.1 e1).1; omega
    have hgX : ¬ (g1 = w.heap.size) := by
      have := (h.low (x := g1) (.inr (.inl rfl))).2
      omega
    have hPX : ¬ (P = w.heap.size) := by have := heap_lt h.o; omega
    simp only at q1 q2
    clear h h1 hb e1 e2 e3
    go_enter Tryz.func52, Tryz.ntmps52
    go_upto_region 1 with fail
    generalize w.alloc (.cells #[.bool false, I 0] 23) = w1 at *
    generalize hXe : w.heap.size = X at *
    have HXE : Hid (w.heap.size = X) := hXe
    clear hXe
    go_wp2_with (first | (go_at_call 88; refine hH.mono ?_; clear hH; rintro e w2 ⟨rfl, rfl⟩))
    refine bodyPost_ret (res_own2 Tryz.results52 _ X _ _ _ _ rfl rfl (HZ.out _ _).2) rfl ⟨rfl, by rw [HXE.out]; exact (HZ.out _ _).1⟩
attribute [local go_sem 5000] max_two20 min_two20
theorem dCount (h : Dl W0 w tb v P a b L i g) (hg : okG g) (x : Bool) (k : Int) (hk : k = 1 ∨ k = -1) : Calls Tryz.prog 47 #[lp P, .bool x, I k] w fun e w' => e = .returned (.tuple #[]) ∧ Dl W0 w' tb v P a b L i (cntG g x k) ∧ Fz (Dm P a b) w w' := by
  obtain ⟨c2, c4, c7, c13, c14, c15, c16, c17⟩ := h.cells
  have f4 := h.frz 16
  have f5 := h.frz 17
  have k1 : g.all + k < 9223372036854775808 := by unfold okG at hg; omega
  have k2 : -9223372036854775808 ≤ g.all + k := by unfold okG at hg; omega
  have k3 : g.os + k < 9223372036854775808 := by unfold okG at hg; omega
  have k4 : -9223372036854775808 ≤ g.os + k := by unfold okG at hg; omega
  cases x with
  | true =>
    have e : cntG g true k = ⟨g.shut, mn19 255 (mxx19 0 (g.all + k)), g.os⟩ := by simp only [cntG, if_true, mn19, mxx19]; congr 1; omega
    rw [e]
    have HK : Hid _ := h.setG (fz_set w P 16 (I (mn19 255 (mxx19 0 (g.all + k))))) ((setD h.o).2.1 _)
    clear h hg hk e
    go_enter Tryz.func47, Tryz.ntmps47
    go_wp2
    refine bodyPost_end (v := .tuple #[]) (by simp [results, Tryz.results47, go_sem]) rfl ?_
    exact ⟨rfl, HK.out⟩
  | false =>
    have e : cntG g false k = ⟨g.shut, g.all, mn19 255 (mxx19 0 (g.os + k))⟩ := by simp only [cntG, mn19, mxx19]; simp; omega
    rw [e]
    have HK : Hid _ := h.setG (fz_set w P 17 (I (mn19 255 (mxx19 0 (g.os + k))))) ((setD h.o).2.2 _)
    clear h hg hk e
    go_enter Tryz.func47, Tryz.ntmps47
    go_wp2
    refine bodyPost_end (v := .tuple #[]) (by simp [results, Tryz.results47, go_sem]) rfl ?_
    exact ⟨rfl, HK.out⟩
end
end Go.Proofs.YtmllocfeflhjoaaGreat

