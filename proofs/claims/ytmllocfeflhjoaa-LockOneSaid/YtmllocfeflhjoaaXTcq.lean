import Derived.Test.YtmllocfeflhjoaaXQp
import Derived.Test.YtmllocfeflhjoaaXTcn
import Derived.Maps.OwnSet
import Derived.Maps.OwnOps
namespace Go.Proofs.Ytmllocfeflhjoaa
open Go.RowKit Go.Maps Go.Shelf Go.Sort
open Go.Proofs.Ytmllocfeflhjoaa.St (Fx Fz iQ iP iV)
set_option linter.unusedVariables false
set_option linter.unusedSimpArgs false

/-! ### The owners of tables -/
/-- the owners so far: the first i tasks and the first j ISRs -/
def domK (tb : Tb) (i j : Nat) (o : Own) : Option Ob := if o.id < (if o.isr = true then j else i : Nat) then obs tb o else none
theorem obs_none {tb : Tb} {o : Own} (h : o.id < 0) : obs tb o = none := if_pos h
theorem domK_zero (tb : Tb) : domK tb 0 0 = fun _ => none := by
  funext o
  unfold domK
  by_cases h : o.id < 0
  · rw [obs_none h]; simp
  · rw [if_neg (by cases o.isr <;> simpa using h)]
theorem domK_task {tb : Tb} {i : Nat} {x : TkR} (hx : tb.tasks[i]? = some x) : updF (domK tb i 0) ⟨false, (i : Int)⟩ (some ⟨x.prio, 0, x.inner, x.own⟩) = domK tb (i + 1) 0 := by
  funext o
  by_cases e : o = ⟨false, (i : Int)⟩
  · subst e
    rw [updF_same]
    simp [domK, obs, hx]
    omega
  · rw [updF_ne _ _ e]
    unfold domK
    cases hi : o.isr with
    | true => simp
    | false =>
      have : o.id ≠ i := fun k => e (by cases o; simp_all)
      simp
      by_cases h1 : o.id < i
      · rw [if_pos h1, if_pos (by omega)]
      · rw [if_neg h1, if_neg (by omega)]
theorem domK_isr {tb : Tb} {n i : Nat} {x : IsR} (hx : tb.isrs[i]? = some x) : updF (domK tb n i) ⟨true, (i : Int)⟩ (some ⟨x.prio, x.cat, -1, x.own⟩) = domK tb n (i + 1) := by
  funext o
  by_cases e : o = ⟨true, (i : Int)⟩
  · subst e
    rw [updF_same]
    simp [domK, obs, hx]
    omega
  · rw [updF_ne _ _ e]
    unfold domK
    cases hi : o.isr with
    | false => simp
    | true =>
      have : o.id ≠ i := fun k => e (by cases o; simp_all)
      simp
      by_cases h1 : o.id < i
      · rw [if_pos h1, if_pos (by omega)]
      · rw [if_neg h1, if_neg (by omega)]
theorem domK_all (tb : Tb) : domK tb tb.tasks.length tb.isrs.length = obs tb := by
  funext o
  unfold domK
  by_cases h0 : o.id < 0
  · rw [obs_none h0]; simp
  · cases hi : o.isr with
    | true =>
      simp only [if_true]
      by_cases h : o.id < (tb.isrs.length : Int)
      · rw [if_pos h]
      · rw [if_neg h]
        unfold obs
        rw [if_neg h0, hi, if_pos rfl, List.getElem?_eq_none (by omega)]
        rfl
    | false =>
      simp only [Bool.false_eq_true, if_false]
      by_cases h : o.id < (tb.tasks.length : Int)
      · rw [if_pos h]
      · rw [if_neg h]
        unfold obs
        rw [if_neg h0, hi, if_neg (by simp), List.getElem?_eq_none (by omega)]
        rfl
theorem domK_new (tb : Tb) (n i : Nat) : domK tb i n ⟨false, (i : Int)⟩ = none ∧ domK tb n i ⟨true, (i : Int)⟩ = none := by
  constructor <;> (unfold domK; simp)
/-- the owners, gathered -/
def Gd (w : World) (X0 m n : Nat) (dom : Own → Option Ob) : Prop := ∃ p sb gb sl Z, Gth w X0 m n p sb gb sl Z dom (fun _ => false) (fun _ => []) ∧ ∀ g, Z g → X0 ≤ g
theorem Gd.step {w w1 : World} {X0 m n : Nat} {dom : Own → Option Ob} (h : Gd w X0 m n dom) (hX : X0 ≤ w.heap.size) (hn : n < 1024) {o : Own} (hw : o.wf) (hd : dom o = none) {b : Ob} {q s g : Nat} {so : Sl} (hb1 : Below w.heap.size w w1) (ho : w1.heap[q]? = some (.cells #[I b.prio, I b.cat, .slice so.a so.n so.c, I b.inner, .bool false, lp s] 74)) (hr : RowsAt w1 1 intP so b.own) (hz : b.own ≠ [] → ∃ g', so.a = some ⟨g', 0, none⟩ ∧ w.heap.size ≤ g' ∧ g' < w1.heap.size ∧ g' ≠ q ∧ g' ≠ s ∧ g' ≠ g) (hk : iQ w1 s g b.own.length 0 []) (hq : w.heap.size ≤ q) (hs : w.heap.size ≤ s) (hg : w.heap.size ≤ g) :
    ∃ w', (Instr.mapUpdate 61 (.map (some m)) (.agg #[.bool o.isr, I o.id]) (.pointer (some ⟨q, 0, none⟩))).run Try.prog w1 = .ok () w' ∧ Gd w' X0 m (n + 1) (updF dom o (some b)) ∧ Below X0 w1 w' ∧ Below m w1 w' := by
  obtain ⟨p, sb, gb, sl, Z, hG, hZ⟩ := h
  obtain ⟨w', hrun, hm, hgr⟩ := (hG.mp.kept (hb1.block _ hG.mp.lt)).put (by omega) o hw q
  have hf : Fx [m] w1 w' := (Fx.refl _ w1).grown hgr (fun g e => by cases e; exact .inl (List.mem_singleton.2 rfl))
  have hf0 : Fx [m] w w' := (Fx.of_below hb1).trans hf
  have hml := hG.mp.lt
  have hB : OwB w1 b false [] q s g so := ⟨ho, hr, 0, hk⟩
  have hl := hB.lts
  have hB' : OwB w' b false [] q s g so := hB.kept (N := fun x => x ∈ [m]) (Z := fun x => w.heap.size ≤ x) (Fz.of_fx hf (fun _ h => h)) (fun e => by obtain ⟨x, e1, e2, _⟩ := hz e; exact ⟨x, 0, e1, e2⟩) (by simp; omega) (by simp; omega) (by simp; omega) (fun x hx => by simp; omega)
  have hs1 := hf.size
  refine ⟨w', hrun, ⟨_, _, _, _, _, hG.step hX hw hd rfl rfl hm hf0 hB' hq hs hg (fun e => by
    obtain ⟨x, e1, e2, e3, e4⟩ := hz e
    exact ⟨x, e1, .inr ⟨e2, by omega, e4⟩⟩), ?_⟩, below_of_grown hgr hG.lo (Nat.le_trans hX hb1.size), below_of_grown hgr (Nat.le_refl _) (by have := hb1.size; omega)⟩
  rintro x (hx | hx)
  · exact hZ x hx
  · omega
end Go.Proofs.Ytmllocfeflhjoaa

namespace Go.Proofs.Ytmllocfeflhjoaa
open Go.RowKit Go.Maps Go.Shelf Go.Sort
open Go.Proofs.Ytmllocfeflhjoaa.St (Fx Fz iQ iP iV)
set_option linter.unusedVariables false
set_option linter.unusedSimpArgs false

theorem wf_natO (b : Bool) {i : Nat} (h : i < 9223372036854775808) : (⟨b, (i : Int)⟩ : Own).wf := by
  show (Lit.int .i64 (i : Int)).wf = true
  exact WalkArith.wf_i64 (by omega)
theorem own_set3 {w : World} {q : Nat} {a b c d e f v : Value} {t : TypeId} (h : w.heap[q]? = some (.cells #[a, b, c, d, e, f] t)) : (w.setCell ⟨q, 3, none⟩ v).heap[q]? = some (.cells #[a, b, c, v, e, f] t) := heap_setCell_same _ q 3 _ _ _ h
theorem own_set1 {w : World} {q : Nat} {a b c d e f v : Value} {t : TypeId} (h : w.heap[q]? = some (.cells #[a, b, c, d, e, f] t)) : (w.setCell ⟨q, 1, none⟩ v).heap[q]? = some (.cells #[a, v, c, d, e, f] t) := heap_setCell_same _ q 1 _ _ _ h
theorem make_hint (w : World) (n : Int) : (Instr.makeMap 61 (some (.int .i64 n))).run Try.prog w = .ok (.map (some w.heap.size)) (w.alloc (.map #[] 0)) := by
  simp [Instr.makeMap, run_underlying Try.underlying61, go_sem, Result.andThen]
set_option maxRecDepth 100000 in
set_option maxHeartbeats 16000000 in
theorem ownersOf_any (w : World) (tb : Tb) (v : Ts) (h : TbAt w tb v) (ht : tb.tasks.length ≤ 256) (hi : tb.isrs.length ≤ 32) (hot : ∀ x ∈ tb.tasks, x.own.length ≤ 1024) (hoi : ∀ x ∈ tb.isrs, x.own.length ≤ 1024) : Calls Try.prog 14 #[.agg (tbC tb v)] w fun e w' => ∃ m, e = .returned (.map (some m)) ∧ Gd w' w.heap.size m (tb.tasks.length + tb.isrs.length) (obs tb) ∧ Below w.heap.size w w' := by
  have hmm := make_hint
  have hb0 := below_alloc w (.cells (tbC tb v) 30)
  have hV := heap_alloc_new w (.cells (tbC tb v) 30)
  have c2 : (w.alloc (.cells (tbC tb v) 30)).cell? ⟨w.heap.size, 2, none⟩ = some (.slice v.t.a v.t.n v.t.c) := by rw [cell_of_row _ _ 2 _ _ (0, 0) hV]; rfl
  have c7 : (w.alloc (.cells (tbC tb v) 30)).cell? ⟨w.heap.size, 7, none⟩ = some (.slice v.i.a v.i.n v.i.c) := by rw [cell_of_row _ _ 7 _ _ (0, 0) hV]; rfl
  have HT : Hid (TbAt w tb v) := h
  have htn := h.t.n
  have hin := h.i.n
  have HM : Hid (v.t.n ≤ v.t.c ∧ v.t.c ≤ maxLen ∧ v.i.n ≤ v.i.c ∧ v.i.c ≤ maxLen) := ⟨h.t.c, h.t.m, h.i.c, h.i.m⟩
  have hb1 := below_alloc (w.alloc (.cells (tbC tb v) 30)) (.map #[] 0)
  have e1 : ((w.alloc (.cells (tbC tb v) 30))).heap.size = w.heap.size + 1 := by simp
  have d2 := (cell_below hb1 w.heap.size 2 (by rw [e1]; omega)).trans c2
  have d7 := (cell_below hb1 w.heap.size 7 (by rw [e1]; omega)).trans c7
  have HI : Hid (Gd ((w.alloc (.cells (tbC tb v) 30)).alloc (.map #[] 0)) w.heap.size (w.heap.size + 1) 0 (domK tb 0 0) ∧ Below w.heap.size w ((w.alloc (.cells (tbC tb v) 30)).alloc (.map #[] 0))) := by
    refine ⟨⟨fun _ => none, fun _ => 0, fun _ => 0, fun _ => ⟨none, 0, 0⟩, fun _ => False, ?_, fun g h => h.elim⟩, hb0.trans (hb1.mono (by rw [e1]; omega))⟩
    rw [domK_zero]
    have := Gth.made (w.alloc (.cells (tbC tb v) 30)) w.heap.size 0 (by rw [e1]; omega) (fun _ => 0) (fun _ => 0) (fun _ => ⟨none, 0, 0⟩) (fun _ => false) (fun _ => [])
    rw [e1] at this
    exact this
  have H7 : Hid (∀ wr, Below (w.heap.size + 1) ((w.alloc (.cells (tbC tb v) 30)).alloc (.map #[] 0)) wr → wr.cell? ⟨w.heap.size, 7, none⟩ = some (.slice v.i.a v.i.n v.i.c)) := fun wr hb => (cell_below hb w.heap.size 7 (by omega)).trans d7
  have HN : Hid (v.t.n = tb.tasks.length ∧ v.i.n = tb.isrs.length) := ⟨htn, hin⟩
  have n1 : v.t.n ≤ 256 := by omega
  have n2 : v.i.n ≤ 32 := by omega
  have HO : Hid ((∀ x ∈ tb.tasks, x.own.length ≤ 1024) ∧ ∀ x ∈ tb.isrs, x.own.length ≤ 1024) := ⟨hot, hoi⟩
  have D2 : Hid (∀ wr, Below (w.heap.size + 1) ((w.alloc (.cells (tbC tb v) 30)).alloc (.map #[] 0)) wr → wr.cell? ⟨w.heap.size, 7, none⟩ = some (.slice v.i.a v.i.n v.i.c)) := H7.out
  have HS : Hid (((w.alloc (.cells (tbC tb v) 30)).alloc (.map #[] 0)).heap.size = w.heap.size + 2) := by show _ = _; simp
  clear h hV hb0 hb1 htn hin ht hi hot hoi H7
  rw [e1] at *
  generalize hCC : tbC tb v = C at *
  clear hCC
  go_enter Try.func14, Try.ntmps14
  go_upto_region 2 with fail
  clear hmm c2 c7 e1
  generalize (w.alloc (.cells C 30)).alloc (.map #[] 0) = w1 at *
  go_wp2
  go_loopw [4, 5, 6, 21] (fun _ _ _ v21 wr => ∃ k : Nat, k ≤ v.t.n ∧ v21 = I k ∧ Hid (Gd wr w.heap.size (w.heap.size + 1) k (domK tb k 0) ∧ Below w.heap.size w wr ∧ Below (w.heap.size + 1) w1 wr)) (fun _ _ _ v21 _ => v.t.n - (intOf v21).toNat)
  case atStart => exact ⟨0, by omega, rfl, HI.out.1, HI.out.2, Below.refl _ _⟩
  case round =>
    clear HI
    obtain ⟨k, hk, rfl, HJ⟩ := hrel
    by_cases hlt : k < v.t.n
    · have hltI : (k : Int) < v.t.n := by omega
      obtain ⟨x, hx⟩ : ∃ x, tb.tasks[k]? = some x := ⟨_, List.getElem?_eq_getElem (by rw [← HN.out.1]; exact hlt)⟩
      obtain ⟨g, off, s6, f1, f2, q0, q1, q2, q3, q4, q5, q6, q7, hR⟩ := tkr_at (HT.out.below HJ.out.2.1) hx
      rw [f1]
      have hb2 := below_alloc wr (.cells #[I x.prio, I x.ring, .bool x.full, I x.limit, .int .u32 (x.mask : Int), I x.inner, .slice s6.a s6.n s6.c, .int .u32 (x.auto : Int)] 55)
      have hV2 := heap_alloc_new wr (.cells #[I x.prio, I x.ring, .bool x.full, I x.limit, .int .u32 (x.mask : Int), I x.inner, .slice s6.a s6.n s6.c, .int .u32 (x.auto : Int)] 55)
      have ya := fun i => cell_of_row _ _ i _ _ (0, 0) hV2
      have yA : (wr.alloc (.cells #[I x.prio, I x.ring, .bool x.full, I x.limit, .int .u32 (x.mask : Int), I x.inner, .slice s6.a s6.n s6.c, .int .u32 (x.auto : Int)] 55)).cell? ⟨wr.heap.size, 0, none⟩ = some (I x.prio) := ya 0
      have yB : (wr.alloc (.cells #[I x.prio, I x.ring, .bool x.full, I x.limit, .int .u32 (x.mask : Int), I x.inner, .slice s6.a s6.n s6.c, .int .u32 (x.auto : Int)] 55)).cell? ⟨wr.heap.size, 6, none⟩ = some (.slice s6.a s6.n s6.c) := ya 6
      have yC : (wr.alloc (.cells #[I x.prio, I x.ring, .bool x.full, I x.limit, .int .u32 (x.mask : Int), I x.inner, .slice s6.a s6.n s6.c, .int .u32 (x.auto : Int)] 55)).cell? ⟨wr.heap.size, 5, none⟩ = some (I x.inner) := ya 5
      have hNO := newOwner_any (wr.alloc (.cells #[I x.prio, I x.ring, .bool x.full, I x.limit, .int .u32 (x.mask : Int), I x.inner, .slice s6.a s6.n s6.c, .int .u32 (x.auto : Int)] 55)) x.prio s6 x.own (hR.below hb2 (fun _ _ _ _ h => h)) (HO.out.1 x (List.mem_of_getElem? hx))
      have HB2 : Hid (Below wr.heap.size wr (wr.alloc (.cells #[I x.prio, I x.ring, .bool x.full, I x.limit, .int .u32 (x.mask : Int), I x.inner, .slice s6.a s6.n s6.c, .int .u32 (x.auto : Int)] 55)) ∧ wr.heap.size < (wr.alloc (.cells #[I x.prio, I x.ring, .bool x.full, I x.limit, .int .u32 (x.mask : Int), I x.inner, .slice s6.a s6.n s6.c, .int .u32 (x.auto : Int)] 55)).heap.size) := ⟨hb2, by simp⟩
      have HX : Hid (tb.tasks[k]? = some x) := hx
      clear hb2 hV2 ya hR f1 hx
      go_upto_region 5 with fail
      clear q0 q1 q2 q3 q4 q5 q6 q7
      generalize wr.alloc (.cells #[I x.prio, I x.ring, .bool x.full, I x.limit, .int .u32 (x.mask : Int), I x.inner, .slice s6.a s6.n s6.c, .int .u32 (x.auto : Int)] 55) = w2 at *
      go_upto_region 6 with (first | (go_at_call 37; refine hNO.mono ?_; clear hNO; rintro e w3 ⟨q, so, sb, gb, rfl, ho, hr, hz, hkk, l1, l2, l3, hb3⟩))
      have zC := (cell_below hb3 _ 5 HB2.out.2).trans yC
      have zq : w3.cell? ⟨q, 3, none⟩ = some (I (-1)) := by rw [cell_of_row _ _ 3 _ _ (0, 0) ho]; rfl
      have zf : w3.frozen? ⟨q, 3, none⟩ = false := frozen_of_row _ q 3 _ _ ho
      have hF4 : Fz (fun z => z = q) w3 (w3.setCell ⟨q, 3, none⟩ (I x.inner)) := (Fz.refl (fun z => z = q) w3).set (.inl rfl) _ _
      have hq1 : wr.heap.size ≤ q := by have := HB2.out.2; omega
      have hb13 : Below wr.heap.size wr w3 := HB2.out.1.trans (hb3.mono (Nat.le_of_lt HB2.out.2))
      have hb14 : Below wr.heap.size wr (w3.setCell ⟨q, 3, none⟩ (I x.inner)) := hb13.trans (hF4.below hb13.size (fun z e => by omega))
      have hsz : (w3.setCell ⟨q, 3, none⟩ (I x.inner)).heap.size = w3.heap.size := by simp
      have hqs : q ≠ sb ∧ q ≠ gb := by
        obtain ⟨cs, hcs⟩ := hkk.ty
        obtain ⟨ds, hds⟩ := hkk.tyg
        exact ⟨cells_ne ho hcs (by decide), cells_ne ho hds (by decide)⟩
      obtain ⟨w5, hrun, hG5, hB5⟩ := HJ.out.1.step HJ.out.2.1.size (by have := HN.out; omega) (o := ⟨false, (k : Int)⟩) (wf_natO _ (by omega)) (domK_new tb 0 k).1 (b := ⟨x.prio, 0, x.inner, x.own⟩) (q := q) (s := sb) (g := gb) (so := so) hb14 (own_set3 ho)
        (rows_kept (Z := fun z => z ≠ q) hr (fun e => by obtain ⟨g', e1, _, _, e2, _⟩ := hz e; exact ⟨g', 0, e1, e2⟩) (fun z hz hlt => hF4.block z hlt hz) hF4.size)
        (fun e => by obtain ⟨g', e1, e2, e3, e4⟩ := hz e; exact ⟨g', e1, by have := HB2.out.2; omega, by rw [hsz]; exact e3, e4⟩)
        (hkk.keptZ hF4 (fun e => hqs.1 e.symm) (fun e => hqs.2 e.symm)) hq1 (by have := HB2.out.2; omega) (by have := HB2.out.2; omega)
      dsimp only at hrun
      have HG : Hid (Gd w5 w.heap.size (w.heap.size + 1) (k + 1) (domK tb (k + 1) 0)) := by
        show Gd _ _ _ _ _
        rw [← domK_task HX.out]
        exact hG5
      have hbm : Below (w.heap.size + 1) wr w5 := by
        have h1 := HJ.out.1
        obtain ⟨p', sb', gb', sl', Z', h2, h3⟩ := h1
        have := h2.mp.lt
        exact (hb14.mono (by omega)).trans hB5.2
      have HB5 : Hid (Below w.heap.size w w5 ∧ Below (w.heap.size + 1) w1 w5) := ⟨HJ.out.2.1.trans ((hb14.mono HJ.out.2.1.size).trans hB5.1), HJ.out.2.2.trans hbm⟩
      clear ho hr hz hkk hF4 hb13 hb14 hsz hG5 hB5 hqs hb3 hbm yA yB yC
      go_wp2
      go_roundw
      case rel => exact ⟨k + 1, by omega, by go_num, HG.out, HB5.out.1, HB5.out.2⟩
      case measure => simp [intOf]; omega
    · obtain rfl : k = v.t.n := by omega
      have hge : ¬ ((v.t.n : Int) < v.t.n) := by omega
      have e7 := D2.out _ HJ.out.2.2
      have HI2 : Hid (Gd wr w.heap.size (w.heap.size + 1) (v.t.n + 0) (domK tb v.t.n 0) ∧ Below w.heap.size w wr ∧ Below (w.heap.size + 1) w1 wr) := HJ.out
      clear HJ
      go_wp2
      clear e7
      go_loopw [7, 8, 9, 44] (fun _ _ _ v44 wr => ∃ k : Nat, k ≤ v.i.n ∧ v44 = I k ∧ Hid (Gd wr w.heap.size (w.heap.size + 1) (v.t.n + k) (domK tb v.t.n k) ∧ Below w.heap.size w wr ∧ Below (w.heap.size + 1) w1 wr)) (fun _ _ _ v44 _ => v.i.n - (intOf v44).toNat)
      case atStart => exact ⟨0, by omega, rfl, HI2.out⟩
      case round =>
        clear HI2
        obtain ⟨k, hk, rfl, HJ⟩ := hrel
        by_cases hlt : k < v.i.n
        · have hltI : (k : Int) < v.i.n := by omega
          obtain ⟨x, hx⟩ : ∃ x, tb.isrs[k]? = some x := ⟨_, List.getElem?_eq_getElem (by rw [← HN.out.2]; exact hlt)⟩
          obtain ⟨g, off, s6, f1, f2, q0, q1, q2, hR⟩ := isr_at (HT.out.below HJ.out.2.1) hx
          rw [f1]
          have hb2 := below_alloc wr (.cells #[I x.cat, I x.prio, .slice s6.a s6.n s6.c] 57)
          have hV2 := heap_alloc_new wr (.cells #[I x.cat, I x.prio, .slice s6.a s6.n s6.c] 57)
          have ya := fun i => cell_of_row _ _ i _ _ (0, 0) hV2
          have yA : (wr.alloc (.cells #[I x.cat, I x.prio, .slice s6.a s6.n s6.c] 57)).cell? ⟨wr.heap.size, 1, none⟩ = some (I x.prio) := ya 1
          have yB : (wr.alloc (.cells #[I x.cat, I x.prio, .slice s6.a s6.n s6.c] 57)).cell? ⟨wr.heap.size, 2, none⟩ = some (.slice s6.a s6.n s6.c) := ya 2
          have yC : (wr.alloc (.cells #[I x.cat, I x.prio, .slice s6.a s6.n s6.c] 57)).cell? ⟨wr.heap.size, 0, none⟩ = some (I x.cat) := ya 0
          have hNO := newOwner_any (wr.alloc (.cells #[I x.cat, I x.prio, .slice s6.a s6.n s6.c] 57)) x.prio s6 x.own (hR.below hb2 (fun _ _ _ _ h => h)) (HO.out.2 x (List.mem_of_getElem? hx))
          have HB2 : Hid (Below wr.heap.size wr (wr.alloc (.cells #[I x.cat, I x.prio, .slice s6.a s6.n s6.c] 57)) ∧ wr.heap.size < (wr.alloc (.cells #[I x.cat, I x.prio, .slice s6.a s6.n s6.c] 57)).heap.size) := ⟨hb2, by simp⟩
          have HX : Hid (tb.isrs[k]? = some x) := hx
          clear hb2 hV2 ya hR f1 hx
          go_upto_region 12 with fail
          clear q0 q1 q2
          generalize wr.alloc (.cells #[I x.cat, I x.prio, .slice s6.a s6.n s6.c] 57) = w2 at *
          go_upto_region 13 with (first | (go_at_call 37; refine hNO.mono ?_; clear hNO; rintro e w3 ⟨q, so, sb, gb, rfl, ho, hr, hz, hkk, l1, l2, l3, hb3⟩))
          have zC := (cell_below hb3 _ 0 HB2.out.2).trans yC
          have zq : w3.cell? ⟨q, 1, none⟩ = some (I 0) := by rw [cell_of_row _ _ 1 _ _ (0, 0) ho]; rfl
          have zf : w3.frozen? ⟨q, 1, none⟩ = false := frozen_of_row _ q 1 _ _ ho
          have hF4 : Fz (fun z => z = q) w3 (w3.setCell ⟨q, 1, none⟩ (I x.cat)) := (Fz.refl (fun z => z = q) w3).set (.inl rfl) _ _
          have hq1 : wr.heap.size ≤ q := by have := HB2.out.2; omega
          have hb13 : Below wr.heap.size wr w3 := HB2.out.1.trans (hb3.mono (Nat.le_of_lt HB2.out.2))
          have hb14 : Below wr.heap.size wr (w3.setCell ⟨q, 1, none⟩ (I x.cat)) := hb13.trans (hF4.below hb13.size (fun z e => by omega))
          have hsz : (w3.setCell ⟨q, 1, none⟩ (I x.cat)).heap.size = w3.heap.size := by simp
          have hqs : q ≠ sb ∧ q ≠ gb := by
            obtain ⟨cs, hcs⟩ := hkk.ty
            obtain ⟨ds, hds⟩ := hkk.tyg
            exact ⟨cells_ne ho hcs (by decide), cells_ne ho hds (by decide)⟩
          obtain ⟨w5, hrun, hG5, hB5⟩ := HJ.out.1.step HJ.out.2.1.size (by have := HN.out; omega) (o := ⟨true, (k : Int)⟩) (wf_natO _ (by omega)) (domK_new tb v.t.n k).2 (b := ⟨x.prio, x.cat, -1, x.own⟩) (q := q) (s := sb) (g := gb) (so := so) hb14 (own_set1 ho)
            (rows_kept (Z := fun z => z ≠ q) hr (fun e => by obtain ⟨g', e1, _, _, e2, _⟩ := hz e; exact ⟨g', 0, e1, e2⟩) (fun z hz hlt => hF4.block z hlt hz) hF4.size)
            (fun e => by obtain ⟨g', e1, e2, e3, e4⟩ := hz e; exact ⟨g', e1, by have := HB2.out.2; omega, by rw [hsz]; exact e3, e4⟩)
            (hkk.keptZ hF4 (fun e => hqs.1 e.symm) (fun e => hqs.2 e.symm)) hq1 (by have := HB2.out.2; omega) (by have := HB2.out.2; omega)
          dsimp only at hrun
          have HG : Hid (Gd w5 w.heap.size (w.heap.size + 1) (v.t.n + k + 1) (domK tb v.t.n (k + 1))) := by
            show Gd _ _ _ _ _
            rw [← domK_isr HX.out]
            exact hG5
          have hbm : Below (w.heap.size + 1) wr w5 := by
            have h1 := HJ.out.1
            obtain ⟨p', sb', gb', sl', Z', h2, h3⟩ := h1
            have := h2.mp.lt
            exact (hb14.mono (by omega)).trans hB5.2
          have HB5 : Hid (Below w.heap.size w w5 ∧ Below (w.heap.size + 1) w1 w5) := ⟨HJ.out.2.1.trans ((hb14.mono HJ.out.2.1.size).trans hB5.1), HJ.out.2.2.trans hbm⟩
          clear ho hr hz hkk hF4 hb13 hb14 hsz hG5 hB5 hqs hb3 hbm yA yB yC
          go_wp2
          go_roundw
          case rel => exact ⟨k + 1, by omega, by go_num, by rw [← Nat.add_assoc]; exact HG.out, HB5.out.1, HB5.out.2⟩
          case measure => simp [intOf]; omega
        · obtain rfl : k = v.i.n := by omega
          have hge2 : ¬ ((v.i.n : Int) < v.i.n) := by omega
          go_wp2
          go_ret
          refine ⟨w.heap.size + 1, rfl, ?_, HJ.out.2.1⟩
          have := HJ.out.1
          rw [HN.out.1, HN.out.2, domK_all] at this
          exact this
end Go.Proofs.Ytmllocfeflhjoaa

namespace Go.Proofs.Ytmllocfeflhjoaa
open Go.RowKit Go.Shelf Go.Sort
set_option linter.unusedVariables false
set_option linter.unusedSimpArgs false

/-! ### sums of alarms' and messages' rows -/
set_option maxHeartbeats 8000000 in
set_option maxRecDepth 100000 in
theorem sum_alr (w : World) (s : Sl) (l : List AlR) (hl : ∀ W, Below w.heap.size w W → RowsAt W 7 alrP s l) (f : Nat) (caps : Array Value) (eg : ∀ args W, (callFunc f args).run Try.prog W = .ok (.enter f args) W) (p : AlR → Int)
    (hf : ∀ W, Below w.heap.size w W → ∀ x ∈ l, Calls Try.prog f (#[.agg #[I x.ctr, I x.ac.kind, I x.ac.task, .int .u32 (x.ac.mask : Int), .int .u32 (x.auto : Int), .int .u32 (x.time : Int), .int .u32 (x.cycle : Int)]] ++ caps) W fun e w' => e = .returned (I (p x)) ∧ Below W.heap.size W w') :
    Calls Try.prog 91 #[.slice s.a s.n s.c, .func (.func f) #[] caps] w fun e w' => e = .returned (I (IntKind.i64.wrap (sumZ p l))) ∧ Below w.heap.size w w' := by
  have h0 := hl w (Below.refl _ _)
  have HS : Hid (s.n = l.length) := h0.n
  have hsc : s.n ≤ s.c := h0.c
  have hsm : s.c ≤ maxLen := h0.m
  unfold maxLen at hsm
  have HH : Hid (∀ W, Below w.heap.size w W → RowsAt W 7 alrP s l) := hl
  have HFF : Hid (∀ W, Below w.heap.size w W → ∀ x ∈ l, Calls Try.prog f (#[.agg #[I x.ctr, I x.ac.kind, I x.ac.task, .int .u32 (x.ac.mask : Int), .int .u32 (x.auto : Int), .int .u32 (x.time : Int), .int .u32 (x.cycle : Int)]] ++ caps) W fun e w' => e = .returned (I (p x)) ∧ Below W.heap.size W w') := hf
  obtain ⟨R, hR⟩ : ∃ R, R = IntKind.i64.wrap (sumZ p l) := ⟨_, rfl⟩
  rw [← hR]
  have HR : Hid (R = IntKind.i64.wrap (sumZ p l)) := hR
  clear hl hR hf h0
  go_enter Try.func91, Try.ntmps91
  go_wp2
  go_loopw [5, 7, 10] (fun tv _ iv wr => ∃ (j : Nat) (t : Int), j ≤ s.n ∧ iv = .int .i64 j ∧ tv = .int .i64 t ∧ Hid (t = IntKind.i64.wrap (sumZ p (l.take j)) ∧ Below w.heap.size w wr)) (fun _ _ iv _ => s.n - (intOf iv).toNat)
  case atStart => exact ⟨0, 0, by omega, rfl, rfl, by simp [sumZ, IntKind.wrap_i64], Below.refl _ _⟩
  case round =>
    obtain ⟨j, t, hj, rfl, rfl, HJ⟩ := hrel
    by_cases hlt : j < s.n
    · have hlt' : (j : Int) < s.n := by omega
      obtain ⟨x, hx⟩ : ∃ x, l[j]? = some x := ⟨_, List.getElem?_eq_getElem (by rw [← HS.out]; exact hlt)⟩
      obtain ⟨g5, o5, e5, hg5, hr5⟩ := (HH.out _ HJ.out.2).row j x hx
      obtain ⟨u0, a0, q0⟩ := hr5 0 (by omega)
      obtain ⟨u1, a1, q1⟩ := hr5 1 (by omega)
      obtain ⟨u2, a2, q2⟩ := hr5 2 (by omega)
      obtain ⟨u3, a3, q3⟩ := hr5 3 (by omega)
      obtain ⟨u4, a4, q4⟩ := hr5 4 (by omega)
      obtain ⟨u5, a5, q5⟩ := hr5 5 (by omega)
      obtain ⟨u6, a6, q6⟩ := hr5 6 (by omega)
      have f0 : u0 = I x.ctr := q0
      have f1 : u1 = I x.ac.kind := q1
      have f2 : u2 = I x.ac.task := q2
      have f3 : u3 = .int .u32 (x.ac.mask : Int) := q3
      have f4 : u4 = .int .u32 (x.auto : Int) := q4
      have f5 : u5 = .int .u32 (x.time : Int) := q5
      have f6 : u6 = .int .u32 (x.cycle : Int) := q6
      subst f0 f1 f2 f3 f4 f5 f6
      rw [Nat.add_zero] at a0
      have HB : Hid (Below w.heap.size w (wr.alloc (.cells #[I x.ctr, I x.ac.kind, I x.ac.task, .int .u32 (x.ac.mask : Int), .int .u32 (x.auto : Int), .int .u32 (x.time : Int), .int .u32 (x.cycle : Int)] 122))) := HJ.out.2.trans ((below_alloc wr _).mono HJ.out.2.size)
      have cx := HFF.out _ HB.out x (List.mem_of_getElem? hx)
      have HA : Hid (IntKind.i64.wrap (t + p x) = IntKind.i64.wrap (sumZ p (l.take (j + 1)))) := by
        show _ = _
        rw [List.take_add_one, hx, Option.toList_some, sumZ_snoc, HJ.out.1]
        simp only [IntKind.wrap_i64]
        omega
      rw [e5]
      clear hx e5 HJ hr5 q0 q1 q2 q3 q4 q5 q6
      generalize p x = px at *
      go_wp2
      refine cx.mono ?_
      clear cx
      rintro e7 w7 ⟨rfl, hb7⟩
      have HB7 : Hid (Below w.heap.size w w7) := HB.out.trans (hb7.mono HB.out.size)
      clear hb7
      go_wp2
      go_roundw
      case rel => exact ⟨j + 1, IntKind.i64.wrap (t + px), by omega, by go_num, by simp [IntKind.wrap_i64, wrap64], HA.out, HB7.out⟩
      case measure => simp [intOf]; omega
    · obtain rfl : j = s.n := by omega
      have hlt' : ¬ ((s.n : Nat) : Int) < (s.n : Nat) := by omega
      have HE : Hid (t = R) := by
        show _ = _
        rw [HR.out, HJ.out.1, List.take_of_length_le (by rw [HS.out]; exact Nat.le_refl _)]
      have HB : Hid (Below w.heap.size w wr) := HJ.out.2
      clear HR HJ
      go_wp2
      go_ret
      exact ⟨ret_i HE.out, HB.out⟩
set_option maxHeartbeats 8000000 in
set_option maxRecDepth 100000 in
theorem sum_msr (w : World) (s : Sl) (l : List MsR) (hl : ∀ W, Below w.heap.size w W → RowsAt W 8 msrP s l) (f : Nat) (caps : Array Value) (eg : ∀ args W, (callFunc f args).run Try.prog W = .ok (.enter f args) W) (p : MsR → Int)
    (hf : ∀ W, Below w.heap.size w W → ∀ x ∈ l, Calls Try.prog f (#[.agg #[I x.kind, I x.len, I x.frm, .int .u64 (x.init : Int), I x.queue, I x.ac.kind, I x.ac.task, .int .u32 (x.ac.mask : Int)]] ++ caps) W fun e w' => e = .returned (I (p x)) ∧ Below W.heap.size W w') :
    Calls Try.prog 93 #[.slice s.a s.n s.c, .func (.func f) #[] caps] w fun e w' => e = .returned (I (IntKind.i64.wrap (sumZ p l))) ∧ Below w.heap.size w w' := by
  have h0 := hl w (Below.refl _ _)
  have HS : Hid (s.n = l.length) := h0.n
  have hsc : s.n ≤ s.c := h0.c
  have hsm : s.c ≤ maxLen := h0.m
  unfold maxLen at hsm
  have HH : Hid (∀ W, Below w.heap.size w W → RowsAt W 8 msrP s l) := hl
  have HFF : Hid (∀ W, Below w.heap.size w W → ∀ x ∈ l, Calls Try.prog f (#[.agg #[I x.kind, I x.len, I x.frm, .int .u64 (x.init : Int), I x.queue, I x.ac.kind, I x.ac.task, .int .u32 (x.ac.mask : Int)]] ++ caps) W fun e w' => e = .returned (I (p x)) ∧ Below W.heap.size W w') := hf
  obtain ⟨R, hR⟩ : ∃ R, R = IntKind.i64.wrap (sumZ p l) := ⟨_, rfl⟩
  rw [← hR]
  have HR : Hid (R = IntKind.i64.wrap (sumZ p l)) := hR
  clear hl hR hf h0
  go_enter Try.func93, Try.ntmps93
  go_wp2
  go_loopw [5, 7, 10] (fun tv _ iv wr => ∃ (j : Nat) (t : Int), j ≤ s.n ∧ iv = .int .i64 j ∧ tv = .int .i64 t ∧ Hid (t = IntKind.i64.wrap (sumZ p (l.take j)) ∧ Below w.heap.size w wr)) (fun _ _ iv _ => s.n - (intOf iv).toNat)
  case atStart => exact ⟨0, 0, by omega, rfl, rfl, by simp [sumZ, IntKind.wrap_i64], Below.refl _ _⟩
  case round =>
    obtain ⟨j, t, hj, rfl, rfl, HJ⟩ := hrel
    by_cases hlt : j < s.n
    · have hlt' : (j : Int) < s.n := by omega
      obtain ⟨x, hx⟩ : ∃ x, l[j]? = some x := ⟨_, List.getElem?_eq_getElem (by rw [← HS.out]; exact hlt)⟩
      obtain ⟨g5, o5, e5, hg5, hr5⟩ := (HH.out _ HJ.out.2).row j x hx
      obtain ⟨u0, a0, q0⟩ := hr5 0 (by omega)
      obtain ⟨u1, a1, q1⟩ := hr5 1 (by omega)
      obtain ⟨u2, a2, q2⟩ := hr5 2 (by omega)
      obtain ⟨u3, a3, q3⟩ := hr5 3 (by omega)
      obtain ⟨u4, a4, q4⟩ := hr5 4 (by omega)
      obtain ⟨u5, a5, q5⟩ := hr5 5 (by omega)
      obtain ⟨u6, a6, q6⟩ := hr5 6 (by omega)
      obtain ⟨u7, a7, q7⟩ := hr5 7 (by omega)
      have f0 : u0 = I x.kind := q0
      have f1 : u1 = I x.len := q1
      have f2 : u2 = I x.frm := q2
      have f3 : u3 = .int .u64 (x.init : Int) := q3
      have f4 : u4 = I x.queue := q4
      have f5 : u5 = I x.ac.kind := q5
      have f6 : u6 = I x.ac.task := q6
      have f7 : u7 = .int .u32 (x.ac.mask : Int) := q7
      subst f0 f1 f2 f3 f4 f5 f6 f7
      rw [Nat.add_zero] at a0
      have HB : Hid (Below w.heap.size w (wr.alloc (.cells #[I x.kind, I x.len, I x.frm, .int .u64 (x.init : Int), I x.queue, I x.ac.kind, I x.ac.task, .int .u32 (x.ac.mask : Int)] 135))) := HJ.out.2.trans ((below_alloc wr _).mono HJ.out.2.size)
      have cx := HFF.out _ HB.out x (List.mem_of_getElem? hx)
      have HA : Hid (IntKind.i64.wrap (t + p x) = IntKind.i64.wrap (sumZ p (l.take (j + 1)))) := by
        show _ = _
        rw [List.take_add_one, hx, Option.toList_some, sumZ_snoc, HJ.out.1]
        simp only [IntKind.wrap_i64]
        omega
      rw [e5]
      clear hx e5 HJ hr5 q0 q1 q2 q3 q4 q5 q6 q7
      generalize p x = px at *
      go_wp2
      refine cx.mono ?_
      clear cx
      rintro e7 w7 ⟨rfl, hb7⟩
      have HB7 : Hid (Below w.heap.size w w7) := HB.out.trans (hb7.mono HB.out.size)
      clear hb7
      go_wp2
      go_roundw
      case rel => exact ⟨j + 1, IntKind.i64.wrap (t + px), by omega, by go_num, by simp [IntKind.wrap_i64, wrap64], HA.out, HB7.out⟩
      case measure => simp [intOf]; omega
    · obtain rfl : j = s.n := by omega
      have hlt' : ¬ ((s.n : Nat) : Int) < (s.n : Nat) := by omega
      have HE : Hid (t = R) := by
        show _ = _
        rw [HR.out, HJ.out.1, List.take_of_length_le (by rw [HS.out]; exact Nat.le_refl _)]
      have HB : Hid (Below w.heap.size w wr) := HJ.out.2
      clear HR HJ
      go_wp2
      go_ret
      exact ⟨ret_i HE.out, HB.out⟩
set_option maxRecDepth 100000 in
theorem calls_any (a : AcR) (w : World) : Calls Try.prog 96 #[.agg #[I a.kind, I a.task, .int .u32 (a.mask : Int)]] w fun e w' => e = .returned (I (if a.kind = 3 then 1 else 0)) ∧ Below w.heap.size w w' := by
  have hb : ∀ o, Below w.heap.size w (w.alloc o) := fun o => below_alloc w o
  by_cases h : a.kind = 3
  · rw [if_pos h]
    have h1 : (a.kind == 3) = true := by simpa using h
    clear h
    go_enter Try.func96, Try.ntmps96
    go_wp2
    go_ret
    exact ⟨rfl, hb _⟩
  · rw [if_neg h]
    have h1 : (a.kind == 3) = false := by simpa using h
    clear h
    go_enter Try.func96, Try.ntmps96
    go_wp2
    go_ret
    exact ⟨rfl, hb _⟩
set_option maxRecDepth 100000 in
theorem callsAl_any (x : AlR) (w : World) : Calls Try.prog 92 #[.agg (alrC x)] w fun e w' => e = .returned (I (if x.ac.kind = 3 then 1 else 0)) ∧ Below w.heap.size w w' := by
  have hb : ∀ o, Below w.heap.size w (w.alloc o) := fun o => below_alloc w o
  have kc := fun W => calls_any x.ac W
  unfold alrC
  generalize (if x.ac.kind = 3 then (1 : Int) else 0) = rr at *
  go_enter Try.func92, Try.ntmps92
  go_wp2_with (go_at_call 96; refine (kc _).mono ?_; clear kc; rintro e w' ⟨rfl, hb2⟩)
  go_ret
  exact ⟨rfl, (hb _).trans (hb2.mono (hb _).size)⟩
set_option maxRecDepth 100000 in
theorem callsMs_any (x : MsR) (w : World) : Calls Try.prog 94 #[.agg (msrC x)] w fun e w' => e = .returned (I (if x.ac.kind = 3 then 1 else 0)) ∧ Below w.heap.size w w' := by
  have hb : ∀ o, Below w.heap.size w (w.alloc o) := fun o => below_alloc w o
  have kc := fun W => calls_any x.ac W
  unfold msrC
  generalize (if x.ac.kind = 3 then (1 : Int) else 0) = rr at *
  go_enter Try.func94, Try.ntmps94
  go_wp2_with (go_at_call 96; refine (kc _).mono ?_; clear kc; rintro e w' ⟨rfl, hb2⟩)
  go_ret
  exact ⟨rfl, (hb _).trans (hb2.mono (hb _).size)⟩
theorem counterOf_any (x : AlR) (w : World) : Calls Try.prog 86 #[.agg (alrC x)] w fun e w' => e = .returned (I x.ctr) ∧ Below w.heap.size w w' := by
  have hb : ∀ o, Below w.heap.size w (w.alloc o) := fun o => below_alloc w o
  unfold alrC
  go_enter Try.func86, Try.ntmps86
  go_wp2
  go_ret
  exact ⟨rfl, hb _⟩
theorem senderOf_any (x : MsR) (w : World) : Calls Try.prog 90 #[.agg (msrC x)] w fun e w' => e = .returned (I x.frm) ∧ Below w.heap.size w w' := by
  have hb : ∀ o, Below w.heap.size w (w.alloc o) := fun o => below_alloc w o
  unfold msrC
  go_enter Try.func90, Try.ntmps90
  go_wp2
  go_ret
  exact ⟨rfl, hb _⟩
theorem isReceived_any (x : MsR) (w : World) : Calls Try.prog 89 #[.agg (msrC x)] w fun e w' => e = .returned (.bool (x.kind != 1)) ∧ Below w.heap.size w w' := by
  have hb : ∀ o, Below w.heap.size w (w.alloc o) := fun o => below_alloc w o
  unfold msrC
  go_enter Try.func89, Try.ntmps89
  go_wp2
  go_ret
  exact ⟨rfl, hb _⟩
end Go.Proofs.Ytmllocfeflhjoaa

namespace Go.Proofs.Ytmllocfeflhjoaa
open Go.RowKit Go.Maps
set_option linter.unusedVariables false

theorem pigeon9 : ∀ (n : Nat) (f : Nat → Nat), (∀ k, k ≤ n → f k < n) → ∃ i j, i < j ∧ j ≤ n ∧ f i = f j
  | 0, f, h => absurd (h 0 (Nat.le_refl 0)) (Nat.not_lt_zero _)
  | n + 1, f, h => by
    by_cases hv : ∃ i, i ≤ n ∧ f i = f (n + 1)
    · obtain ⟨i, hi, e⟩ := hv
      exact ⟨i, n + 1, by omega, Nat.le_refl _, e⟩
    · have hne : ∀ i, i ≤ n → f i ≠ f (n + 1) := fun i hi e => hv ⟨i, hi, e⟩
      have hvl := h (n + 1) (Nat.le_refl _)
      obtain ⟨i, j, hij, hjn, e⟩ := pigeon9 n (fun k => if f k = n then f (n + 1) else f k) (fun k hk => by
        have h1 := h k (by omega)
        have h2 := hne k hk
        split <;> omega)
      have h1 := hne i (by omega)
      have h2 := hne j hjn
      refine ⟨i, j, hij, by omega, ?_⟩
      split at e <;> split at e <;> omega
theorem nodup9_len {l : List Nat} {n : Nat} (hd : l.Nodup) (hl : ∀ x ∈ l, x < n) : l.length ≤ n := by
  by_cases h : l.length ≤ n
  · exact h
  · exfalso
    obtain ⟨i, j, hij, hjn, e⟩ := pigeon9 n (fun k => l.getD k 0) (fun k hk => by
      have hk2 : k < l.length := by omega
      show l.getD k 0 < n
      rw [List.getD_eq_getElem?_getD, List.getElem?_eq_getElem hk2]
      exact hl _ (List.getElem_mem hk2))
    have hi2 : i < l.length := by omega
    have hj2 : j < l.length := by omega
    have e2 : l[i] = l[j] := by
      have e3 : l.getD i 0 = l.getD j 0 := e
      rw [List.getD_eq_getElem?_getD, List.getD_eq_getElem?_getD, List.getElem?_eq_getElem hi2, List.getElem?_eq_getElem hj2] at e3
      exact e3
    exact List.pairwise_iff_getElem.1 hd i j hi2 hj2 hij e2

/-! ### A map of numbers by numbers, as a list of its keys and a function -/
theorem keyI : Keyed Try.prog 3 := int_keyed Try.underlying3
theorem zeroI (w : World) : (zeroValue 3).run Try.prog w = .ok (.int .i64 0) w := by kernel_rfl
theorem wf_nat {j : Nat} (h : j < 9223372036854775808) : (Lit.int .i64 (j : Int)).wf = true := WalkArith.wf_i64 (by omega)
theorem own_tight {H : Type} {w : World} {P : Program} {k : TypeId} {R : Value → Option (DataW H × List MemPlace)} {b n : Nat} {D : DataW H} (h : w.ownsMap P k R b n D) : w.ownsMap P k R b (Maps.size D) D := by
  obtain ⟨es, clock, hb, F, hs, rfl⟩ := h
  refine ⟨es, clock, hb, F, ?_, rfl⟩
  rw [Maps.size_eq, length_sorted]
  simp
structure MapOf (w : World) (b n : Nat) (ks : List Nat) (f : Nat → Int) : Prop where
  nd : ks.Nodup
  lt : ∀ k ∈ ks, k < n
  ex : ∃ D : DataW Unit, w.ownsMap Try.prog 3 (plainElem Try.prog 3) b ks.length D ∧ Maps.size D = ks.length ∧ ∀ j : Nat, Maps.has D (.int .i64 j) = decide (j ∈ ks) ∧ D.atKey (.int .i64 j) (.lit (.int .i64 0)) = .lit (.int .i64 (if j ∈ ks then f j else 0))
theorem MapOf.made (w : World) (n : Nat) (f : Nat → Int) : MapOf (w.alloc (.map #[] 0)) w.heap.size n [] f :=
  ⟨List.nodup_nil, (fun k hk => by cases hk), .map [], World.ownsMap_made _ _ _ _, rfl, fun j => ⟨by simp [Maps.has], by simp [DataW.atKey]⟩⟩
theorem MapOf.block {w : World} {b n : Nat} {ks : List Nat} {f : Nat → Int} (h : MapOf w b n ks f) : b < w.heap.size := by
  obtain ⟨D, hD, _⟩ := h.ex
  exact hD.lt
theorem MapOf.kept {w w' : World} {b n : Nat} {ks : List Nat} {f : Nat → Int} {row : Option Nat} (h : MapOf w b n ks f) (hg : w.grownBy w' row) (hne : some b ≠ row) : MapOf w' b n ks f := by
  obtain ⟨D, hD, h2⟩ := h.ex
  exact ⟨h.nd, h.lt, D, hD.kept hg hne, h2⟩
theorem MapOf.below {w w' : World} {b n : Nat} {ks : List Nat} {f : Nat → Int} (h : MapOf w b n ks f) (hb : Below w.heap.size w w') : MapOf w' b n ks f := h.kept (grown_of_below (r := none) hb) (by simp)
theorem MapOf.congr {w : World} {b n : Nat} {ks : List Nat} {f g : Nat → Int} (h : MapOf w b n ks f) (e : ∀ k ∈ ks, f k = g k) : MapOf w b n ks g := by
  obtain ⟨D, hD, hs, h2⟩ := h.ex
  refine ⟨h.nd, h.lt, D, hD, hs, fun j => ⟨(h2 j).1, ?_⟩⟩
  rw [(h2 j).2]
  by_cases hj : j ∈ ks
  · rw [if_pos hj, if_pos hj, e j hj]
  · rw [if_neg hj, if_neg hj]
def insK (ks : List Nat) (j : Nat) : List Nat := if j ∈ ks then ks else j :: ks
theorem mem_insK {ks : List Nat} {j i : Nat} : i ∈ insK ks j ↔ i = j ∨ i ∈ ks := by
  unfold insK
  by_cases h : j ∈ ks
  · rw [if_pos h]
    constructor
    · exact .inr
    · rintro (rfl | h2)
      · exact h
      · exact h2
  · rw [if_neg h, List.mem_cons]
def mapF (f : Nat → Int) (j : Nat) (e : Int) (i : Nat) : Int := if i = j then e else f i
theorem MapOf.len {w : World} {b n : Nat} {ks : List Nat} {f : Nat → Int} (h : MapOf w b n ks f) : ks.length ≤ n := nodup9_len h.nd h.lt
section
variable {w : World} {ops : Array Oper} {rest : List Oper} {o : Oper} {a : Act} {Q : Exit → Act → World → Prop}
theorem wpList_find_ok (hg : o.guard = none) (m x : Operand) (t : TypeId) (hop : o.op = Op.lookup t m x true) (ht : Try.prog.underlying t = some (.map 3 3)) (b n : Nat) (ks : List Nat) (f : Nat → Int)
    (hm : a.eval m = .map (some b)) (h : MapOf w b n ks f) (j : Nat) (hj : j < 9223372036854775808) (hx : a.eval x = .int .i64 (j : Int))
    (hK : ∀ (e : Int) (mt : Bool), Hid (e = (if j ∈ ks then f j else 0) ∧ mt = decide (j ∈ ks)) → wpList Try.prog ops Q rest (a.put o.dst (.tuple #[.int .i64 e, .bool mt])) w) : wpList Try.prog ops Q (o :: rest) a w := by
  obtain ⟨D, hD, hs, h2⟩ := h.ex
  refine wpList_lookup_own_ok_int w hg m x t hop 3 3 .i64 keyI ht Try.underlying3 (zeroI w) b ks.length D hm hD _ (.int .i64 (j : Int)) hx (keyOf_int_mk Try.underlying3 (wf_nat hj)) (fun c hat _ => ?_)
  rw [(h2 j).2] at hat
  have hc : c = if j ∈ ks then f j else 0 := by cases hat; rfl
  rw [(h2 j).1]
  exact hK c _ ⟨hc, rfl⟩
theorem wpList_find_at (hg : o.guard = none) (m x : Operand) (t : TypeId) (hop : o.op = Op.lookup t m x false) (ht : Try.prog.underlying t = some (.map 3 3)) (b n : Nat) (ks : List Nat) (f : Nat → Int)
    (hm : a.eval m = .map (some b)) (h : MapOf w b n ks f) (j : Nat) (hj : j < 9223372036854775808) (hx : a.eval x = .int .i64 (j : Int))
    (hK : ∀ e : Int, Hid (e = if j ∈ ks then f j else 0) → wpList Try.prog ops Q rest (a.put o.dst (.int .i64 e)) w) : wpList Try.prog ops Q (o :: rest) a w := by
  obtain ⟨D, hD, hs, h2⟩ := h.ex
  refine wpList_lookup_own_int w hg m x t hop 3 3 .i64 keyI ht Try.underlying3 (zeroI w) b ks.length D hm hD _ (.int .i64 (j : Int)) hx (keyOf_int_mk Try.underlying3 (wf_nat hj)) (fun c hat _ => ?_)
  rw [(h2 j).2] at hat
  have hc : c = if j ∈ ks then f j else 0 := by cases hat; rfl
  exact hK c hc
theorem wpList_put_at (hg : o.guard = none) (m x u : Operand) (t : TypeId) (hop : o.op = Op.mapUpdate t m x u) (ht : Try.prog.underlying t = some (.map 3 3)) (b n : Nat) (ks : List Nat) (f : Nat → Int)
    (hm : a.eval m = .map (some b)) (h : MapOf w b n ks f) (hn : n ≤ 8796093022208) (j : Nat) (hj : j < n) (hx : a.eval x = .int .i64 (j : Int)) (e : Int) (he : (Lit.int .i64 e).wf = true) (hu : a.eval u = .int .i64 e)
    (hK : ∀ w', MapOf w' b n (insK ks j) (mapF f j e) → w.grownBy w' (some b) → wpList Try.prog ops Q rest (a.put o.dst undef) w') : wpList Try.prog ops Q (o :: rest) a w := by
  have hlen := h.len
  obtain ⟨D, hD, hs, h2⟩ := h.ex
  have hT := hD.tidy keyI
  have hkl : WideAt.IsKeyLit (.int .i64 (j : Int)) := trivial
  refine wpList_mapUpdate_own w hg m x u t hop 3 3 keyI ht _ b ks.length D hm hD (by unfold maxLen; omega) _ _ (.int .i64 (j : Int)) hx hu (keyOf_int_mk Try.underlying3 (wf_nat (by omega))) _ [] (plainElem_int Try.underlying3 he) (fun w' hown hgr => hK w' ?_ hgr)
  have hsz : Maps.size (D.put (.int .i64 (j : Int)) (.lit (.int .i64 e))) = (insK ks j).length := by
    rw [Maps.size_put hT, (h2 j).1, hs]
    unfold insK
    by_cases hm : j ∈ ks <;> simp [hm]
  refine ⟨?_, ?_, _, by rw [← hsz]; exact own_tight hown, hsz, fun i => ?_⟩
  · unfold insK
    by_cases hm : j ∈ ks
    · rw [if_pos hm]; exact h.nd
    · rw [if_neg hm]; exact List.nodup_cons.2 ⟨hm, h.nd⟩
  · intro k hk
    rcases mem_insK.1 hk with rfl | hk
    · exact hj
    · exact h.lt k hk
  · by_cases hij : i = j
    · subst hij
      refine ⟨by rw [Maps.has_put_same hT.isMap hkl]; simp [mem_insK], ?_⟩
      rw [Maps.atKey_put_same hT.isMap hkl, if_pos (mem_insK.2 (.inl rfl)), mapF, if_pos rfl]
    · have hne : (Lit.int .i64 (i : Int)) ≠ .int .i64 (j : Int) := fun e => by
        have : (i : Int) = j := by injection e
        omega
      refine ⟨by rw [Maps.has_put_other hne, (h2 i).1]; simp [mem_insK, hij], ?_⟩
      rw [Maps.atKey_put_other hne, (h2 i).2, mapF, if_neg hij]
      by_cases hi : i ∈ ks
      · rw [if_pos hi, if_pos (mem_insK.2 (.inr hi))]
      · rw [if_neg hi, if_neg (fun h => (mem_insK.1 h).elim hij hi)]
end

/-! ### How many are at one place -/
theorem crowd_snoc (l : List Int) (a : Int) : crowdL (l ++ [a]) = max (crowdL l) (l.count a + 1) := by
  have hc : ∀ k, (l ++ [a]).count k = l.count k + (if k = a then 1 else 0) := fun k => by
    rw [List.count_append, List.count_singleton]
    by_cases h : k = a
    · simp [h]
    · have : ¬ a = k := fun e => h e.symm
      simp [h, this]
  apply Nat.le_antisymm
  · refine maxL_le.2 (fun x hx => ?_)
    obtain ⟨k, hk, rfl⟩ := List.mem_map.1 hx
    rw [hc]
    by_cases h : k = a
    · rw [if_pos h, h]; exact Nat.le_max_right _ _
    · rw [if_neg h]
      have hkl : k ∈ l := by
        rcases List.mem_append.1 hk with h1 | h1
        · exact h1
        · exact absurd (by simpa using h1) h
      have : l.count k ≤ crowdL l := maxL_le.1 (Nat.le_refl _) _ (List.mem_map.2 ⟨k, hkl, rfl⟩)
      omega
  · refine Nat.max_le.2 ⟨?_, ?_⟩
    · refine maxL_le.2 (fun x hx => ?_)
      obtain ⟨k, hk, rfl⟩ := List.mem_map.1 hx
      have : (l ++ [a]).count k ≤ crowdL (l ++ [a]) := maxL_le.1 (Nat.le_refl _) _ (List.mem_map.2 ⟨k, by simp [hk], rfl⟩)
      rw [hc] at this
      omega
    · have : (l ++ [a]).count a ≤ crowdL (l ++ [a]) := maxL_le.1 (Nat.le_refl _) _ (List.mem_map.2 ⟨a, by simp, rfl⟩)
      rw [hc, if_pos rfl] at this
      exact this
theorem crowd_le (l : List Int) : crowdL l ≤ l.length := by
  refine maxL_le.2 (fun x hx => ?_)
  obtain ⟨k, hk, rfl⟩ := List.mem_map.1 hx
  exact List.count_le_length
end Go.Proofs.Ytmllocfeflhjoaa

