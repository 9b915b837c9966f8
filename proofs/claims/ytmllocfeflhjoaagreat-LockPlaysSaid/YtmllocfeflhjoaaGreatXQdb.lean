import Derived.Test.YtmllocfeflhjoaaGreatXQp
import Derived.Test.YtmllocfeflhjoaaGreatXTda
import Derived.Deep.RegionHeldLaw
import Derived.Test.YtmllocfeflhjoaaGreatXQda
import Derived.Test.YtmllocfeflhjoaaGreatXQe
namespace Go.Proofs.YtmllocfeflhjoaaGreat
open Go.RowKit Go.Maps Go.Shelf Go.Sort
open Go.Proofs.YtmllocfeflhjoaaGreat.St (Fx Fz iQ iP iV)
set_option linter.unusedVariables false
set_option linter.unusedSimpArgs false

/-! ### The owners of tables -/
/-- the owners so far: the first i tasks and the first j ISRs -/
def domK (tb : Tb) (i j : Nat) (o : Own) : Option Ob := if o.id < (if o.isr = true then j else i : Nat) then obs tb o else none
theorem obs_none {tb : Tb} {o : Own} (h : o.id < 0) : obs tb o = none := if_pos h
theorem domK_zero (tb : Tb) : domK tb 0 0 = fun _ => none := by
  funext o
  unfold domK
  by_cases h : o.id < 0
  · rw [obs_none h]; simp
  · rw [if_neg (by cases o.isr <;> simpa using h)]
theorem domK_task {tb : Tb} {i : Nat} {x : TkR} (hx : tb.tasks[i]? = some x) : updF (domK tb i 0) ⟨false, (i : Int)⟩ (some ⟨x.prio, 0, x.inner, x.own⟩) = domK tb (i + 1) 0 := by
  funext o
  by_cases e : o = ⟨false, (i : Int)⟩
  · subst e
    rw [updF_same]
    simp [domK, obs, hx]
    omega
  · rw [updF_ne _ _ e]
    unfold domK
    cases hi : o.isr with
    | true => simp
    | false =>
      have : o.id ≠ i := fun k => e (by cases o; simp_all)
      simp
      by_cases h1 : o.id < i
      · rw [if_pos h1, if_pos (by omega)]
      · rw [if_neg h1, if_neg (by omega)]
theorem domK_isr {tb : Tb} {n i : Nat} {x : IsR} (hx : tb.isrs[i]? = some x) : updF (domK tb n i) ⟨true, (i : Int)⟩ (some ⟨x.prio, x.cat, -1, x.own⟩) = domK tb n (i + 1) := by
  funext o
  by_cases e : o = ⟨true, (i : Int)⟩
  · subst e
    rw [updF_same]
    simp [domK, obs, hx]
    omega
  · rw [updF_ne _ _ e]
    unfold domK
    cases hi : o.isr with
    | false => simp
    | true =>
      have : o.id ≠ i := fun k => e (by cases o; simp_all)
      simp
      by_cases h1 : o.id < i
      · rw [if_pos h1, if_pos (by omega)]
      · rw [if_neg h1, if_neg (by omega)]
theorem domK_all (tb : Tb) : domK tb tb.tasks.length tb.isrs.length = obs tb := by
  funext o
  unfold domK
  by_cases h0 : o.id < 0
  · rw [obs_none h0]; simp
  · cases hi : o.isr with
    | true =>
      simp only [if_true]
      by_cases h : o.id < (tb.isrs.length : Int)
      · rw [if_pos h]
      · rw [if_neg h]
        unfold obs
        rw [if_neg h0, hi, if_pos rfl, List.getElem?_eq_none (by omega)]
        rfl
    | false =>
      simp only [Bool.false_eq_true, if_false]
      by_cases h : o.id < (tb.tasks.length : Int)
      · rw [if_pos h]
      · rw [if_neg h]
        unfold obs
        rw [if_neg h0, hi, if_neg (by simp), List.getElem?_eq_none (by omega)]
        rfl
theorem domK_new (tb : Tb) (n i : Nat) : domK tb i n ⟨false, (i : Int)⟩ = none ∧ domK tb n i ⟨true, (i : Int)⟩ = none := by
  constructor <;> (unfold domK; simp)
/-- the owners, gathered -/
def Gd (w : World) (X0 m n : Nat) (dom : Own → Option Ob) : Prop := ∃ p sb gb sl Z, Gth w X0 m n p sb gb sl Z dom (fun _ => false) (fun _ => []) ∧ ∀ g, Z g → X0 ≤ g
theorem Gd.step {w w1 : World} {X0 m n : Nat} {dom : Own → Option Ob} (h : Gd w X0 m n dom) (hX : X0 ≤ w.heap.size) (hn : n < 1024) {o : Own} (hw : o.wf) (hd : dom o = none) {b : Ob} {q s g : Nat} {so : Sl} (hb1 : Below w.heap.size w w1) (ho : w1.heap[q]? = some (.cells #[I b.prio, I b.cat, .slice so.a so.n so.c, I b.inner, .bool false, lp s] 91)) (hr : RowsAt w1 1 intP so b.own) (hz : b.own ≠ [] → ∃ g', so.a = some ⟨g', 0, none⟩ ∧ w.heap.size ≤ g' ∧ g' < w1.heap.size ∧ g' ≠ q ∧ g' ≠ s ∧ g' ≠ g) (hk : iQ w1 s g b.own.length 0 []) (hq : w.heap.size ≤ q) (hs : w.heap.size ≤ s) (hg : w.heap.size ≤ g) :
    ∃ w', (Instr.mapUpdate 29 (.map (some m)) (.agg #[.bool o.isr, I o.id]) (.pointer (some ⟨q, 0, none⟩))).run Tryz.prog w1 = .ok () w' ∧ Gd w' X0 m (n + 1) (updF dom o (some b)) ∧ Below X0 w1 w' ∧ Below m w1 w' := by
  obtain ⟨p, sb, gb, sl, Z, hG, hZ⟩ := h
  obtain ⟨w', hrun, hm, hgr⟩ := (hG.mp.kept (hb1.block _ hG.mp.lt)).put (by omega) o hw q
  have hf : Fx [m] w1 w' := (Fx.refl _ w1).grown hgr (fun g e => by cases e; exact .inl (List.mem_singleton.2 rfl))
  have hf0 : Fx [m] w w' := (Fx.of_below hb1).trans hf
  have hml := hG.mp.lt
  have hB : OwB w1 b false [] q s g so := ⟨ho, hr, 0, hk⟩
  have hl := hB.lts
  have hB' : OwB w' b false [] q s g so := hB.kept (N := fun x => x ∈ [m]) (Z := fun x => w.heap.size ≤ x) (Fz.of_fx hf (fun _ h => h)) (fun e => by obtain ⟨x, e1, e2, _⟩ := hz e; exact ⟨x, 0, e1, e2⟩) (by simp; omega) (by simp; omega) (by simp; omega) (fun x hx => by simp; omega)
  have hs1 := hf.size
  refine ⟨w', hrun, ⟨_, _, _, _, _, hG.step hX hw hd rfl rfl hm hf0 hB' hq hs hg (fun e => by
    obtain ⟨x, e1, e2, e3, e4⟩ := hz e
    exact ⟨x, 0, e1, .inr ⟨e2, by omega, e4⟩⟩), ?_⟩, below_of_grown hgr hG.lo (Nat.le_trans hX hb1.size), below_of_grown hgr (Nat.le_refl _) (by have := hb1.size; omega)⟩
  rintro x (hx | hx)
  · exact hZ x hx
  · omega
end Go.Proofs.YtmllocfeflhjoaaGreat

namespace Go.Proofs.YtmllocfeflhjoaaGreat
open Go.RowKit Go.Maps Go.Shelf Go.Sort
open Go.Proofs.YtmllocfeflhjoaaGreat.St (Fx Fz iQ iP iV)
set_option linter.unusedVariables false
set_option linter.unusedSimpArgs false

theorem wf_natO (b : Bool) {i : Nat} (h : i < 9223372036854775808) : (⟨b, (i : Int)⟩ : Own).wf := by
  show (Lit.int .i64 (i : Int)).wf = true
  exact WalkArith.wf_i64 (by omega)
theorem own_set3 {w : World} {q : Nat} {a b c d e f v : Value} {t : TypeId} (h : w.heap[q]? = some (.cells #[a, b, c, d, e, f] t)) : (w.setCell ⟨q, 3, none⟩ v).heap[q]? = some (.cells #[a, b, c, v, e, f] t) := heap_setCell_same _ q 3 _ _ _ h
theorem own_set1 {w : World} {q : Nat} {a b c d e f v : Value} {t : TypeId} (h : w.heap[q]? = some (.cells #[a, b, c, d, e, f] t)) : (w.setCell ⟨q, 1, none⟩ v).heap[q]? = some (.cells #[a, v, c, d, e, f] t) := heap_setCell_same _ q 1 _ _ _ h
theorem make_hint (w : World) (n : Int) : (Instr.makeMap 29 (some (.int .i64 n))).run Tryz.prog w = .ok (.map (some w.heap.size)) (w.alloc (.map #[] 0)) := by
  simp [Instr.makeMap, run_underlying Tryz.underlying29, go_sem, Result.andThen]
set_option maxRecDepth 100000 in
set_option maxHeartbeats 16000000 in
theorem ownersOf_any (w : World) (tb : Tb) (v : Ts) (h : TbAt w tb v) (ht : tb.tasks.length ≤ 256) (hi : tb.isrs.length ≤ 32) (hot : ∀ x ∈ tb.tasks, x.own.length ≤ 1024) (hoi : ∀ x ∈ tb.isrs, x.own.length ≤ 1024) : Calls Tryz.prog 33 #[.agg (tbC tb v)] w fun e w' => ∃ m, e = .returned (.map (some m)) ∧ Gd w' w.heap.size m (tb.tasks.length + tb.isrs.length) (obs tb) ∧ Below w.heap.size w w' := by
  have hmm := make_hint
  have hb0 := below_alloc w (.cells (tbC tb v) 42)
  have hV := heap_alloc_new w (.cells (tbC tb v) 42)
  have c2 : (w.alloc (.cells (tbC tb v) 42)).cell? ⟨w.heap.size, 2, none⟩ = some (.slice v.t.a v.t.n v.t.c) := by rw [cell_of_row _ _ 2 _ _ (0, 0) hV]; rfl
  have c7 : (w.alloc (.cells (tbC tb v) 42)).cell? ⟨w.heap.size, 7, none⟩ = some (.slice v.i.a v.i.n v.i.c) := by rw [cell_of_row _ _ 7 _ _ (0, 0) hV]; rfl
  have HT : Hid (TbAt w tb v) := h
  have htn := h.t.n
  have hin := h.i.n
  have HM : Hid (v.t.n ≤ v.t.c ∧ v.t.c ≤ maxLen ∧ v.i.n ≤ v.i.c ∧ v.i.c ≤ maxLen) := ⟨h.t.c, h.t.m, h.i.c, h.i.m⟩
  have hb1 := below_alloc (w.alloc (.cells (tbC tb v) 42)) (.map #[] 0)
  have e1 : ((w.alloc (.cells (tbC tb v) 42))).heap.size = w.heap.size + 1 := by simp
  have d2 := (cell_below hb1 w.heap.size 2 (by rw [e1]; omega)).trans c2
  have d7 := (cell_below hb1 w.heap.size 7 (by rw [e1]; omega)).trans c7
  have HI : Hid (Gd ((w.alloc (.cells (tbC tb v) 42)).alloc (.map #[] 0)) w.heap.size (w.heap.size + 1) 0 (domK tb 0 0) ∧ Below w.heap.size w ((w.alloc (.cells (tbC tb v) 42)).alloc (.map #[] 0))) := by
    refine ⟨⟨fun _ => none, fun _ => 0, fun _ => 0, fun _ => ⟨none, 0, 0⟩, fun _ => False, ?_, fun g h => h.elim⟩, hb0.trans (hb1.mono (by rw [e1]; omega))⟩
    rw [domK_zero]
    have := Gth.made (w.alloc (.cells (tbC tb v) 42)) w.heap.size 0 (by rw [e1]; omega) (fun _ => 0) (fun _ => 0) (fun _ => ⟨none, 0, 0⟩) (fun _ => false) (fun _ => [])
    rw [e1] at this
    exact this
  have H7 : Hid (∀ wr, Below (w.heap.size + 1) ((w.alloc (.cells (tbC tb v) 42)).alloc (.map #[] 0)) wr → wr.cell? ⟨w.heap.size, 7, none⟩ = some (.slice v.i.a v.i.n v.i.c)) := fun wr hb => (cell_below hb w.heap.size 7 (by omega)).trans d7
  have HN : Hid (v.t.n = tb.tasks.length ∧ v.i.n = tb.isrs.length) := ⟨htn, hin⟩
  have n1 : v.t.n ≤ 256 := by omega
  have n2 : v.i.n ≤ 32 := by omega
  have HO : Hid ((∀ x ∈ tb.tasks, x.own.length ≤ 1024) ∧ ∀ x ∈ tb.isrs, x.own.length ≤ 1024) := ⟨hot, hoi⟩
  have D2 : Hid (∀ wr, Below (w.heap.size + 1) ((w.alloc (.cells (tbC tb v) 42)).alloc (.map #[] 0)) wr → wr.cell? ⟨w.heap.size, 7, none⟩ = some (.slice v.i.a v.i.n v.i.c)) := H7.out
  have HS : Hid (((w.alloc (.cells (tbC tb v) 42)).alloc (.map #[] 0)).heap.size = w.heap.size + 2) := by show _ = _; simp
  clear h hV hb0 hb1 htn hin ht hi hot hoi H7
  rw [e1] at *
  generalize hCC : tbC tb v = C at *
  clear hCC
  go_enter Tryz.func33, Tryz.ntmps33
  go_upto_region 2 with fail
  clear hmm c2 c7 e1
  generalize (w.alloc (.cells C 42)).alloc (.map #[] 0) = w1 at *
  go_wp2
  go_loopw [4, 5, 6, 21] (fun _ _ _ v21 wr => ∃ k : Nat, k ≤ v.t.n ∧ v21 = I k ∧ Hid (Gd wr w.heap.size (w.heap.size + 1) k (domK tb k 0) ∧ Below w.heap.size w wr ∧ Below (w.heap.size + 1) w1 wr)) (fun _ _ _ v21 _ => v.t.n - (intOf v21).toNat)
  case atStart => exact ⟨0, by omega, rfl, HI.out.1, HI.out.2, Below.refl _ _⟩
  case round =>
    clear HI
    obtain ⟨k, hk, rfl, HJ⟩ := hrel
    by_cases hlt : k < v.t.n
    · have hltI : (k : Int) < v.t.n := by omega
      obtain ⟨x, hx⟩ : ∃ x, tb.tasks[k]? = some x := ⟨_, List.getElem?_eq_getElem (by rw [← HN.out.1]; exact hlt)⟩
      obtain ⟨g, off, s6, f1, f2, q0, q1, q2, q3, q4, q5, q6, q7, hR⟩ := tkr_at (HT.out.below HJ.out.2.1) hx
      rw [f1]
      have hb2 := below_alloc wr (.cells #[I x.prio, I x.ring, .bool x.full, I x.limit, .int .u32 (x.mask : Int), I x.inner, .slice s6.a s6.n s6.c, .int .u32 (x.auto : Int)] 114)
      have hV2 := heap_alloc_new wr (.cells #[I x.prio, I x.ring, .bool x.full, I x.limit, .int .u32 (x.mask : Int), I x.inner, .slice s6.a s6.n s6.c, .int .u32 (x.auto : Int)] 114)
      have ya := fun i => cell_of_row _ _ i _ _ (0, 0) hV2
      have yA : (wr.alloc (.cells #[I x.prio, I x.ring, .bool x.full, I x.limit, .int .u32 (x.mask : Int), I x.inner, .slice s6.a s6.n s6.c, .int .u32 (x.auto : Int)] 114)).cell? ⟨wr.heap.size, 0, none⟩ = some (I x.prio) := ya 0
      have yB : (wr.alloc (.cells #[I x.prio, I x.ring, .bool x.full, I x.limit, .int .u32 (x.mask : Int), I x.inner, .slice s6.a s6.n s6.c, .int .u32 (x.auto : Int)] 114)).cell? ⟨wr.heap.size, 6, none⟩ = some (.slice s6.a s6.n s6.c) := ya 6
      have yC : (wr.alloc (.cells #[I x.prio, I x.ring, .bool x.full, I x.limit, .int .u32 (x.mask : Int), I x.inner, .slice s6.a s6.n s6.c, .int .u32 (x.auto : Int)] 114)).cell? ⟨wr.heap.size, 5, none⟩ = some (I x.inner) := ya 5
      have hNO := newOwner_any (wr.alloc (.cells #[I x.prio, I x.ring, .bool x.full, I x.limit, .int .u32 (x.mask : Int), I x.inner, .slice s6.a s6.n s6.c, .int .u32 (x.auto : Int)] 114)) x.prio s6 x.own (hR.below hb2 (fun _ _ _ _ h => h)) (HO.out.1 x (List.mem_of_getElem? hx))
      have HB2 : Hid (Below wr.heap.size wr (wr.alloc (.cells #[I x.prio, I x.ring, .bool x.full, I x.limit, .int .u32 (x.mask : Int), I x.inner, .slice s6.a s6.n s6.c, .int .u32 (x.auto : Int)] 114)) ∧ wr.heap.size < (wr.alloc (.cells #[I x.prio, I x.ring, .bool x.full, I x.limit, .int .u32 (x.mask : Int), I x.inner, .slice s6.a s6.n s6.c, .int .u32 (x.auto : Int)] 114)).heap.size) := ⟨hb2, by simp⟩
      have HX : Hid (tb.tasks[k]? = some x) := hx
      clear hb2 hV2 ya hR f1 hx
      go_upto_region 5 with fail
      clear q0 q1 q2 q3 q4 q5 q6 q7
      generalize wr.alloc (.cells #[I x.prio, I x.ring, .bool x.full, I x.limit, .int .u32 (x.mask : Int), I x.inner, .slice s6.a s6.n s6.c, .int .u32 (x.auto : Int)] 114) = w2 at *
      go_upto_region 6 with (first | (go_at_call 75; refine hNO.mono ?_; clear hNO; rintro e w3 ⟨q, so, sb, gb, rfl, ho, hr, hz, hkk, l1, l2, l3, hb3⟩))
      have zC := (cell_below hb3 _ 5 HB2.out.2).trans yC
      have zq : w3.cell? ⟨q, 3, none⟩ = some (I (-1)) := by rw [cell_of_row _ _ 3 _ _ (0, 0) ho]; rfl
      have zf : w3.frozen? ⟨q, 3, none⟩ = false := frozen_of_row _ q 3 _ _ ho
      have hF4 : Fz (fun z => z = q) w3 (w3.setCell ⟨q, 3, none⟩ (I x.inner)) := (Fz.refl (fun z => z = q) w3).set (.inl rfl) _ _
      have hq1 : wr.heap.size ≤ q := by have := HB2.out.2; omega
      have hb13 : Below wr.heap.size wr w3 := HB2.out.1.trans (hb3.mono (Nat.le_of_lt HB2.out.2))
      have hb14 : Below wr.heap.size wr (w3.setCell ⟨q, 3, none⟩ (I x.inner)) := hb13.trans (hF4.below hb13.size (fun z e => by omega))
      have hsz : (w3.setCell ⟨q, 3, none⟩ (I x.inner)).heap.size = w3.heap.size := by simp
      have hqs : q ≠ sb ∧ q ≠ gb := by
        obtain ⟨cs, hcs⟩ := hkk.ty
        obtain ⟨ds, hds⟩ := hkk.tyg
        exact ⟨cells_ne ho hcs (by decide), cells_ne ho hds (by decide)⟩
      obtain ⟨w5, hrun, hG5, hB5⟩ := HJ.out.1.step HJ.out.2.1.size (by have := HN.out; omega) (o := ⟨false, (k : Int)⟩) (wf_natO _ (by omega)) (domK_new tb 0 k).1 (b := ⟨x.prio, 0, x.inner, x.own⟩) (q := q) (s := sb) (g := gb) (so := so) hb14 (own_set3 ho)
        (rows_kept (Z := fun z => z ≠ q) hr (fun e => by obtain ⟨g', e1, _, _, e2, _⟩ := hz e; exact ⟨g', 0, e1, e2⟩) (fun z hz hlt => hF4.block z hlt hz) hF4.size)
        (fun e => by obtain ⟨g', e1, e2, e3, e4⟩ := hz e; exact ⟨g', e1, by have := HB2.out.2; omega, by rw [hsz]; exact e3, e4⟩)
        (hkk.keptZ hF4 (fun e => hqs.1 e.symm) (fun e => hqs.2 e.symm)) hq1 (by have := HB2.out.2; omega) (by have := HB2.out.2; omega)
      dsimp only at hrun
      have HG : Hid (Gd w5 w.heap.size (w.heap.size + 1) (k + 1) (domK tb (k + 1) 0)) := by
        show Gd _ _ _ _ _
        rw [← domK_task HX.out]
        exact hG5
      have hbm : Below (w.heap.size + 1) wr w5 := by
        have h1 := HJ.out.1
        obtain ⟨p', sb', gb', sl', Z', h2, h3⟩ := h1
        have := h2.mp.lt
        exact (hb14.mono (by omega)).trans hB5.2
      have HB5 : Hid (Below w.heap.size w w5 ∧ Below (w.heap.size + 1) w1 w5) := ⟨HJ.out.2.1.trans ((hb14.mono HJ.out.2.1.size).trans hB5.1), HJ.out.2.2.trans hbm⟩
      clear ho hr hz hkk hF4 hb13 hb14 hsz hG5 hB5 hqs hb3 hbm yA yB yC
      go_wp2
      go_roundw
      case rel => exact ⟨k + 1, by omega, by go_num, HG.out, HB5.out.1, HB5.out.2⟩
      case measure => simp [intOf]; omega
    · obtain rfl : k = v.t.n := by omega
      have hge : ¬ ((v.t.n : Int) < v.t.n) := by omega
      have e7 := D2.out _ HJ.out.2.2
      have HI2 : Hid (Gd wr w.heap.size (w.heap.size + 1) (v.t.n + 0) (domK tb v.t.n 0) ∧ Below w.heap.size w wr ∧ Below (w.heap.size + 1) w1 wr) := HJ.out
      clear HJ
      go_wp2
      clear e7
      go_loopw [7, 8, 9, 44] (fun _ _ _ v44 wr => ∃ k : Nat, k ≤ v.i.n ∧ v44 = I k ∧ Hid (Gd wr w.heap.size (w.heap.size + 1) (v.t.n + k) (domK tb v.t.n k) ∧ Below w.heap.size w wr ∧ Below (w.heap.size + 1) w1 wr)) (fun _ _ _ v44 _ => v.i.n - (intOf v44).toNat)
      case atStart => exact ⟨0, by omega, rfl, HI2.out⟩
      case round =>
        clear HI2
        obtain ⟨k, hk, rfl, HJ⟩ := hrel
        by_cases hlt : k < v.i.n
        · have hltI : (k : Int) < v.i.n := by omega
          obtain ⟨x, hx⟩ : ∃ x, tb.isrs[k]? = some x := ⟨_, List.getElem?_eq_getElem (by rw [← HN.out.2]; exact hlt)⟩
          obtain ⟨g, off, s6, f1, f2, q0, q1, q2, hR⟩ := isr_at (HT.out.below HJ.out.2.1) hx
          rw [f1]
          have hb2 := below_alloc wr (.cells #[I x.cat, I x.prio, .slice s6.a s6.n s6.c] 121)
          have hV2 := heap_alloc_new wr (.cells #[I x.cat, I x.prio, .slice s6.a s6.n s6.c] 121)
          have ya := fun i => cell_of_row _ _ i _ _ (0, 0) hV2
          have yA : (wr.alloc (.cells #[I x.cat, I x.prio, .slice s6.a s6.n s6.c] 121)).cell? ⟨wr.heap.size, 1, none⟩ = some (I x.prio) := ya 1
          have yB : (wr.alloc (.cells #[I x.cat, I x.prio, .slice s6.a s6.n s6.c] 121)).cell? ⟨wr.heap.size, 2, none⟩ = some (.slice s6.a s6.n s6.c) := ya 2
          have yC : (wr.alloc (.cells #[I x.cat, I x.prio, .slice s6.a s6.n s6.c] 121)).cell? ⟨wr.heap.size, 0, none⟩ = some (I x.cat) := ya 0
          have hNO := newOwner_any (wr.alloc (.cells #[I x.cat, I x.prio, .slice s6.a s6.n s6.c] 121)) x.prio s6 x.own (hR.below hb2 (fun _ _ _ _ h => h)) (HO.out.2 x (List.mem_of_getElem? hx))
          have HB2 : Hid (Below wr.heap.size wr (wr.alloc (.cells #[I x.cat, I x.prio, .slice s6.a s6.n s6.c] 121)) ∧ wr.heap.size < (wr.alloc (.cells #[I x.cat, I x.prio, .slice s6.a s6.n s6.c] 121)).heap.size) := ⟨hb2, by simp⟩
          have HX : Hid (tb.isrs[k]? = some x) := hx
          clear hb2 hV2 ya hR f1 hx
          go_upto_region 12 with fail
          clear q0 q1 q2
          generalize wr.alloc (.cells #[I x.cat, I x.prio, .slice s6.a s6.n s6.c] 121) = w2 at *
          go_upto_region 13 with (first | (go_at_call 75; refine hNO.mono ?_; clear hNO; rintro e w3 ⟨q, so, sb, gb, rfl, ho, hr, hz, hkk, l1, l2, l3, hb3⟩))
          have zC := (cell_below hb3 _ 0 HB2.out.2).trans yC
          have zq : w3.cell? ⟨q, 1, none⟩ = some (I 0) := by rw [cell_of_row _ _ 1 _ _ (0, 0) ho]; rfl
          have zf : w3.frozen? ⟨q, 1, none⟩ = false := frozen_of_row _ q 1 _ _ ho
          have hF4 : Fz (fun z => z = q) w3 (w3.setCell ⟨q, 1, none⟩ (I x.cat)) := (Fz.refl (fun z => z = q) w3).set (.inl rfl) _ _
          have hq1 : wr.heap.size ≤ q := by have := HB2.out.2; omega
          have hb13 : Below wr.heap.size wr w3 := HB2.out.1.trans (hb3.mono (Nat.le_of_lt HB2.out.2))
          have hb14 : Below wr.heap.size wr (w3.setCell ⟨q, 1, none⟩ (I x.cat)) := hb13.trans (hF4.below hb13.size (fun z e => by omega))
          have hsz : (w3.setCell ⟨q, 1, none⟩ (I x.cat)).heap.size = w3.heap.size := by simp
          have hqs : q ≠ sb ∧ q ≠ gb := by
            obtain ⟨cs, hcs⟩ := hkk.ty
            obtain ⟨ds, hds⟩ := hkk.tyg
            exact ⟨cells_ne ho hcs (by decide), cells_ne ho hds (by decide)⟩
          obtain ⟨w5, hrun, hG5, hB5⟩ := HJ.out.1.step HJ.out.2.1.size (by have := HN.out; omega) (o := ⟨true, (k : Int)⟩) (wf_natO _ (by omega)) (domK_new tb v.t.n k).2 (b := ⟨x.prio, x.cat, -1, x.own⟩) (q := q) (s := sb) (g := gb) (so := so) hb14 (own_set1 ho)
            (rows_kept (Z := fun z => z ≠ q) hr (fun e => by obtain ⟨g', e1, _, _, e2, _⟩ := hz e; exact ⟨g', 0, e1, e2⟩) (fun z hz hlt => hF4.block z hlt hz) hF4.size)
            (fun e => by obtain ⟨g', e1, e2, e3, e4⟩ := hz e; exact ⟨g', e1, by have := HB2.out.2; omega, by rw [hsz]; exact e3, e4⟩)
            (hkk.keptZ hF4 (fun e => hqs.1 e.symm) (fun e => hqs.2 e.symm)) hq1 (by have := HB2.out.2; omega) (by have := HB2.out.2; omega)
          dsimp only at hrun
          have HG : Hid (Gd w5 w.heap.size (w.heap.size + 1) (v.t.n + k + 1) (domK tb v.t.n (k + 1))) := by
            show Gd _ _ _ _ _
            rw [← domK_isr HX.out]
            exact hG5
          have hbm : Below (w.heap.size + 1) wr w5 := by
            have h1 := HJ.out.1
            obtain ⟨p', sb', gb', sl', Z', h2, h3⟩ := h1
            have := h2.mp.lt
            exact (hb14.mono (by omega)).trans hB5.2
          have HB5 : Hid (Below w.heap.size w w5 ∧ Below (w.heap.size + 1) w1 w5) := ⟨HJ.out.2.1.trans ((hb14.mono HJ.out.2.1.size).trans hB5.1), HJ.out.2.2.trans hbm⟩
          clear ho hr hz hkk hF4 hb13 hb14 hsz hG5 hB5 hqs hb3 hbm yA yB yC
          go_wp2
          go_roundw
          case rel => exact ⟨k + 1, by omega, by go_num, by rw [← Nat.add_assoc]; exact HG.out, HB5.out.1, HB5.out.2⟩
          case measure => simp [intOf]; omega
        · obtain rfl : k = v.i.n := by omega
          have hge2 : ¬ ((v.i.n : Int) < v.i.n) := by omega
          go_wp2
          go_ret
          refine ⟨w.heap.size + 1, rfl, ?_, HJ.out.2.1⟩
          have := HJ.out.1
          rw [HN.out.1, HN.out.2, domK_all] at this
          exact this
end Go.Proofs.YtmllocfeflhjoaaGreat

namespace Go.Proofs.YtmllocfeflhjoaaGreat
open Go.RowKit Go.Maps Go.Shelf Go.Sort
open Go.Proofs.YtmllocfeflhjoaaGreat.St (Fx Fz iQ iP iV)
set_option linter.unusedVariables false
set_option linter.unusedSimpArgs false

/-! ### What Check says -/
theorem ownG_in {tb : Tb} {prio : Int} : ∀ {a : Int} {l : List Int}, ownG tb prio a l = true → l.Nodup ∧ (∀ r ∈ l, a < r) ∧ ∀ r ∈ l, 0 ≤ r ∧ ∃ x, tb.ress[r.toNat]? = some x ∧ x.inner = false ∧ prio ≤ x.ceil
  | a, [], _ => ⟨List.nodup_nil, fun _ h => (by cases h), fun _ h => (by cases h)⟩
  | a, r :: l, h => by
    rw [ownG] at h
    simp only [Bool.and_eq_true, decide_eq_true_eq] at h
    obtain ⟨⟨⟨h1, h2⟩, h3⟩, h4⟩ := h
    obtain ⟨k1, k2, k3⟩ := ownG_in h4
    refine ⟨List.nodup_cons.2 ⟨fun hm => by have := k2 r hm; omega, k1⟩, fun z hz => ?_, fun z hz => ?_⟩
    · rcases List.mem_cons.1 hz with rfl | hz
      · exact h1
      · have := k2 z hz; omega
    · rcases List.mem_cons.1 hz with rfl | hz
      · unfold idB at h2
        simp at h2
        refine ⟨h2.1, ?_⟩
        unfold resOk at h3
        split at h3
        · rename_i x hx
          simp at h3
          exact ⟨x, hx, h3.1, h3.2⟩
        · cases h3
      · exact k3 z hz
theorem isrsG_in {tb : Tb} : ∀ {pre l : List IsR}, isrsG tb pre l = true → ∀ x ∈ l, isB tb x = true
  | pre, [], _, x, hx => by cases hx
  | pre, y :: l, h, x, hx => by
    rw [isrsG] at h
    simp only [Bool.and_eq_true] at h
    rcases List.mem_cons.1 hx with rfl | hx
    · exact h.1.1
    · exact isrsG_in h.2 x hx
theorem rings_pos {ts : List TkR} : ∀ {a : Int} {l : List RgR}, ringsW ts a l = true → ∀ r ∈ l, 0 ≤ r.prio
  | a, [], _, r, hr => by cases hr
  | a, r0 :: l, h, r, hr => by
    rw [ringsW] at h
    simp only [Bool.and_eq_true, inI, decide_eq_true_eq] at h
    rcases List.mem_cons.1 hr with rfl | hr
    · exact h.1.1.1.1
    · exact rings_pos h.2 r hr
theorem okt_of {tb : Tb} (h : chkP tb = true) : OKt tb := by
  unfold chkP at h
  simp only [Bool.and_eq_true] at h
  obtain ⟨⟨⟨⟨⟨⟨⟨⟨h1, h2⟩, h3⟩, h4⟩, h5⟩, h6⟩, h7⟩, h8⟩, h9⟩ := h
  unfold countsB at h1
  simp only [Bool.and_eq_true, decide_eq_true_eq, inI] at h1
  have htk : ∀ x ∈ tb.tasks, tkB tb x = true := fun x hx => List.all_eq_true.1 h4 x hx
  have his := isrsG_in h7
  refine ⟨fun o b hob => ?_, h1.2.1, by omega, h1.2.2.2.2.1, fun x hx => ?_, fun x hx => ?_⟩
  · unfold obs at hob
    split at hob
    · cases hob
    · split at hob
      · rw [Option.map_eq_some_iff] at hob
        obtain ⟨x, hx, rfl⟩ := hob
        have := his x (List.mem_of_getElem? hx)
        unfold isB at this
        simp only [Bool.and_eq_true] at this
        obtain ⟨k1, k2, k3⟩ := ownG_in this.2
        exact ⟨k1, k3⟩
      · rw [Option.map_eq_some_iff] at hob
        obtain ⟨x, hx, rfl⟩ := hob
        have := htk x (List.mem_of_getElem? hx)
        unfold tkB restB at this
        simp only [Bool.and_eq_true] at this
        obtain ⟨k1, k2, k3⟩ := ownG_in this.2.1.2
        exact ⟨k1, k3⟩
  · have h := htk x hx
    unfold tkB restB at h
    simp only [Bool.and_eq_true] at h
    have hp : 0 ≤ x.prio := by
      obtain ⟨r, hr, e⟩ := prio_mem h.1.1.1 (eq_of_beq h.1.1.2)
      rw [← e]
      exact rings_pos h3 r hr
    have h2 := h.2.1.1
    rw [Bool.or_eq_true] at h2
    rcases h2 with h2 | h2
    · exact .inl (eq_of_beq h2)
    · unfold inI at h2
      simp at h2
      exact .inr (by omega)
  · have := his x hx
    unfold isB at this
    simp only [Bool.and_eq_true, inI, decide_eq_true_eq] at this
    omega
theorem own_len {tb : Tb} (h : OKt tb) {o : Own} {b : Ob} (hob : obs tb o = some b) : b.own.length ≤ 65 := by
  obtain ⟨h1, h2⟩ := h.own o b hob
  have := nodup_sub h1 (m := (List.range tb.ress.length).map (fun (k : Nat) => (k : Int))) (fun x hx => by
    obtain ⟨h0, z, hz, _⟩ := h2 x hx
    exact List.mem_map.2 ⟨x.toNat, List.mem_range.2 (List.getElem?_eq_some_iff.1 hz).1, by omega⟩)
  have := h.ress
  simp at *
  omega
theorem obs_task {tb : Tb} {i : Nat} {x : TkR} (hx : tb.tasks[i]? = some x) : obs tb ⟨false, (i : Int)⟩ = some ⟨x.prio, 0, x.inner, x.own⟩ := by
  unfold obs
  rw [if_neg (by simp), if_neg (by simp)]
  simp [hx]
theorem obs_isr {tb : Tb} {i : Nat} {x : IsR} (hx : tb.isrs[i]? = some x) : obs tb ⟨true, (i : Int)⟩ = some ⟨x.prio, x.cat, -1, x.own⟩ := by
  unfold obs
  rw [if_neg (by simp), if_pos rfl]
  simp [hx]
/-! ### New -/
def zeroL : Ls := ⟨[], fun _ => false, ⟨false, 0, 0⟩⟩
theorem ok_zero (tb : Tb) : OKl tb zeroL := ⟨List.nodup_nil, fun _ _ h => (by cases h), fun _ h => (by cases h), by simp [zeroL]⟩
set_option maxRecDepth 100000 in
set_option maxHeartbeats 4000000 in
theorem New_no (w : World) (tb : Tb) (v : Ts) (h : TbAt w tb v) (hw : WfT tb) (hc : chkP tb = false) : Calls Tryz.prog 7 #[.agg (tbC tb v)] w fun e w' => e = .returned (.tuple #[.pointer none, I 190]) ∧ Below w.heap.size w w' := by
  have hb0 := below_alloc w (.cells (tbC tb v) 42)
  have hV := heap_alloc_new w (.cells (tbC tb v) 42)
  obtain ⟨c0, c1, c2, c3, c4, c5, c6, c7, c8, c9, c10, c11, c12⟩ := var13 hV
  have hC := check_any tb v _ (h.below hb0) hw
  rw [hc] at hC
  have HB : Hid (∀ w', Below (w.alloc (.cells (tbC tb v) 42)).heap.size (w.alloc (.cells (tbC tb v) 42)) w' → Below w.heap.size w w') := fun w' hb => hb0.trans (hb.mono hb0.size)
  unfold tbC at *
  clear h hV hb0
  go_enter Tryz.func7, Tryz.ntmps7
  go_upto_region 1 with fail
  generalize w.alloc (.cells #[I tb.uses, I tb.modes, .slice v.t.a v.t.n v.t.c, .slice v.g.a v.g.n v.g.c, .slice v.r.a v.r.n v.r.c, .slice v.k.a v.k.n v.k.c, .slice v.a.a v.a.n v.a.c, .slice v.i.a v.i.n v.i.c, .slice v.s.a v.s.n v.s.c, I tb.depth, I tb.frames, I tb.errors, I tb.calls] 42) = w1 at *
  go_wp2_with (first | (go_at_call 31; refine hC.mono ?_; clear hC; rintro e w2 ⟨rfl, hb2⟩; simp only [Bool.false_eq_true, if_false]))
  go_ret2
  exact ⟨rfl, HB.out _ hb2⟩
theorem new_fin {w4 we : World} {tb : Tb} {rs : Sl} {m mh X0 L0 n B : Nat} (hG : Gd w4 X0 m n (obs tb)) (hn : n ≤ 1024) (hbe : Below w4.heap.size w4 we) (hr : RowsAt we 2 rsrP rs tb.ress) (hrz : tb.ress ≠ [] → ∃ g, rs.a = some ⟨g, 0, none⟩ ∧ L0 ≤ g ∧ g < X0 ∧ g ≠ mh) (hh : HdM we mh []) (hmh : mh < X0 ∨ w4.heap.size ≤ mh) (hL : L0 ≤ X0 ∧ L0 ≤ mh) (hB : we.heap[B]? = some (.cells #[.slice rs.a rs.n rs.c, .map (some m), .map (some mh), .bool false, I 0, I 0] 32)) (hB4 : w4.heap.size ≤ B) (ok : OKt tb) :
    ∃ Z y, Lk we tb Z y B zeroL ∧ (∀ b, y.M B b → L0 ≤ b) ∧ ∀ b, Z b → L0 ≤ b ∧ b < we.heap.size := by
  obtain ⟨p, sb, gb, sl, Z, hg, hZ⟩ := hG
  have hg' := hg.below hbe
  have hm4 := hg.mp.lt
  have hlo := hg.lo
  have hsz := hbe.size
  refine ⟨fun x => Z x ∨ (tb.ress ≠ [] ∧ rs.a = some ⟨x, 0, none⟩), ⟨rs, m, mh, n, p, sb, gb, sl⟩, ⟨ok_zero tb, ok, hB, hr, ?_, hg'.mp, hn, hh, ?_, hg'.pn, fun o b ho => ?_, hg'.inj, fun x hx => ?_⟩, fun x hx => ?_, fun x hx => ?_⟩
  · intro hne
    obtain ⟨g, e1, _⟩ := hrz hne
    exact ⟨g, 0, e1, .inr ⟨hne, e1⟩⟩
  · show m ≠ mh
    omega
  · obtain ⟨hw, q, hq, hBq, hz, _⟩ := hg'.ps o b ho
    refine ⟨hw, q, hq, hBq, fun hne => ?_⟩
    obtain ⟨g, off, e1, e2⟩ := hz hne
    exact ⟨g, off, e1, .inl e2⟩
  · have key : x ≠ B ∧ x ≠ m ∧ x ≠ mh ∧ ∀ o q, p o = some q → x ≠ q ∧ x ≠ sb o ∧ x ≠ gb o := by
      rcases hx with hx | ⟨hne, hx⟩
      · obtain ⟨c1, c2, c3⟩ := hg.z x hx
        have := hZ x hx
        exact ⟨by omega, c2, by omega, c3⟩
      · obtain ⟨g, e1, e2, e3, e4⟩ := hrz hne
        rw [e1] at hx
        cases hx
        refine ⟨by omega, by omega, e4, fun o q hq => ?_⟩
        obtain ⟨b, _, _, h1, h2, h3⟩ := hg.pq hq
        omega
    rintro (e | e | e | ⟨o, q, hq, e | e | e⟩)
    · exact key.1 e
    · exact key.2.1 e
    · exact key.2.2.1 e
    · exact (key.2.2.2 o q hq).1 e
    · exact (key.2.2.2 o q hq).2.1 e
    · exact (key.2.2.2 o q hq).2.2 e
  · rcases hx with e | e | e | ⟨o, q, hq, e⟩
    · omega
    · have e' : x = m := e
      omega
    · have e' : x = mh := e
      omega
    · obtain ⟨b, _, _, h1, h2, h3⟩ := hg.pq hq
      have e' : x = q ∨ x = sb o ∨ x = gb o := e
      omega
  · rcases hx with hx | ⟨hne, hx⟩
    · obtain ⟨c1, _⟩ := hg.z x hx
      have := hZ x hx
      omega
    · obtain ⟨g, e1, e2, e3, e4⟩ := hrz hne
      rw [e1] at hx
      cases hx
      omega
set_option maxRecDepth 100000 in
set_option maxHeartbeats 4000000 in
theorem New_ok (w : World) (tb : Tb) (v : Ts) (h : TbAt w tb v) (hw : WfT tb) (hc : chkP tb = true) : Calls Tryz.prog 7 #[.agg (tbC tb v)] w fun e w' => ∃ B Z y, e = .returned (.tuple #[lp B, I 0]) ∧ Lk w' tb Z y B zeroL ∧ Below w.heap.size w w' ∧ (∀ b, y.M B b → w.heap.size ≤ b) ∧ (∀ b, Z b → w.heap.size ≤ b ∧ b < w'.heap.size) := by
  have hb0 := below_alloc w (.cells (tbC tb v) 42)
  have hV := heap_alloc_new w (.cells (tbC tb v) 42)
  have hC := check_any tb v _ (h.below hb0) hw
  rw [hc] at hC
  have ok := okt_of hc
  have HB : Hid (∀ w', Below (w.alloc (.cells (tbC tb v) 42)).heap.size (w.alloc (.cells (tbC tb v) 42)) w' → Below w.heap.size w w' ∧ TbAt w' tb v ∧ w'.heap[w.heap.size]? = some (.cells (tbC tb v) 42)) := fun w' hb => ⟨hb0.trans (hb.mono hb0.size), (h.below hb0).below hb, (hb.block _ (heap_lt hV)).trans hV⟩
  obtain ⟨c0, c1, c2, c3, c4, c5, c6, c7, c8, c9, c10, c11, c12⟩ := var13 hV
  unfold tbC at *
  have HOK : Hid (OKt tb) := ok
  clear h hV hb0 ok hc hw
  go_enter Tryz.func7, Tryz.ntmps7
  go_upto_region 1 with fail
  generalize w.alloc (.cells #[I tb.uses, I tb.modes, .slice v.t.a v.t.n v.t.c, .slice v.g.a v.g.n v.g.c, .slice v.r.a v.r.n v.r.c, .slice v.k.a v.k.n v.k.c, .slice v.a.a v.a.n v.a.c, .slice v.i.a v.i.n v.i.c, .slice v.s.a v.s.n v.s.c, I tb.depth, I tb.frames, I tb.errors, I tb.calls] 42) = w1 at *
  generalize hX : w.heap.size = X at *
  have HX : Hid (w.heap.size = X) := hX
  clear hX
  go_upto_region 3 with (first | (go_at_call 31; refine hC.mono ?_; clear hC; rintro e w2 ⟨rfl, hb2⟩; simp only [if_true]))
  obtain ⟨bw, ht, hV⟩ := HB.out _ hb2
  clear c0 c1 c2 c3 c4 c5 c6 c7 c8 c9 c10 c11 c12 HB
  obtain ⟨c0, c1, c2, c3, c4, c5, c6, c7, c8, c9, c10, c11, c12⟩ := var13 (tb := tb) (v := v) hV
  have H13 : Hid (∀ W, Below w2.heap.size w2 W → W.cell? ⟨X, 0, none⟩ = some (I tb.uses) ∧ W.cell? ⟨X, 1, none⟩ = some (I tb.modes) ∧ W.cell? ⟨X, 2, none⟩ = some (.slice v.t.a v.t.n v.t.c) ∧ W.cell? ⟨X, 3, none⟩ = some (.slice v.g.a v.g.n v.g.c) ∧ W.cell? ⟨X, 4, none⟩ = some (.slice v.r.a v.r.n v.r.c) ∧ W.cell? ⟨X, 5, none⟩ = some (.slice v.k.a v.k.n v.k.c) ∧ W.cell? ⟨X, 6, none⟩ = some (.slice v.a.a v.a.n v.a.c) ∧ W.cell? ⟨X, 7, none⟩ = some (.slice v.i.a v.i.n v.i.c) ∧ W.cell? ⟨X, 8, none⟩ = some (.slice v.s.a v.s.n v.s.c) ∧ W.cell? ⟨X, 9, none⟩ = some (I tb.depth) ∧ W.cell? ⟨X, 10, none⟩ = some (I tb.frames) ∧ W.cell? ⟨X, 11, none⟩ = some (I tb.errors) ∧ W.cell? ⟨X, 12, none⟩ = some (I tb.calls)) := fun W hb => var13 (tb := tb) (v := v) ((hb.block X (heap_lt hV)).trans hV)
  have hCl : ∀ W, Below w2.heap.size w2 W → Calls Tryz.prog 32 #[.slice v.r.a v.r.n v.r.c] W fun e w' => ∃ so : Sl, e = .returned (.slice so.a so.n so.c) ∧ RowsAt w' 2 rsrP so tb.ress ∧ (tb.ress ≠ [] → ∃ g, so.a = some ⟨g, 0, none⟩ ∧ W.heap.size ≤ g ∧ g < w'.heap.size) ∧ Below W.heap.size W w' ∧ Below w2.heap.size w2 w' := fun W hb => (cloneR_any W v.r tb.ress ((ht.below hb).r) (by have := HOK.out.ress; omega)).mono (by rintro e w' ⟨so, e1, e2, e3, e4⟩; exact ⟨so, e1, e2, e3, e4, hb.trans (e4.mono hb.size)⟩)
  have hOw : ∀ W, Below w2.heap.size w2 W → Calls Tryz.prog 33 #[.agg (tbC tb v)] W fun e w' => ∃ m, e = .returned (.map (some m)) ∧ Gd w' W.heap.size m (tb.tasks.length + tb.isrs.length) (obs tb) ∧ Below W.heap.size W w' ∧ Below w2.heap.size w2 w' := fun W hb => (ownersOf_any W tb v (ht.below hb) HOK.out.tasks HOK.out.isrs (fun x hx => by obtain ⟨i, hi⟩ := List.getElem?_of_mem hx; have := own_len HOK.out (obs_task hi); simp at this; omega) (fun x hx => by obtain ⟨i, hi⟩ := List.getElem?_of_mem hx; have := own_len HOK.out (obs_isr hi); simp at this; omega)).mono (by rintro e w' ⟨m, e1, e2, e3⟩; exact ⟨m, e1, e2, e3, hb.trans (e3.mono hb.size)⟩)
  unfold tbC at hOw
  have hmm := @run_makeMap Tryz.prog
  have HBW : Hid (Below X w w2 ∧ X < w2.heap.size) := ⟨bw, heap_lt hV⟩
  clear hV bw ht hb2
  go_region_held_law (fun W => W.cell? ⟨X, 0, none⟩ = some (I tb.uses) ∧ W.cell? ⟨X, 1, none⟩ = some (I tb.modes) ∧ W.cell? ⟨X, 2, none⟩ = some (.slice v.t.a v.t.n v.t.c) ∧ W.cell? ⟨X, 3, none⟩ = some (.slice v.g.a v.g.n v.g.c) ∧ W.cell? ⟨X, 4, none⟩ = some (.slice v.r.a v.r.n v.r.c) ∧ W.cell? ⟨X, 5, none⟩ = some (.slice v.k.a v.k.n v.k.c) ∧ W.cell? ⟨X, 6, none⟩ = some (.slice v.a.a v.a.n v.a.c) ∧ W.cell? ⟨X, 7, none⟩ = some (.slice v.i.a v.i.n v.i.c) ∧ W.cell? ⟨X, 8, none⟩ = some (.slice v.s.a v.s.n v.s.c) ∧ W.cell? ⟨X, 9, none⟩ = some (I tb.depth) ∧ W.cell? ⟨X, 10, none⟩ = some (I tb.frames) ∧ W.cell? ⟨X, 11, none⟩ = some (I tb.errors) ∧ W.cell? ⟨X, 12, none⟩ = some (I tb.calls)) (first | exact ⟨c0, c1, c2, c3, c4, c5, c6, c7, c8, c9, c10, c11, c12⟩ | exact k4 | exact k3 | (go_keep; done)) (first
    | (go_at_call 32; refine (hCl _ (by first | exact (Below.refl _ _).drew | exact ((Below.refl _ w2).drew).alloc (Nat.le_refl _) _ | exact ((Below.refl _ w2).alloc (Nat.le_refl _) _).drew | exact (Below.refl _ w2).alloc (Nat.le_refl _) _)).mono ?_; rintro e w3 ⟨so, rfl, r1, r2, b3, B3⟩; have k3 := H13.out w3 B3)
    | (go_at_call 33; refine (hOw _ (by first | exact B3 | exact B3.alloc B3.size _ | exact B3.drew | exact (B3.alloc B3.size _).drew | exact B3.drew.alloc B3.size _)).mono ?_; rintro e w4 ⟨m, rfl, g4, b4, B4⟩; have k4 := H13.out w4 B4))
  · go_wp2
    go_ret2
    have hbm := below_alloc w4 (.map #[] 0)
    have hbe : Below w4.heap.size w4 ((w4.alloc (.map #[] 0)).alloc (.cells #[.slice so.a so.n so.c, .map (some m), .map (some w4.heap.size), .bool false, I 0, I 0] 32)) := hbm.trans ((below_alloc _ _).mono (by simp))
    have b34 : Below w3.heap.size w3 w4 := b4
    have hh0 := HdM.made w4
    have hh : HdM ((w4.alloc (.map #[] 0)).alloc (.cells #[.slice so.a so.n so.c, .map (some m), .map (some w4.heap.size), .bool false, I 0, I 0] 32)) w4.heap.size [] := hh0.kept ((below_alloc _ _).block _ hh0.lt)
    have hs2 := B3.size
    have hs3 := b34.size
    have hXX := HX.out
    have hX2 := HBW.out.2
    obtain ⟨Z, y, q1, q2, q3⟩ := new_fin (we := (w4.alloc (.map #[] 0)).alloc (.cells #[.slice so.a so.n so.c, .map (some m), .map (some w4.heap.size), .bool false, I 0, I 0] 32)) (rs := so) (mh := w4.heap.size) (L0 := w2.heap.size) (B := w4.heap.size + 1) g4 (by have h1 := HOK.out.tasks; have h2 := HOK.out.isrs; omega) hbe (r1.below (b34.trans (hbe.mono hs3)) (fun _ _ _ _ h => h)) (fun e => by obtain ⟨g, e1, e2, e3⟩ := r2 e; exact ⟨g, e1, by have h0 : w2.drew.heap.size = w2.heap.size := rfl; omega, e3, by have := b34.size; omega⟩) hh (.inr (Nat.le_refl _)) ⟨by first | omega | (simp; omega), by omega⟩ (by have := heap_alloc_new (w4.alloc (.map #[] 0)) (.cells #[.slice so.a so.n so.c, .map (some m), .map (some w4.heap.size), .bool false, I 0, I 0] 32); rwa [World.size_alloc] at this) (by omega) HOK.out
    refine ⟨_, Z, y, rfl, q1, ?_, fun b hb => by have := q2 b hb; omega, fun b hb => by have := q3 b hb; exact ⟨by omega, this.2⟩⟩
    have h9 := HBW.out.1.trans ((B4.trans (hbe.mono B4.size)).mono (Nat.le_of_lt hX2))
    rw [← HX.out] at h9
    exact h9
  · go_wp2
    go_ret2
    have hbe : Below w4.heap.size w4 (w4.alloc (.cells #[.slice so.a so.n so.c, .map (some m), .map (some w3.heap.size), .bool false, I 0, I 0] 32)) := below_alloc _ _
    have b34 : Below w3.heap.size w3 w4 := (below_alloc w3 (.map #[] 0)).trans (b4.mono (by simp))
    have hh0 := HdM.made w3
    have hh1 : HdM w4 w3.heap.size [] := hh0.kept (b4.block _ hh0.lt)
    have hh : HdM (w4.alloc (.cells #[.slice so.a so.n so.c, .map (some m), .map (some w3.heap.size), .bool false, I 0, I 0] 32)) w3.heap.size [] := hh1.kept (hbe.block _ hh1.lt)
    have hs2 := B3.size
    have hs3 := b34.size
    have hXX := HX.out
    have hX2 := HBW.out.2
    obtain ⟨Z, y, q1, q2, q3⟩ := new_fin (we := w4.alloc (.cells #[.slice so.a so.n so.c, .map (some m), .map (some w3.heap.size), .bool false, I 0, I 0] 32)) (rs := so) (mh := w3.heap.size) (L0 := w2.heap.size) (B := w4.heap.size) g4 (by have h1 := HOK.out.tasks; have h2 := HOK.out.isrs; omega) hbe (r1.below (b34.trans (hbe.mono hs3)) (fun _ _ _ _ h => h)) (fun e => by obtain ⟨g, e1, e2, e3⟩ := r2 e; exact ⟨g, e1, by have h0 : w2.drew.heap.size = w2.heap.size := rfl; omega, by simp; omega, by omega⟩) hh (.inl (by simp)) ⟨by first | omega | (simp; omega), by omega⟩ (heap_alloc_new _ _) (by omega) HOK.out
    refine ⟨_, Z, y, rfl, q1, ?_, fun b hb => by have := q2 b hb; omega, fun b hb => by have := q3 b hb; exact ⟨by omega, this.2⟩⟩
    have h9 := HBW.out.1.trans ((B4.trans (hbe.mono B4.size)).mono (Nat.le_of_lt hX2))
    rw [← HX.out] at h9
    exact h9
  · go_wp2
    go_ret2
    have h0 : (w2.alloc (.map #[] 0)).drew.heap.size = w2.heap.size + 1 := World.size_alloc _ _
    have hbe : Below w4.heap.size w4 (w4.alloc (.cells #[.slice so.a so.n so.c, .map (some m), .map (some w2.heap.size), .bool false, I 0, I 0] 32)) := below_alloc _ _
    have b34 : Below w3.heap.size w3 w4 := b4
    have hh0 := HdM.made w2
    have hh2 : HdM w3 w2.heap.size [] := hh0.kept (b3.block _ hh0.lt)
    have hh1 : HdM w4 w2.heap.size [] := hh2.kept (b4.block _ hh2.lt)
    have hh : HdM (w4.alloc (.cells #[.slice so.a so.n so.c, .map (some m), .map (some w2.heap.size), .bool false, I 0, I 0] 32)) w2.heap.size [] := hh1.kept (hbe.block _ hh1.lt)
    have hs2 := B3.size
    have hs3 := b34.size
    have hXX := HX.out
    have hX2 := HBW.out.2
    obtain ⟨Z, y, q1, q2, q3⟩ := new_fin (we := w4.alloc (.cells #[.slice so.a so.n so.c, .map (some m), .map (some w2.heap.size), .bool false, I 0, I 0] 32)) (rs := so) (mh := w2.heap.size) (L0 := w2.heap.size) (B := w4.heap.size) g4 (by have h1 := HOK.out.tasks; have h2 := HOK.out.isrs; omega) hbe (r1.below (b34.trans (hbe.mono hs3)) (fun _ _ _ _ h => h)) (fun e => by obtain ⟨g, e1, e2, e3⟩ := r2 e; exact ⟨g, e1, by omega, e3, by omega⟩) hh (.inl (by have := b3.size; omega)) ⟨by first | omega | (simp; omega), by omega⟩ (heap_alloc_new _ _) (by omega) HOK.out
    refine ⟨_, Z, y, rfl, q1, ?_, fun b hb => by have := q2 b hb; omega, fun b hb => by have := q3 b hb; exact ⟨by omega, this.2⟩⟩
    have h9 := HBW.out.1.trans ((B4.trans (hbe.mono B4.size)).mono (Nat.le_of_lt hX2))
    rw [← HX.out] at h9
    exact h9
end Go.Proofs.YtmllocfeflhjoaaGreat

namespace Go.Proofs.YtmllocfeflhjoaaGreat
open Go.RowKit Go.Maps Go.Shelf Go.Sort
open Go.Proofs.YtmllocfeflhjoaaGreat.St (Fx Fz iQ iP iV)
set_option linter.unusedVariables false
set_option linter.unusedSimpArgs false
set_option maxRecDepth 100000
set_option maxHeartbeats 8000000
theorem own_some19 {w : World} {b e k n : Nat} {v : Value} {xs : List Value} (h : w.ownsRow b e k v n xs) (hn : 0 < n) : ∃ g c, v = .slice (some ⟨g, 0, none⟩) n c := by
  rcases h.2 with ⟨_, h0⟩ | ⟨g, cap, cur, h1, _⟩
  · omega
  · exact ⟨g, cap, h1⟩
section
variable {W0 w w' : World} {tb : Tb} {v : Ts} {P : Nat} {a b : Value} {L : Tks} {i : List Bool} {g : Gt}
theorem Dl.at (h : Dl W0 w tb v P a b L i g) {k : Nat} {t : Own × Int} (ht : L[k]? = some t) : ∃ g1 c1, a = .slice (some ⟨g1, 0, none⟩) L.length c1 ∧ w.cell? ⟨g1, k * 3, none⟩ = some (.bool t.1.isr) ∧ w.cell? ⟨g1, k * 3 + 1, none⟩ = some (I t.1.id) ∧ w.cell? ⟨g1, k * 3 + 2, none⟩ = some (I t.2) := by
  have hk : k < L.length := (List.getElem?_eq_some_iff.1 ht).1
  obtain ⟨g1, c1, rfl⟩ := own_some19 h.q (by omega)
  obtain ⟨e1, e2, e3⟩ := flT_at ht
  exact ⟨g1, c1, rfl, by rw [h.q.cellAt _ (by omega)]; exact e1, by rw [h.q.cellAt _ (by omega)]; exact e2, by rw [h.q.cellAt _ (by omega)]; exact e3⟩
/-- the place of the take of r -/
def plF (r : Int) : Tks → Nat → Int
  | [], _ => -1
  | t :: l, n => if t.2 = r then n else plF r l (n + 1)
def plR (L : Tks) (r : Int) : Int := plF r L 0
theorem plF_none (r : Int) : ∀ (l : Tks) (n : Nat), (∀ (j : Nat) (t : Own × Int), l[j]? = some t → t.2 ≠ r) → plF r l n = -1
  | [], n, _ => rfl
  | t :: l, n, h => by
    have h0 := h 0 t rfl
    rw [plF, if_neg h0]
    exact plF_none r l (n + 1) (fun j x hj => h (j + 1) x (by simpa using hj))
theorem plF_at (r : Int) : ∀ (l : Tks) (n k : Nat) (t : Own × Int), l[k]? = some t → t.2 = r → (∀ (j : Nat) (y : Own × Int), j < k → l[j]? = some y → y.2 ≠ r) → plF r l n = ((n + k : Nat) : Int)
  | [], n, k, t, h, _, _ => by cases h
  | x :: l, n, 0, t, h, e, _ => by cases h; rw [plF, if_pos e]; simp
  | x :: l, n, k + 1, t, h, e, hn => by
    have h0 := hn 0 x (by omega) rfl
    rw [plF, if_neg h0, plF_at r l (n + 1) k t (by simpa using h) e (fun j y hj hy => hn (j + 1) y (by omega) (by simpa using hy))]
    congr 1
    omega
theorem dHolderI (h : Dl W0 w tb v P a b L i g) (r : Int) : Calls Tryz.prog 88 #[lp P, I r] w fun e w' => e = .returned (I (plR L r)) ∧ w = w' := by
  have HH : Hid (Dl W0 w tb v P a b L i g) := h
  obtain ⟨c2, c4, c7, c13, c14, c15, c16, c17⟩ := h.cells
  obtain ⟨a2, cc, rfl⟩ := own_slk19 h.q
  have hl : L.length ≤ 65 := h.m
  have HI : Hid (∀ (j : Nat) (y : Own × Int), j < 0 → L[j]? = some y → y.2 ≠ r) := fun j y hj => absurd hj (by omega)
  clear h
  go_enter Tryz.func88, Tryz.ntmps88
  go_wp2
  go_loopw [5] (fun v3 wr => ∃ k : Nat, k ≤ L.length ∧ v3 = I k ∧ w = wr ∧ Hid (∀ (j : Nat) (y : Own × Int), j < k → L[j]? = some y → y.2 ≠ r)) (fun v3 _ => L.length - (intOf v3).toNat)
  case atStart => exact ⟨0, by omega, rfl, rfl, HI.out⟩
  case round =>
    clear HI
    obtain ⟨k, hk, rfl, rfl, HJ⟩ := hrel
    by_cases hlt : k < L.length
    · have hltI : (k : Int) < L.length := by omega
      obtain ⟨x, hx⟩ : ∃ x, L[k]? = some x := ⟨_, List.getElem?_eq_getElem hlt⟩
      obtain ⟨g1, k1, e1, -, -, q3⟩ := HH.out.at hx
      cases e1
      by_cases h0 : x.2 = r
      · have HR : Hid (plR L r = (k : Int)) := by
          have := plF_at r L 0 k x hx h0 HJ.out
          show plR L r = _
          rw [plR, this]
          simp
        rw [h0] at q3
        clear HJ h0 hx
        go_wp2
        go_ret
        exact ⟨St.ret_int HR.out.symm, rfl⟩
      · have hne : (x.2 == r) = false := beq_eq_false_iff_ne.2 h0
        have HN : Hid (∀ (j : Nat) (y : Own × Int), j < k + 1 → L[j]? = some y → y.2 ≠ r) := fun j y hj hy => by
          by_cases e : j = k
          · subst e; rw [hx] at hy; cases hy; exact h0
          · exact HJ.out j y (by omega) hy
        clear HJ hx
        go_wp2
        go_roundw
        case rel => exact ⟨k + 1, by omega, by go_num, by first | exact trivial | exact rfl, HN.out⟩
        case measure => simp [intOf]; omega
    · have hge : ¬ ((k : Int) < L.length) := by omega
      have HR : Hid (plR L r = -1) := plF_none r L 0 (fun j y hj => HJ.out j y (by have := (List.getElem?_eq_some_iff.1 hj).1; omega) hj)
      clear HJ
      go_wp2
      go_ret
      exact ⟨St.ret_int HR.out.symm, rfl⟩
end
end Go.Proofs.YtmllocfeflhjoaaGreat

