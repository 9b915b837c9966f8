import Derived.Test.YthhckhifaolmkaaGreatXTcn
import Derived.Test.YthhckhifaolmkaaGreatXTcl
import Derived.Test.YthhckhifaolmkaaGreatXTci
import Derived.Test.YthhckhifaolmkaaGreatXTce
import Derived.Deep.RegionHeldLaw
namespace Go.Proofs.YthhckhifaolmkaaGreat
open Go.RowKit Go.Shelf Go.Sort
set_option linter.unusedVariables false
set_option linter.unusedSimpArgs false

/-! ### Check -/
def chL (tb : Tb) : List Bool := [countsB tb, tb.ress.all (fun r => inI r.ceil (-1) 127), ringsW tb.tasks 64 tb.rings, tb.tasks.all (tkB tb), tb.ctrs.all ctB, tb.als.all (alB tb), isrsG tb [] tb.isrs, (tb.msgs.all fldB && tb.msgs.all (msB tb)), rmB tb]
theorem chL_all (tb : Tb) : (chL tb).all id = chkP tb := by
  unfold chL chkP rmB
  simp only [List.all_cons, List.all_nil, id, Bool.and_true, Bool.and_assoc]
def fnL : List Nat := [60, 61, 62, 63, 64, 65, 66, 67, 68]
theorem roomOK_of {tb : Tb} (h0 : countsB tb = true) (h5 : tb.als.all (alB tb) = true) (h7 : (tb.msgs.all fldB && tb.msgs.all (msB tb)) = true) : RoomOK tb := by
  refine ⟨fun x hx => ?_, fun x hx hk => ?_, ?_⟩
  · have := List.all_eq_true.1 h5 x hx
    unfold alB idB at this
    simp at this
    omega
  · rw [Bool.and_eq_true] at h7
    have := List.all_eq_true.1 h7.2 x hx
    unfold msB at this
    rw [if_neg hk] at this
    unfold sndB idB at this
    simp at this
    omega
  · unfold countsB at h0
    simp at h0
    omega
theorem modes_of {tb : Tb} (h0 : countsB tb = true) : 1 ≤ tb.modes ∧ tb.modes ≤ 8 := by
  unfold countsB inI at h0
  simp at h0
  omega
theorem one_any (tb : Tb) (v : Ts) (W : World) (h : TbAt W tb v) (hw : WfT tb) (k f : Nat) (b : Bool) (hf : fnL[k]? = some f) (hb : (chL tb)[k]? = some b) (hp : ((chL tb).take k).all id = true) :
    Calls Tryz.prog f #[.agg (tbC tb v)] W fun e w' => e = .returned (.bool b) ∧ Below W.heap.size W w' := by
  unfold fnL at hf
  unfold chL at hb hp
  match k, hf, hb, hp with
  | 0, hf, hb, hp => cases hf; cases hb; exact countsFit_any tb v W h
  | 1, hf, hb, hp => cases hf; cases hb; exact resourcesFit_any tb v W h
  | 2, hf, hb, hp => cases hf; cases hb; exact ringsFit_any tb v W h
  | 3, hf, hb, hp => cases hf; cases hb; simp at hp; exact tasksFit_any tb v W h hw (modes_of hp.1)
  | 4, hf, hb, hp => cases hf; cases hb; exact countersFit_any tb v W h
  | 5, hf, hb, hp => cases hf; cases hb; simp only [List.take_succ_cons, List.all_cons, Bool.and_eq_true, id] at hp; exact alarmsFit_any tb v W h hw (modes_of hp.1)
  | 6, hf, hb, hp => cases hf; cases hb; exact isrsFit_any tb v W h
  | 7, hf, hb, hp => cases hf; cases hb; exact messagesFit_any tb v W h hw
  | 8, hf, hb, hp => cases hf; cases hb; simp only [List.take_succ_cons, List.all_cons, Bool.and_eq_true, id] at hp; exact roomFits_any tb v W h (roomOK_of hp.1 hp.2.2.2.2.2.1 (by rw [Bool.and_eq_true]; exact hp.2.2.2.2.2.2.2.1))
  | n + 9, hf, hb, hp => simp at hf
theorem one_enters (k f : Nat) (hf : fnL[k]? = some f) : ∀ args W, (callFunc f args).run Tryz.prog W = .ok (.enter f args) W := by
  unfold fnL at hf
  match k, hf with
  | 0, hf => cases hf; exact enters_of Tryz.func60 (by kernel_rfl) rfl
  | 1, hf => cases hf; exact enters_of Tryz.func61 (by kernel_rfl) rfl
  | 2, hf => cases hf; exact enters_of Tryz.func62 (by kernel_rfl) rfl
  | 3, hf => cases hf; exact enters_of Tryz.func63 (by kernel_rfl) rfl
  | 4, hf => cases hf; exact enters_of Tryz.func64 (by kernel_rfl) rfl
  | 5, hf => cases hf; exact enters_of Tryz.func65 (by kernel_rfl) rfl
  | 6, hf => cases hf; exact enters_of Tryz.func66 (by kernel_rfl) rfl
  | 7, hf => cases hf; exact enters_of Tryz.func67 (by kernel_rfl) rfl
  | 8, hf => cases hf; exact enters_of Tryz.func68 (by kernel_rfl) rfl
  | n + 9, hf => simp at hf
def fvA : Array Value := #[.func (.func 60) #[] #[], .func (.func 61) #[] #[], .func (.func 62) #[] #[], .func (.func 63) #[] #[], .func (.func 64) #[] #[], .func (.func 65) #[] #[], .func (.func 66) #[] #[], .func (.func 67) #[] #[], .func (.func 68) #[] #[]]
theorem fv_at (k f : Nat) (hf : fnL[k]? = some f) : fvA[k]? = some (.func (.func f) #[] #[]) := by
  unfold fnL at hf
  match k, hf with
  | 0, hf => cases hf; rfl
  | 1, hf => cases hf; rfl
  | 2, hf => cases hf; rfl
  | 3, hf => cases hf; rfl
  | 4, hf => cases hf; rfl
  | 5, hf => cases hf; rfl
  | 6, hf => cases hf; rfl
  | 7, hf => cases hf; rfl
  | 8, hf => cases hf; rfl
  | n + 9, hf => simp at hf
set_option maxHeartbeats 16000000 in
set_option maxRecDepth 100000 in
theorem check_any (tb : Tb) (v : Ts) (w : World) (h : TbAt w tb v) (hw : WfT tb) : Calls Tryz.prog 25 #[.agg (tbC tb v)] w fun e w' => e = .returned (I (if chkP tb then 0 else 90)) ∧ Below w.heap.size w w' := by
  have hb1 : Below w.heap.size w ((w.alloc (.cells (tbC tb v) 37)).alloc (.cells fvA 133)) := (below_alloc w _).trans ((below_alloc _ _).mono (by simp))
  have hV0 : ((w.alloc (.cells (tbC tb v) 37)).alloc (.cells fvA 133)).heap[w.heap.size]? = some (.cells (tbC tb v) 37) := by
    rw [heap_alloc_old _ _ (by simp)]; exact heap_alloc_new w _
  have hG0 : ((w.alloc (.cells (tbC tb v) 37)).alloc (.cells fvA 133)).heap[w.heap.size + 1]? = some (.cells fvA 133) := by
    have := heap_alloc_new (w.alloc (.cells (tbC tb v) 37)) (.cells fvA 133)
    rw [World.size_alloc] at this
    exact this
  have HT : Hid (TbAt ((w.alloc (.cells (tbC tb v) 37)).alloc (.cells fvA 133)) tb v) := h.below hb1
  have HW : Hid (WfT tb) := hw
  have hi30 : (Tryz.prog.info? 37).map (·.size) = some (tbC tb v).size := by kernel_rfl
  obtain ⟨Z, hZ⟩ : ∃ Z : Int, Z = if chkP tb then 0 else 90 := ⟨_, rfl⟩
  rw [← hZ]
  have HZ : Hid (Z = if chkP tb then 0 else 90) := hZ
  have HC : Hid (∀ (W : World) (k f : Nat) (b : Bool), TbAt W tb v → fnL[k]? = some f → (chL tb)[k]? = some b → ((chL tb).take k).all id = true → Calls Tryz.prog f #[.agg (tbC tb v)] W fun e w' => e = .returned (.bool b) ∧ Below W.heap.size W w') := fun W k f b hT hf hb hp => one_any tb v W hT hw k f b hf hb hp
  have HFV : Hid (∀ W : World, W.heap[w.heap.size + 1]? = some (.cells fvA 133) → ∀ k f : Nat, fnL[k]? = some f → W.cell? ⟨w.heap.size + 1, k, none⟩ = some (.func (.func f) #[] #[])) := fun W hW k f hf => by
    rw [cell_of_row W _ k _ _ (0, 0) hW]; exact fv_at k f hf
  have HB0 : Hid (Below w.heap.size w ((w.alloc (.cells (tbC tb v) 37)).alloc (.cells fvA 133))) := hb1
  have HV0 : Hid (((w.alloc (.cells (tbC tb v) 37)).alloc (.cells fvA 133)).heap[w.heap.size]? = some (.cells (tbC tb v) 37) ∧ ((w.alloc (.cells (tbC tb v) 37)).alloc (.cells fvA 133)).heap[w.heap.size + 1]? = some (.cells fvA 133)) := ⟨hV0, hG0⟩
  clear h hw hZ hb1 hV0 hG0
  unfold tbC at *
  unfold fvA at HT HV0 HB0
  go_enter Tryz.func25, Tryz.ntmps25
  go_wp2
  generalize ((w.alloc (.cells #[I tb.uses, I tb.modes, .slice v.t.a v.t.n v.t.c, .slice v.g.a v.g.n v.g.c, .slice v.r.a v.r.n v.r.c, .slice v.k.a v.k.n v.k.c, .slice v.a.a v.a.n v.a.c, .slice v.i.a v.i.n v.i.c, .slice v.s.a v.s.n v.s.c, I tb.depth, I tb.frames, I tb.errors, I tb.calls] 37)).alloc (.cells #[.func (.func 60) #[] #[], .func (.func 61) #[] #[], .func (.func 62) #[] #[], .func (.func 63) #[] #[], .func (.func 64) #[] #[], .func (.func 65) #[] #[], .func (.func 66) #[] #[], .func (.func 67) #[] #[], .func (.func 68) #[] #[]] 133)) = W0 at *
  go_loopw [4, 7] (fun _ iv wr => ∃ j : Nat, j ≤ 9 ∧ iv = .int .i64 j ∧ Hid (((chL tb).take j).all id = true ∧ Below W0.heap.size W0 wr)) (fun _ iv _ => 9 - (intOf iv).toNat)
  case atStart => exact ⟨0, by omega, rfl, by simp, Below.refl _ _⟩
  case round =>
    obtain ⟨j, hj, rfl, HJ⟩ := hrel
    by_cases hlt : j < 9
    · have hlt' : (j : Int) < 9 := by omega
      obtain ⟨f, hf⟩ : ∃ f, fnL[j]? = some f := ⟨_, List.getElem?_eq_getElem (by exact hlt)⟩
      obtain ⟨b, hbx⟩ : ∃ b, (chL tb)[j]? = some b := ⟨_, List.getElem?_eq_getElem (by exact hlt)⟩
      have eg := one_enters j f hf
      have hV : wr.heap[w.heap.size]? = some (.cells #[I tb.uses, I tb.modes, .slice v.t.a v.t.n v.t.c, .slice v.g.a v.g.n v.g.c, .slice v.r.a v.r.n v.r.c, .slice v.k.a v.k.n v.k.c, .slice v.a.a v.a.n v.a.c, .slice v.i.a v.i.n v.i.c, .slice v.s.a v.s.n v.s.c, I tb.depth, I tb.frames, I tb.errors, I tb.calls] 37) := (HJ.out.2.block _ (heap_lt HV0.out.1)).trans HV0.out.1
      have hG := (HJ.out.2.block _ (heap_lt HV0.out.2)).trans HV0.out.2
      have hc := HFV.out wr (by unfold fvA; exact hG) j f hf
      have cx := HC.out wr j f b (HT.out.below HJ.out.2) hf hbx HJ.out.1
      have HTT : Hid (b = false → Z = 90) := fun ht => by rw [HZ.out, ← chL_all, all_false9 (p := id) hbx ht]; rfl
      have HA : Hid (b = true → ((chL tb).take (j + 1)).all id = true) := fun ht => by rw [all_take9 _ _ j _ hbx, HJ.out.1, ht]; rfl
      have HBW : Hid (Below W0.heap.size W0 wr) := HJ.out.2
      clear hbx HJ hf hG
      cases b with
      | false =>
        have HE : Hid (Z = 90) := HTT.out rfl
        clear HTT HA
        go_wp2_with (first | (refine wpList_load_row rfl 37 _ rfl w.heap.size rfl 37 _ (0, 0) _ hV Tryz.underlying37 rfl hi30 ?_))
        refine cx.mono ?_
        clear cx
        rintro e7 w7 ⟨rfl, hb7⟩
        have HB7 : Hid (Below W0.heap.size W0 w7) := HBW.out.trans (hb7.mono HBW.out.size)
        clear hb7 hV hc eg
        go_wp2
        go_ret
        exact ⟨by rw [HE.out]; rfl, HB0.out.trans (HB7.out.mono HB0.out.size)⟩
      | true =>
        have HA2 : Hid (((chL tb).take (j + 1)).all id = true) := HA.out rfl
        clear HTT HA
        go_wp2_with (first | (refine wpList_load_row rfl 37 _ rfl w.heap.size rfl 37 _ (0, 0) _ hV Tryz.underlying37 rfl hi30 ?_))
        refine cx.mono ?_
        clear cx
        rintro e7 w7 ⟨rfl, hb7⟩
        have HB7 : Hid (Below W0.heap.size W0 w7) := HBW.out.trans (hb7.mono HBW.out.size)
        clear hb7 hV hc eg
        go_wp2
        go_roundw
        case rel => exact ⟨j + 1, by omega, by go_num, HA2.out, HB7.out⟩
        case measure => simp [intOf]; omega
    · obtain rfl : j = 9 := by omega
      have HE : Hid (Z = 0) := by
        show _ = _
        have := HJ.out.1
        rw [List.take_of_length_le (by exact Nat.le_refl 9), chL_all] at this
        rw [HZ.out, this]
        rfl
      have HB : Hid (Below w.heap.size w wr) := HB0.out.trans (HJ.out.2.mono HB0.out.size)
      clear HJ
      go_wp2
      go_ret
      exact ⟨by rw [HE.out]; rfl, HB.out⟩
end Go.Proofs.YthhckhifaolmkaaGreat

namespace Go.Proofs.YthhckhifaolmkaaGreat
open Go.RowKit Go.Shelf Go.Sort
set_option linter.unusedVariables false
set_option linter.unusedSimpArgs false

/-! ### The document's owned -/
def prevL (l : List Int) : Nat → Int
  | 0 => -1
  | j + 1 => (l[j]?).getD 0
set_option maxHeartbeats 16000000 in
set_option maxRecDepth 100000 in
theorem owned_any (tb : Tb) (v : Ts) (w : World) (h : TbAt w tb v) (s : Sl) (l : List Int) (hl : RowsAt w 1 intP s l) (prio : Int) : Calls Tryz.prog 124 #[.agg (tbC tb v), .slice s.a s.n s.c, I prio] w fun e w' => e = .returned (.bool (ownG tb prio (-1) l)) ∧ Below w.heap.size w w' := by
  have hV := heap_alloc_new w (.cells (tbC tb v) 37)
  have HB : Hid (Below w.heap.size w (w.alloc (.cells (tbC tb v) 37))) := below_alloc w _
  have HT : Hid (TbAt (w.alloc (.cells (tbC tb v) 37)) tb v) := h.below HB.out
  have HL : Hid (RowsAt (w.alloc (.cells (tbC tb v) 37)) 1 intP s l) := hl.below HB.out (fun _ _ _ _ h => h)
  obtain ⟨c0, c1, c2, c3, c4, c5, c6, c7, c8, c9, c10, c11, c12⟩ := var13 hV
  have HS : Hid (s.n = l.length) := hl.n
  have hsc : s.n ≤ s.c := hl.c
  have hsm : s.c ≤ maxLen := hl.m
  have HRn : Hid (v.r.n = tb.ress.length) := h.r.n
  have hrc : v.r.n ≤ v.r.c := h.r.c
  have hrm : v.r.c ≤ maxLen := h.r.m
  unfold maxLen at hsm hrm
  obtain ⟨R, hR⟩ : ∃ R, R = ownG tb prio (-1) l := ⟨_, rfl⟩
  rw [← hR]
  have HR : Hid (R = ownG tb prio (-1) (l.drop 0)) := hR
  have HV : Hid ((w.alloc (.cells (tbC tb v) 37)).heap[w.heap.size]? = some (.cells (tbC tb v) 37)) := hV
  clear hR h hl hV c0 c1 c2 c3 c4 c5 c6 c7 c8 c9 c10 c11 c12
  unfold tbC at *
  go_enter Tryz.func124, Tryz.ntmps124
  generalize hW : w.alloc (.cells #[I tb.uses, I tb.modes, .slice v.t.a v.t.n v.t.c, .slice v.g.a v.g.n v.g.c, .slice v.r.a v.r.n v.r.c, .slice v.k.a v.k.n v.k.c, .slice v.a.a v.a.n v.a.c, .slice v.i.a v.i.n v.i.c, .slice v.s.a v.s.n v.s.c, I tb.depth, I tb.frames, I tb.errors, I tb.calls] 37) = W1 at *
  go_upto_region 1 with fail
  clear hW
  go_wp2
  go_loopw [7] (fun iv wr => ∃ j : Nat, j ≤ s.n ∧ iv = .int .i64 j ∧ Hid (R = ownG tb prio (prevL l j) (l.drop j) ∧ Below W1.heap.size W1 wr)) (fun iv _ => s.n - (intOf iv).toNat)
  case atStart => exact ⟨0, by omega, rfl, HR.out, Below.refl _ _⟩
  case round =>
    clear HR
    obtain ⟨j, hj, rfl, HJ⟩ := hrel
    have HBW : Hid (Below w.heap.size w wr) := HB.out.trans (HJ.out.2.mono HB.out.size)
    by_cases hlt : j < s.n
    · have hlt' : (j : Int) < s.n := by omega
      obtain ⟨x, hx⟩ : ∃ x, l[j]? = some x := ⟨_, List.getElem?_eq_getElem (by rw [← HS.out]; exact hlt)⟩
      obtain ⟨g5, o5, e5, hg5, b5⟩ := ints_at9 (HL.out.below HJ.out.2 (fun _ _ _ _ h => h)) hx
      have HX : Hid (R = (decide (prevL l j < x) && idB x tb.ress.length && resOk tb prio x && ownG tb prio x (l.drop (j + 1)))) := by
        have h9 := HJ.out.1
        rw [drop_at hx, ownG] at h9
        exact h9
      have HPx : Hid (prevL l (j + 1) = x) := by show _ = _; rw [prevL, hx]; rfl
      have hV := (HJ.out.2.block _ (heap_lt HV.out)).trans HV.out
      obtain ⟨c0, c1, c2, c3, c4, c5, c6, c7, c8, c9, c10, c11, c12⟩ := var13 hV
      have y4 := cell_regrown c4
      have y5 := cell_regrown b5
      have HC4 : Hid (wr.cell? ⟨w.heap.size, 4, none⟩ = some (.slice v.r.a v.r.n v.r.c) ∧ w.heap.size < wr.heap.size) := ⟨c4, heap_lt hV⟩
      have HB5 : Hid (wr.cell? ⟨g5, o5 + j, none⟩ = some (I x) ∧ g5 < wr.heap.size) := ⟨b5, hg5⟩
      have HTW : Hid (TbAt wr tb v) := HT.out.below HJ.out.2
      have HB1 : Hid (Below W1.heap.size W1 wr) := HJ.out.2
      have HPV : Hid (∀ i, j = i + 1 → ∃ y, l[i]? = some y ∧ prevL l j = y ∧ wr.cell? ⟨g5, o5 + i, none⟩ = some (I y)) := fun i hi => by
        obtain ⟨y, hy⟩ : ∃ y, l[i]? = some y := ⟨_, List.getElem?_eq_getElem (by rw [← HS.out]; omega)⟩
        obtain ⟨g6, o6, e6, hg6, b6⟩ := ints_at9 (HL.out.below HJ.out.2 (fun _ _ _ _ h => h)) hy
        rw [e5] at e6
        cases e6
        exact ⟨y, hy, by rw [hi, prevL, hy]; rfl, b6⟩
      rw [e5]
      clear hx e5 HJ hV c0 c1 c2 c3 c4 c5 c6 c7 c8 c9 c10 c11 c12 b5 hg5
      by_cases g0 : x < 0
      · have HE : Hid (R = false) := by
          show _ = _
          rw [HX.out]
          have : idB x tb.ress.length = false := by unfold idB; simp; omega
          simp [this]
        clear HX
        go_wp2
        refine wp_region_quiet_below (by kernel_rfl) (by kernel_rfl) ?_
        repeat (first | (go_big_quiet_step (first | fail)))
        refine wpQuiet_nil ?_
        rintro _ ⟨⟨dq, osq⟩, rfl⟩
        dsimp only
        have HB9 : Hid (Below wr.heap.size wr (grow (redrawn wr dq) osq)) := below_regrown wr dq osq
        generalize grow (redrawn wr dq) osq = w9 at *
        clear y4 y5
        have HB10 : Hid (Below w.heap.size w w9) := HBW.out.trans (HB9.out.mono HBW.out.size)
        go_wp2
        go_ret
        exact ⟨ret_bool' (by rw [HE.out]), HB10.out⟩
      · obtain ⟨k, rfl⟩ := Int.eq_ofNat_of_zero_le (show 0 ≤ x by omega)
        clear g0
        have d0 : decide ((k : Int) < 0) = false := by simp
        by_cases g1 : (v.r.n : Int) ≤ (k : Int)
        · have d1 : decide ((v.r.n : Int) ≤ (k : Int)) = true := by simpa using g1
          have HE : Hid (R = false) := by
            show _ = _
            rw [HX.out]
            have : idB (k : Int) tb.ress.length = false := by rw [← HRn.out]; unfold idB; simp; omega
            simp [this]
          clear HX
          go_wp2
          refine wp_region_quiet_below (by kernel_rfl) (by kernel_rfl) ?_
          repeat (first | (go_big_quiet_step (first | fail)))
          refine wpQuiet_nil ?_
          rintro _ ⟨⟨dq, osq⟩, rfl⟩
          dsimp only
          have HB9 : Hid (Below wr.heap.size wr (grow (redrawn wr dq) osq)) := below_regrown wr dq osq
          generalize grow (redrawn wr dq) osq = w9 at *
          clear y4 y5
          have HB10 : Hid (Below w.heap.size w w9) := HBW.out.trans (HB9.out.mono HBW.out.size)
          go_wp2
          go_ret
          exact ⟨ret_bool' (by rw [HE.out]), HB10.out⟩
        · have g1' : (k : Int) < v.r.n := by omega
          have d1 : decide ((v.r.n : Int) ≤ (k : Int)) = false := by simpa using g1
          have d1n : decide (v.r.n ≤ k) = false := by simp; omega
          have HI : Hid (idB (k : Int) tb.ress.length = true) := by show _ = _; rw [← HRn.out]; unfold idB; simp; omega
          obtain ⟨r, hr⟩ : ∃ r, tb.ress[k]? = some r := ⟨_, List.getElem?_eq_getElem (by rw [← HRn.out]; omega)⟩
          obtain ⟨gr, orr, er, hgr, z0, z1⟩ := rsr_at HTW.out hr
          have HZ : Hid (gr < wr.heap.size ∧ wr.cell? ⟨gr, orr + k * 2, none⟩ = some (.bool r.inner) ∧ wr.cell? ⟨gr, orr + k * 2 + 1, none⟩ = some (I r.ceil)) := ⟨hgr, z0, z1⟩
          have HQ : Hid (resOk tb prio (k : Int) = (!r.inner && decide (prio ≤ r.ceil))) := by
            show _ = _
            unfold resOk
            rw [Int.toNat_natCast, hr]
          rw [er] at y4 HC4
          clear hr er hgr z0 z1
          generalize r.inner = ri at *
          generalize r.ceil = rc at *
          by_cases gj : j = 0
          · have gj1 : ¬ (0 : Int) < (j : Int) := by omega
            have dj : decide ((0 : Int) < (j : Int)) = false := by simpa using gj1
            have djn : decide (0 < j) = false := by simp; omega
            have HG : Hid (prevL l j < (k : Int)) := by show _ < _; rw [gj, prevL]; omega
            clear HPV gj
            cases ri with
            | true =>
              have HE : Hid (R = false) := by show _ = _; rw [HX.out, HQ.out]; simp
              clear HX HQ
              go_wp2
              refine wp_region_quiet_below (by kernel_rfl) (by kernel_rfl) ?_
              repeat (first | (go_big_quiet_step (first | fail)))
              refine wpQuiet_nil ?_
              rintro _ ⟨⟨dq, osq⟩, rfl⟩
              dsimp only
              have HB9 : Hid (Below wr.heap.size wr (grow (redrawn wr dq) osq)) := below_regrown wr dq osq
              generalize grow (redrawn wr dq) osq = w9 at *
              clear y4 y5
              have q4 := (cell_below HB9.out _ _ HC4.out.2).trans HC4.out.1
              have q5 := (cell_below HB9.out _ _ HB5.out.2).trans HB5.out.1
              have qz0 := (cell_below HB9.out _ _ HZ.out.1).trans HZ.out.2.1
              have qz1 := (cell_below HB9.out _ _ HZ.out.1).trans HZ.out.2.2
              have HB10 : Hid (∀ o, Below w.heap.size w (w9.alloc o)) := fun o => (HBW.out.trans (HB9.out.mono HBW.out.size)).trans ((below_alloc w9 o).mono (HBW.out.trans (HB9.out.mono HBW.out.size)).size)
              have HB11 : Hid (∀ o, Below W1.heap.size W1 (w9.alloc o)) := fun o => (HB1.out.trans (HB9.out.mono HB1.out.size)).trans ((below_alloc w9 o).mono (HB1.out.trans (HB9.out.mono HB1.out.size)).size)
              clear HB9
              have n4 := World.new_ne w9 _ q4
              have n5 := World.new_ne w9 _ q5
              have nz0 := World.new_ne w9 _ qz0
              go_wp2
              go_region_held_law (fun w' => w'.cell? ⟨w.heap.size, 4, none⟩ = some (.slice (some ⟨gr, orr, none⟩) v.r.n v.r.c) ∧ w'.cell? ⟨g5, o5 + j, none⟩ = some (I (k : Int)) ∧ w'.cell? ⟨gr, orr + k * 2, none⟩ = some (.bool true) ∧ w'.cell? ⟨gr, orr + k * 2 + 1, none⟩ = some (I rc)) (first | (go_keep; done)) (fail)
              all_goals
                go_wp2
                go_ret
                exact ⟨ret_bool' (by rw [HE.out]), (HB10.out _).drew⟩
            | false =>
              by_cases g3 : rc < prio
              · have HE : Hid (R = false) := by
                  show _ = _
                  rw [HX.out, HQ.out]
                  have : ¬ prio ≤ rc := by omega
                  simp [this]
                clear HX HQ
                go_wp2
                refine wp_region_quiet_below (by kernel_rfl) (by kernel_rfl) ?_
                repeat (first | (go_big_quiet_step (first | fail)))
                refine wpQuiet_nil ?_
                rintro _ ⟨⟨dq, osq⟩, rfl⟩
                dsimp only
                have HB9 : Hid (Below wr.heap.size wr (grow (redrawn wr dq) osq)) := below_regrown wr dq osq
                generalize grow (redrawn wr dq) osq = w9 at *
                clear y4 y5
                have q4 := (cell_below HB9.out _ _ HC4.out.2).trans HC4.out.1
                have q5 := (cell_below HB9.out _ _ HB5.out.2).trans HB5.out.1
                have qz0 := (cell_below HB9.out _ _ HZ.out.1).trans HZ.out.2.1
                have qz1 := (cell_below HB9.out _ _ HZ.out.1).trans HZ.out.2.2
                have HB10 : Hid (∀ o, Below w.heap.size w (w9.alloc o)) := fun o => (HBW.out.trans (HB9.out.mono HBW.out.size)).trans ((below_alloc w9 o).mono (HBW.out.trans (HB9.out.mono HBW.out.size)).size)
                have HB11 : Hid (∀ o, Below W1.heap.size W1 (w9.alloc o)) := fun o => (HB1.out.trans (HB9.out.mono HB1.out.size)).trans ((below_alloc w9 o).mono (HB1.out.trans (HB9.out.mono HB1.out.size)).size)
                clear HB9
                have n4 := World.new_ne w9 _ q4
                have n5 := World.new_ne w9 _ q5
                have nz0 := World.new_ne w9 _ qz0
                go_wp2
                go_region_held_law (fun w' => w'.cell? ⟨w.heap.size, 4, none⟩ = some (.slice (some ⟨gr, orr, none⟩) v.r.n v.r.c) ∧ w'.cell? ⟨g5, o5 + j, none⟩ = some (I (k : Int)) ∧ w'.cell? ⟨gr, orr + k * 2, none⟩ = some (.bool false) ∧ w'.cell? ⟨gr, orr + k * 2 + 1, none⟩ = some (I rc)) (first | (go_keep; done)) (fail)
                all_goals
                  go_wp2
                  go_ret
                  exact ⟨ret_bool' (by rw [HE.out]), (HB10.out _).drew⟩
              · have HN : Hid (R = ownG tb prio (prevL l (j + 1)) (l.drop (j + 1))) := by
                  show _ = _
                  rw [HPx.out]
                  have h9 := HX.out
                  rw [HQ.out, HI.out] at h9
                  have g3' : prio ≤ rc := by omega
                  have g4 := HG.out
                  simpa [g3', g4] using h9
                clear HX HQ
                go_wp2
                refine wp_region_quiet_below (by kernel_rfl) (by kernel_rfl) ?_
                repeat (first | (go_big_quiet_step (first | fail)))
                refine wpQuiet_nil ?_
                rintro _ ⟨⟨dq, osq⟩, rfl⟩
                dsimp only
                have HB9 : Hid (Below wr.heap.size wr (grow (redrawn wr dq) osq)) := below_regrown wr dq osq
                generalize grow (redrawn wr dq) osq = w9 at *
                clear y4 y5
                have q4 := (cell_below HB9.out _ _ HC4.out.2).trans HC4.out.1
                have q5 := (cell_below HB9.out _ _ HB5.out.2).trans HB5.out.1
                have qz0 := (cell_below HB9.out _ _ HZ.out.1).trans HZ.out.2.1
                have qz1 := (cell_below HB9.out _ _ HZ.out.1).trans HZ.out.2.2
                have HB10 : Hid (∀ o, Below w.heap.size w (w9.alloc o)) := fun o => (HBW.out.trans (HB9.out.mono HBW.out.size)).trans ((below_alloc w9 o).mono (HBW.out.trans (HB9.out.mono HBW.out.size)).size)
                have HB11 : Hid (∀ o, Below W1.heap.size W1 (w9.alloc o)) := fun o => (HB1.out.trans (HB9.out.mono HB1.out.size)).trans ((below_alloc w9 o).mono (HB1.out.trans (HB9.out.mono HB1.out.size)).size)
                clear HB9
                have n4 := World.new_ne w9 _ q4
                have n5 := World.new_ne w9 _ q5
                have nz0 := World.new_ne w9 _ qz0
                go_wp2
                go_region_held_law (fun w' => w'.cell? ⟨w.heap.size, 4, none⟩ = some (.slice (some ⟨gr, orr, none⟩) v.r.n v.r.c) ∧ w'.cell? ⟨g5, o5 + j, none⟩ = some (I (k : Int)) ∧ w'.cell? ⟨gr, orr + k * 2, none⟩ = some (.bool false) ∧ w'.cell? ⟨gr, orr + k * 2 + 1, none⟩ = some (I rc)) (first | (go_keep; done)) (fail)
                all_goals
                  go_wp2
                  go_roundw
                  case rel => exact ⟨j + 1, by omega, by go_num, HN.out, (HB11.out _).drew⟩
                  case measure => simp [intOf]; omega
          · obtain ⟨i, rfl⟩ : ∃ i, j = i + 1 := ⟨j - 1, by omega⟩
            obtain ⟨y, hy, hpv, b6⟩ := HPV.out i rfl
            have y6 := cell_regrown b6
            have dj : decide ((0 : Int) < ((i + 1 : Nat) : Int)) = true := by simp
            have HPP : Hid (prevL l (i + 1) = y) := hpv
            clear HPV hy hpv b6 gj
            by_cases g2 : (k : Int) ≤ y
            · have d2 : decide ((k : Int) ≤ y) = true := by simpa using g2
              have HE : Hid (R = false) := by
                show _ = _
                rw [HX.out, HPP.out]
                have : ¬ y < (k : Int) := by omega
                simp [this]
              clear HX HQ
              go_wp2
              refine wp_region_quiet_below (by kernel_rfl) (by kernel_rfl) ?_
              repeat (first | (go_big_quiet_step (first | fail)))
              refine wpQuiet_nil ?_
              rintro _ ⟨⟨dq, osq⟩, rfl⟩
              dsimp only
              have HB9 : Hid (Below wr.heap.size wr (grow (redrawn wr dq) osq)) := below_regrown wr dq osq
              generalize grow (redrawn wr dq) osq = w9 at *
              clear y4 y5 y6
              have HB10 : Hid (Below w.heap.size w w9) := HBW.out.trans (HB9.out.mono HBW.out.size)
              go_wp2
              go_ret
              exact ⟨ret_bool' (by rw [HE.out]), HB10.out⟩
            · have d2 : decide ((k : Int) ≤ y) = false := by simpa using g2
              have HG : Hid (prevL l (i + 1) < (k : Int)) := by show _ < _; rw [HPP.out]; omega
              cases ri with
              | true =>
                have HE : Hid (R = false) := by show _ = _; rw [HX.out, HQ.out]; simp
                clear HX HQ
                go_wp2
                refine wp_region_quiet_below (by kernel_rfl) (by kernel_rfl) ?_
                repeat (first | (go_big_quiet_step (first | fail)))
                refine wpQuiet_nil ?_
                rintro _ ⟨⟨dq, osq⟩, rfl⟩
                dsimp only
                have HB9 : Hid (Below wr.heap.size wr (grow (redrawn wr dq) osq)) := below_regrown wr dq osq
                generalize grow (redrawn wr dq) osq = w9 at *
                clear y4 y5 y6
                have q4 := (cell_below HB9.out _ _ HC4.out.2).trans HC4.out.1
                have q5 := (cell_below HB9.out _ _ HB5.out.2).trans HB5.out.1
                have qz0 := (cell_below HB9.out _ _ HZ.out.1).trans HZ.out.2.1
                have qz1 := (cell_below HB9.out _ _ HZ.out.1).trans HZ.out.2.2
                have HB10 : Hid (∀ o, Below w.heap.size w (w9.alloc o)) := fun o => (HBW.out.trans (HB9.out.mono HBW.out.size)).trans ((below_alloc w9 o).mono (HBW.out.trans (HB9.out.mono HBW.out.size)).size)
                have HB11 : Hid (∀ o, Below W1.heap.size W1 (w9.alloc o)) := fun o => (HB1.out.trans (HB9.out.mono HB1.out.size)).trans ((below_alloc w9 o).mono (HB1.out.trans (HB9.out.mono HB1.out.size)).size)
                clear HB9
                have n4 := World.new_ne w9 _ q4
                have n5 := World.new_ne w9 _ q5
                have nz0 := World.new_ne w9 _ qz0
                go_wp2
                go_region_held_law (fun w' => w'.cell? ⟨w.heap.size, 4, none⟩ = some (.slice (some ⟨gr, orr, none⟩) v.r.n v.r.c) ∧ w'.cell? ⟨g5, o5 + (i + 1), none⟩ = some (I (k : Int)) ∧ w'.cell? ⟨gr, orr + k * 2, none⟩ = some (.bool true) ∧ w'.cell? ⟨gr, orr + k * 2 + 1, none⟩ = some (I rc)) (first | (go_keep; done)) (fail)
                all_goals
                  go_wp2
                  go_ret
                  exact ⟨ret_bool' (by rw [HE.out]), (HB10.out _).drew⟩
              | false =>
                by_cases g3 : rc < prio
                · have HE : Hid (R = false) := by
                    show _ = _
                    rw [HX.out, HQ.out]
                    have : ¬ prio ≤ rc := by omega
                    simp [this]
                  clear HX HQ
                  go_wp2
                  refine wp_region_quiet_below (by kernel_rfl) (by kernel_rfl) ?_
                  repeat (first | (go_big_quiet_step (first | fail)))
                  refine wpQuiet_nil ?_
                  rintro _ ⟨⟨dq, osq⟩, rfl⟩
                  dsimp only
                  have HB9 : Hid (Below wr.heap.size wr (grow (redrawn wr dq) osq)) := below_regrown wr dq osq
                  generalize grow (redrawn wr dq) osq = w9 at *
                  clear y4 y5 y6
                  have q4 := (cell_below HB9.out _ _ HC4.out.2).trans HC4.out.1
                  have q5 := (cell_below HB9.out _ _ HB5.out.2).trans HB5.out.1
                  have qz0 := (cell_below HB9.out _ _ HZ.out.1).trans HZ.out.2.1
                  have qz1 := (cell_below HB9.out _ _ HZ.out.1).trans HZ.out.2.2
                  have HB10 : Hid (∀ o, Below w.heap.size w (w9.alloc o)) := fun o => (HBW.out.trans (HB9.out.mono HBW.out.size)).trans ((below_alloc w9 o).mono (HBW.out.trans (HB9.out.mono HBW.out.size)).size)
                  have HB11 : Hid (∀ o, Below W1.heap.size W1 (w9.alloc o)) := fun o => (HB1.out.trans (HB9.out.mono HB1.out.size)).trans ((below_alloc w9 o).mono (HB1.out.trans (HB9.out.mono HB1.out.size)).size)
                  clear HB9
                  have n4 := World.new_ne w9 _ q4
                  have n5 := World.new_ne w9 _ q5
                  have nz0 := World.new_ne w9 _ qz0
                  go_wp2
                  go_region_held_law (fun w' => w'.cell? ⟨w.heap.size, 4, none⟩ = some (.slice (some ⟨gr, orr, none⟩) v.r.n v.r.c) ∧ w'.cell? ⟨g5, o5 + (i + 1), none⟩ = some (I (k : Int)) ∧ w'.cell? ⟨gr, orr + k * 2, none⟩ = some (.bool false) ∧ w'.cell? ⟨gr, orr + k * 2 + 1, none⟩ = some (I rc)) (first | (go_keep; done)) (fail)
                  all_goals
                    go_wp2
                    go_ret
                    exact ⟨ret_bool' (by rw [HE.out]), (HB10.out _).drew⟩
                · have HN : Hid (R = ownG tb prio (prevL l ((i + 1) + 1)) (l.drop ((i + 1) + 1))) := by
                    show _ = _
                    rw [HPx.out]
                    have h9 := HX.out
                    rw [HQ.out, HI.out] at h9
                    have g3' : prio ≤ rc := by omega
                    have g4 := HG.out
                    simpa [g3', g4] using h9
                  clear HX HQ
                  go_wp2
                  refine wp_region_quiet_below (by kernel_rfl) (by kernel_rfl) ?_
                  repeat (first | (go_big_quiet_step (first | fail)))
                  refine wpQuiet_nil ?_
                  rintro _ ⟨⟨dq, osq⟩, rfl⟩
                  dsimp only
                  have HB9 : Hid (Below wr.heap.size wr (grow (redrawn wr dq) osq)) := below_regrown wr dq osq
                  generalize grow (redrawn wr dq) osq = w9 at *
                  clear y4 y5 y6
                  have q4 := (cell_below HB9.out _ _ HC4.out.2).trans HC4.out.1
                  have q5 := (cell_below HB9.out _ _ HB5.out.2).trans HB5.out.1
                  have qz0 := (cell_below HB9.out _ _ HZ.out.1).trans HZ.out.2.1
                  have qz1 := (cell_below HB9.out _ _ HZ.out.1).trans HZ.out.2.2
                  have HB10 : Hid (∀ o, Below w.heap.size w (w9.alloc o)) := fun o => (HBW.out.trans (HB9.out.mono HBW.out.size)).trans ((below_alloc w9 o).mono (HBW.out.trans (HB9.out.mono HBW.out.size)).size)
                  have HB11 : Hid (∀ o, Below W1.heap.size W1 (w9.alloc o)) := fun o => (HB1.out.trans (HB9.out.mono HB1.out.size)).trans ((below_alloc w9 o).mono (HB1.out.trans (HB9.out.mono HB1.out.size)).size)
                  clear HB9
                  have n4 := World.new_ne w9 _ q4
                  have n5 := World.new_ne w9 _ q5
                  have nz0 := World.new_ne w9 _ qz0
                  go_wp2
                  go_region_held_law (fun w' => w'.cell? ⟨w.heap.size, 4, none⟩ = some (.slice (some ⟨gr, orr, none⟩) v.r.n v.r.c) ∧ w'.cell? ⟨g5, o5 + (i + 1), none⟩ = some (I (k : Int)) ∧ w'.cell? ⟨gr, orr + k * 2, none⟩ = some (.bool false) ∧ w'.cell? ⟨gr, orr + k * 2 + 1, none⟩ = some (I rc)) (first | (go_keep; done)) (fail)
                  all_goals
                    go_wp2
                    go_roundw
                    case rel => exact ⟨(i + 1) + 1, by omega, by go_num, HN.out, (HB11.out _).drew⟩
                    case measure => simp [intOf]; omega
    · obtain rfl : j = s.n := by omega
      have hlt' : ¬ ((s.n : Nat) : Int) < (s.n : Nat) := by omega
      have HE : Hid (R = true) := by
        have h9 := HJ.out.1
        rw [HS.out, List.drop_length, ownG] at h9
        exact h9
      clear HJ
      go_wp2
      go_ret
      exact ⟨ret_bool' (by rw [HE.out]), HBW.out⟩
end Go.Proofs.YthhckhifaolmkaaGreat

