import Derived.Test.YtckmdkdhnhkdhaaZep
import Derived.Lib.QuietBelow
import Derived.Shelf.Abstract
namespace Go.Proofs.Ytckmdkdhnhkdhaa
open Go.RowKit Go.Shelf Go.Sort
set_option linter.unusedVariables false
set_option linter.unusedSimpArgs false

/-! ### Stacks of pairs: equal, Find -/
theorem pcatch_idle (p : Addr) (w : World) :
    CallsD Try.prog 59 #[.pointer (some p)] .returning w fun e u' w' => e = .returned (.tuple #[]) ∧ u' = .returning ∧ w' = w := by
  refine callsD_of_wpS Try.func59 rfl fun c₀ cs hu => ?_
  apply wpS_seq
  apply wpS_region
  simp [wpOpsS, go_sem, recoverD, hu, Try.ntmps59, Exit.thenS]
  refine wpS_of_wp ?_
  show Code.wp _ _ _ { tmps := #[.pointer (some p), .nilIface, .nilIface, undef, undef], defers := [] } w
  go_wp2
  cases c₀
  simp_all [bodyPostS, results, Try.results59]
def pEq (x y : Pa) : Bool := (x.1 == y.1) && (x.2.toList == y.2.toList)
theorem pEq_iff (x y : Pa) : pEq x y = true ↔ x.1 = y.1 ∧ x.2.toList = y.2.toList := by simp [pEq]
theorem pEq_refl (x : Pa) : pEq x x = true := by simp [pEq]
theorem pEq_comm (x y : Pa) : pEq x y = pEq y x := by
  rw [Bool.eq_iff_iff, pEq_iff, pEq_iff]
  exact ⟨fun h => ⟨h.1.symm, h.2.symm⟩, fun h => ⟨h.1.symm, h.2.symm⟩⟩
theorem pEq_trans {x y z : Pa} (h : pEq x y = true) (k : pEq y z = true) : pEq x z = true := by
  rw [pEq_iff] at *
  exact ⟨h.1.trans k.1, h.2.trans k.2⟩
set_option maxRecDepth 100000 in
set_option maxHeartbeats 4000000 in
theorem pequal_any (w : World) (x y : Pa) : Calls Try.prog 49 #[pV x, pV y] w fun e w' => e = .returned (.bool (pEq x y)) ∧ Below w.heap.size w w' := by
  obtain ⟨k, s⟩ := x
  obtain ⟨m, t⟩ := y
  have hmf : ∀ (fn : Fn) (first cap : Array Value) (w : World), (Instr.makeFunc fn first cap).run Try.prog w = .ok (.func fn first cap) w := fun _ _ _ _ => rfl
  by_cases h1 : k = m
  · by_cases h2 : s.toList = t.toList
    · rw [show pEq (k, s) (m, t) = true by simp [pEq, h1, h2]]
      go_enter_defers Try.func49, Try.ntmps49
      go_wp2
      refine leaves_cons (f := 59) (args := #[.pointer (some ⟨w.heap.size + 1 + 1, 0, none⟩)]) (by simp) (by simp [go_sem]) ?_
      refine (pcatch_idle ⟨w.heap.size + 1 + 1, 0, none⟩ _).mono ?_
      rintro e u' w'' ⟨rfl, rfl, rfl⟩
      simp [Leaves, settle, results, Try.results49, go_sem]
      exact ((below_alloc w _).alloc (by simp) _).alloc (by simp; omega) _
    · rw [show pEq (k, s) (m, t) = false by simp [pEq, h1, h2]]
      go_enter_defers Try.func49, Try.ntmps49
      go_wp2
      refine leaves_cons (f := 59) (args := #[.pointer (some ⟨w.heap.size + 1 + 1, 0, none⟩)]) (by simp) (by simp [go_sem]) ?_
      refine (pcatch_idle ⟨w.heap.size + 1 + 1, 0, none⟩ _).mono ?_
      rintro e u' w'' ⟨rfl, rfl, rfl⟩
      simp [Leaves, settle, results, Try.results49, go_sem]
      exact ((below_alloc w _).alloc (by simp) _).alloc (by simp; omega) _
  · rw [show pEq (k, s) (m, t) = false by simp [pEq, h1]]
    go_enter_defers Try.func49, Try.ntmps49
    go_wp2
    refine leaves_cons (f := 59) (args := #[.pointer (some ⟨w.heap.size + 1 + 1, 0, none⟩)]) (by simp) (by simp [go_sem]) ?_
    refine (pcatch_idle ⟨w.heap.size + 1 + 1, 0, none⟩ _).mono ?_
    rintro e u' w'' ⟨rfl, rfl, rfl⟩
    simp [Leaves, settle, results, Try.results49, go_sem]
    exact ((below_alloc w _).alloc (by simp) _).alloc (by simp; omega) _
section
variable {w : World} {B g n hi : Nat} {R : List Pa}
set_option maxRecDepth 100000 in
set_option maxHeartbeats 4000000 in
theorem pFind_any {xs : List Pa} (h : pSk w B g n hi R xs) (k0 : Int) (s0 : ByteArray) : Calls Try.prog 24 #[pP B, (.agg #[I k0, .string s0])] w fun e w' => e = .returned (.tuple #[I (fndO (fun x => pEq x (k0, s0)) xs.reverse).1, .bool (fndO (fun x => pEq x (k0, s0)) xs.reverse).2]) ∧ Below w.heap.size w w' := by
  have b1 := below_alloc w (.cells #[I k0, .string s0] 42)
  have hA := heap_alloc_new w (.cells #[I k0, .string s0] 42)
  have h0 := h.below b1
  have hL := pLen_any h0
  have hle := h.lle
  have hm := h.m
  have HF : Hid (∀ W, Below (w.alloc (.cells #[I k0, .string s0] 42)).heap.size (w.alloc (.cells #[I k0, .string s0] 42)) W → W.cell? ⟨B, 1, none⟩ = some (.slice (some ⟨g, 0, none⟩) n n) ∧ W.cell? ⟨B, 2, none⟩ = some (I xs.length) ∧ (∀ (j : Nat) (x : Pa), xs[j]? = some x → W.cell? ⟨g, j * 2, none⟩ = some (I x.1) ∧ W.cell? ⟨g, j * 2 + 1, none⟩ = some (.string x.2)) ∧ W.cell? ⟨w.heap.size, 0, none⟩ = some (I k0) ∧ W.cell? ⟨w.heap.size, 1, none⟩ = some (.string s0)) := fun W hb => by
    have h1 := h0.below hb
    obtain ⟨-, c1, c2, -⟩ := h1.cells
    have hA2 := (hb.block _ (heap_lt hA)).trans hA
    exact ⟨c1, c2, fun j x hj => h1.at hj, by rw [cell_of_row W _ _ _ _ (0, 0) hA2]; rfl, by rw [cell_of_row W _ _ _ _ (0, 0) hA2]; rfl⟩
  clear h h0 hA
  go_enter Try.func24, Try.ntmps24
  go_wp2_with (first | (go_at_call 48; refine hL.mono ?_; clear hL; rintro e w1 ⟨rfl, rfl⟩))
  generalize (w.alloc (.cells #[I k0, .string s0] 42)) = V at *
  go_loopw [9, 6] (fun i v6 wr => ∃ k : Nat, k ≤ xs.length ∧ i = .int .i64 k ∧ Hid (Below V.heap.size V wr ∧ ∀ (j : Nat) (z : Pa), j < k → xs.reverse[j]? = some z → pEq z (k0, s0) = false)) (fun i _ _ => xs.length - (intOf i).toNat)
  case atStart => exact ⟨0, Nat.zero_le _, rfl, Below.refl _ _, fun j z hj => by omega⟩
  case round =>
    obtain ⟨k, hk, rfl, HB⟩ := hrel
    by_cases hlt : k < xs.length
    · have hltI : (k : Int) < xs.length := by omega
      obtain ⟨x, hx⟩ : ∃ x, xs[xs.length - 1 - k]? = some x := ⟨_, List.getElem?_eq_getElem (by omega)⟩
      have hrv : xs.reverse[k]? = some x := by rw [List.getElem?_reverse hlt]; exact hx
      obtain ⟨c1, c2, hc, c5, c6⟩ := HF.out wr HB.out.1
      obtain ⟨c3, c4⟩ := hc _ x hx
      obtain ⟨kx, sx⟩ := x
      clear hc hx
      have HX : Hid (xs.reverse[k]? = some (kx, sx)) := hrv
      clear hrv
      have hp0 : ¬ ((xs.length : Int) - 1 - k) < 0 := by omega
      have hp1 : ((xs.length : Int) - 1 - k) < n := by omega
      have x1 := cell_regrown c1
      have x2 := cell_regrown c2
      have x3 := cell_regrown c3
      have x4 := cell_regrown c4
      have x5 := cell_regrown c5
      have x6 := cell_regrown c6
      clear c1 c2 c3 c4 c5 c6
      have hE := fun W => pequal_any W (kx, sx) (k0, s0)
      cases hq : pEq (kx, sx) (k0, s0) with
      | true =>
        have cI : ∀ d os, Calls Try.prog 49 #[(.agg #[I kx, .string sx]), (.agg #[I k0, .string s0])] (grow (redrawn wr d) os) fun e w'' => e = .returned (.bool true) ∧ ∃ p : Regrown, w'' = grow (redrawn wr p.d) p.os := fun d os => Calls.regrown_of (by have := hE (grow (redrawn wr d) os); rw [hq] at this; exact this)
        clear hE
        have HQ : Hid (pEq (kx, sx) (k0, s0) = true) := hq
        clear hq
        go_wp2
        refine wp_region_quiet_below (by kernel_rfl) (by kernel_rfl) ?_
        repeat (go_big_quiet_step (first | exact cI _ _))
        refine wpQuiet_nil ?_
        rintro _ ⟨⟨dq, osq⟩, rfl⟩
        dsimp only
        have b0 := HB.out.1.trans ((below_regrown wr dq osq).mono HB.out.1.size)
        clear x1 x2 x3 x4 x5 x6 cI
        generalize grow (redrawn wr dq) osq = w2 at *
        go_wp2
        go_ret2
        rw [fndO_some HX.out HQ.out HB.out.2]
        exact ⟨rfl, b1.trans (b0.mono b1.size)⟩
      | false =>
        have cI : ∀ d os, Calls Try.prog 49 #[(.agg #[I kx, .string sx]), (.agg #[I k0, .string s0])] (grow (redrawn wr d) os) fun e w'' => e = .returned (.bool false) ∧ ∃ p : Regrown, w'' = grow (redrawn wr p.d) p.os := fun d os => Calls.regrown_of (by have := hE (grow (redrawn wr d) os); rw [hq] at this; exact this)
        clear hE
        have HQ : Hid (pEq (kx, sx) (k0, s0) = false) := hq
        clear hq
        go_wp2
        refine wp_region_quiet_below (by kernel_rfl) (by kernel_rfl) ?_
        repeat (go_big_quiet_step (first | exact cI _ _))
        refine wpQuiet_nil ?_
        rintro _ ⟨⟨dq, osq⟩, rfl⟩
        dsimp only
        have b0 := HB.out.1.trans ((below_regrown wr dq osq).mono HB.out.1.size)
        clear x1 x2 x3 x4 x5 x6 cI
        generalize grow (redrawn wr dq) osq = w2 at *
        have H9 : Hid (Below V.heap.size V w2 ∧ ∀ (j : Nat) (z : Pa), j < k + 1 → xs.reverse[j]? = some z → pEq z (k0, s0) = false) := ⟨b0, fun j z hj hz => by
          by_cases e : j = k
          · subst e
            rw [HX.out] at hz
            cases hz
            exact HQ.out
          · exact HB.out.2 j z (by omega) hz⟩
        clear HB
        go_wp2
        go_roundw
        case rel => exact ⟨k + 1, by omega, by go_num, H9.out⟩
        case measure => simp [intOf]; omega
    · obtain rfl : k = xs.length := by omega
      have hge : ¬ ((xs.length : Int) < xs.length) := by omega
      go_wp2
      go_ret2
      rw [fndO_none (fun j z hz => HB.out.2 j z (by have := (List.getElem?_eq_some_iff.1 hz).1; simpa using this) hz)]
      exact ⟨rfl, b1.trans (HB.out.1.mono b1.size)⟩
end
end Go.Proofs.Ytckmdkdhnhkdhaa
