import Derived.Test.YtckmdkdhnhkdhaaZei
import Derived.Lib.QuietBelow
import Derived.Shelf.Abstract
namespace Go.Proofs.Ytckmdkdhnhkdhaa
open Go.RowKit Go.Shelf Go.Sort
set_option linter.unusedVariables false
set_option linter.unusedSimpArgs false

/-! ### Stacks of int: equal, Find -/
theorem icatch_idle (p : Addr) (w : World) :
    CallsD Try.prog 62 #[.pointer (some p)] .returning w fun e u' w' => e = .returned (.tuple #[]) ∧ u' = .returning ∧ w' = w := by
  refine callsD_of_wpS Try.func62 rfl fun c₀ cs hu => ?_
  apply wpS_seq
  apply wpS_region
  simp [wpOpsS, go_sem, recoverD, hu, Try.ntmps62, Exit.thenS]
  refine wpS_of_wp ?_
  show Code.wp _ _ _ { tmps := #[.pointer (some p), .nilIface, .nilIface, undef, undef], defers := [] } w
  go_wp2
  cases c₀
  simp_all [bodyPostS, results, Try.results62]
theorem iequal_any (w : World) (x y : Int) : Calls Try.prog 60 #[(Value.int .i64 x), (Value.int .i64 y)] w fun e w' => e = .returned (.bool (x == y)) ∧ Below w.heap.size w w' := by
  have hmf : ∀ (fn : Fn) (first cap : Array Value) (w : World), (Instr.makeFunc fn first cap).run Try.prog w = .ok (.func fn first cap) w := fun _ _ _ _ => rfl
  go_enter_defers Try.func60, Try.ntmps60
  go_wp2
  refine leaves_cons (f := 62) (args := #[.pointer (some ⟨w.heap.size, 0, none⟩)]) (by simp) (by simp [go_sem]) ?_
  refine (icatch_idle ⟨w.heap.size, 0, none⟩ _).mono ?_
  rintro e u' w'' ⟨rfl, rfl, rfl⟩
  have hc : (w.alloc (.cells #[.bool (x == y)] 4)).cell? ⟨w.heap.size, 0, none⟩ = some (.bool (x == y)) := by rw [cell_of_row _ _ _ _ _ (0, 0) (heap_alloc_new w _)]; rfl
  have hb := below_alloc w (.cells #[.bool (x == y)] 4)
  generalize (x == y) = q at *
  simp [Leaves, settle, results, Try.results60, go_sem]
  exact hb
section
variable {w : World} {B g n hi : Nat} {R : List Value}
def iV (xs : List Int) : List Value := xs.map fun x => (Value.int .i64 x)
theorem iV_len (xs : List Int) : (iV xs).length = xs.length := by simp [iV]
def iEq (x y : Int) : Bool := (x == y)
theorem iFind_any {xs : List Int} (h : iSk w B g n hi R (iV xs)) (y : Int) : Calls Try.prog 50 #[iP B, (Value.int .i64 y)] w fun e w' => e = .returned (.tuple #[I (fndO (fun x => iEq x y) xs.reverse).1, .bool (fndO (fun x => iEq x y) xs.reverse).2]) ∧ Below w.heap.size w w' := by
  have hL := iLen_any h
  rw [iV_len] at hL
  have hle := h.lle
  have hm := h.m
  rw [iV_len] at hle
  have HF : Hid (∀ W, Below w.heap.size w W → W.cell? ⟨B, 1, none⟩ = some (.slice (some ⟨g, 0, none⟩) n n) ∧ W.cell? ⟨B, 2, none⟩ = some (I xs.length) ∧ ∀ (j : Nat) (x : Int), xs[j]? = some x → W.cell? ⟨g, j, none⟩ = some (Value.int .i64 x)) := fun W hb => by
    have h1 := h.below hb
    obtain ⟨-, c1, c2, -⟩ := h1.cells
    rw [iV_len] at c2
    exact ⟨c1, c2, fun j x hj => h1.at (by simp [iV, hj])⟩
  clear h
  go_enter Try.func50, Try.ntmps50
  go_wp2_with (first | (go_at_call 13; refine hL.mono ?_; rintro e w1 ⟨rfl, rfl⟩))
  go_loopw [9, 6] (fun i v6 wr => ∃ k : Nat, k ≤ xs.length ∧ i = .int .i64 k ∧ Hid (Below w.heap.size w wr ∧ ∀ (j : Nat) (z : Int), j < k → xs.reverse[j]? = some z → iEq z y = false)) (fun i _ _ => xs.length - (intOf i).toNat)
  case atStart => exact ⟨0, Nat.zero_le _, rfl, Below.refl _ _, fun j z hj => by omega⟩
  case round =>
    obtain ⟨k, hk, rfl, HB⟩ := hrel
    by_cases hlt : k < xs.length
    · have hltI : (k : Int) < xs.length := by omega
      obtain ⟨x, hx⟩ : ∃ x, xs[xs.length - 1 - k]? = some x := ⟨_, List.getElem?_eq_getElem (by omega)⟩
      have hrv : xs.reverse[k]? = some x := by rw [List.getElem?_reverse hlt]; exact hx
      obtain ⟨c1, c2, hc⟩ := HF.out wr HB.out.1
      have c3 := hc _ x hx
      clear hc hx
      have HX : Hid (xs.reverse[k]? = some x) := hrv
      clear hrv
      have hp0 : ¬ ((xs.length : Int) - 1 - k) < 0 := by omega
      have hp1 : ((xs.length : Int) - 1 - k) < n := by omega
      have x1 := cell_regrown c1
      have x2 := cell_regrown c2
      have x3 := cell_regrown c3
      clear c1 c2 c3
      have hE := fun W => iequal_any W x y
      cases hq : iEq x y with
      | true =>
        have cI : ∀ d os, Calls Try.prog 60 #[(Value.int .i64 x), (Value.int .i64 y)] (grow (redrawn wr d) os) fun e w'' => e = .returned (.bool true) ∧ ∃ p : Regrown, w'' = grow (redrawn wr p.d) p.os := fun d os => Calls.regrown_of (by have := hE (grow (redrawn wr d) os); rw [show (x == y) = iEq x y from rfl, hq] at this; exact this)
        clear hE
        have HQ : Hid (iEq x y = true) := hq
        clear hq
        go_wp2
        refine wp_region_quiet_below (by kernel_rfl) (by kernel_rfl) ?_
        repeat (go_big_quiet_step (first | exact cI _ _))
        refine wpQuiet_nil ?_
        rintro _ ⟨⟨dq, osq⟩, rfl⟩
        dsimp only
        have b0 := HB.out.1.trans ((below_regrown wr dq osq).mono HB.out.1.size)
        clear x1 x2 x3 cI
        generalize grow (redrawn wr dq) osq = w2 at *
        go_wp2
        go_ret2
        rw [fndO_some HX.out HQ.out HB.out.2]
        exact ⟨rfl, b0⟩
      | false =>
        have cI : ∀ d os, Calls Try.prog 60 #[(Value.int .i64 x), (Value.int .i64 y)] (grow (redrawn wr d) os) fun e w'' => e = .returned (.bool false) ∧ ∃ p : Regrown, w'' = grow (redrawn wr p.d) p.os := fun d os => Calls.regrown_of (by have := hE (grow (redrawn wr d) os); rw [show (x == y) = iEq x y from rfl, hq] at this; exact this)
        clear hE
        have HQ : Hid (iEq x y = false) := hq
        clear hq
        go_wp2
        refine wp_region_quiet_below (by kernel_rfl) (by kernel_rfl) ?_
        repeat (go_big_quiet_step (first | exact cI _ _))
        refine wpQuiet_nil ?_
        rintro _ ⟨⟨dq, osq⟩, rfl⟩
        dsimp only
        have b0 := HB.out.1.trans ((below_regrown wr dq osq).mono HB.out.1.size)
        clear x1 x2 x3 cI
        generalize grow (redrawn wr dq) osq = w2 at *
        have H9 : Hid (Below w.heap.size w w2 ∧ ∀ (j : Nat) (z : Int), j < k + 1 → xs.reverse[j]? = some z → iEq z y = false) := ⟨b0, fun j z hj hz => by
          by_cases e : j = k
          · subst e
            rw [HX.out] at hz
            cases hz
            exact HQ.out
          · exact HB.out.2 j z (by omega) hz⟩
        clear HB
        go_wp2
        go_roundw
        case rel => exact ⟨k + 1, by omega, by go_num, H9.out⟩
        case measure => simp [intOf]; omega
    · obtain rfl : k = xs.length := by omega
      have hge : ¬ ((xs.length : Int) < xs.length) := by omega
      go_wp2
      go_ret2
      rw [fndO_none (fun j z hz => HB.out.2 j z (by have := (List.getElem?_eq_some_iff.1 hz).1; simpa using this) hz)]
      exact ⟨rfl, HB.out.1⟩
end
end Go.Proofs.Ytckmdkdhnhkdhaa
