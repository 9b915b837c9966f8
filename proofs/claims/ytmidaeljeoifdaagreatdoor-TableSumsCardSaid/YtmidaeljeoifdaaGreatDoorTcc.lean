import Derived.Test.YtmidaeljeoifdaaGreatDoorTcb
namespace Go.Proofs.YtmidaeljeoifdaaGreatDoor
set_option maxRecDepth 100000
set_option maxHeartbeats 16000000
open Go.RowKit
set_option linter.unusedVariables false
set_option linter.unusedSimpArgs false
theorem ints_at9 {w : World} {s : Sl} {l : List Int} (h : RowsAt w 1 intP s l) {j : Nat} {x : Int} (hj : l[j]? = some x) : ∃ g off, s.a = some ⟨g, off, none⟩ ∧ g < w.heap.size ∧ w.cell? ⟨g, off + j, none⟩ = some (I x) := by
 obtain ⟨g, off, e, hg, hr⟩ := h.row j x hj
 obtain ⟨u, h1, h2⟩ := hr 0 (by omega)
 refine ⟨g, off, e, hg, ?_⟩
 rw [show off + j * 1 + 0 = off + j by omega] at h1
 rw [h1, h2]
theorem countsFit_any (tb : Tb) (v : Ts) (w : World) (h : TbAt w tb v) : Calls Tryz.prog 17 #[.agg (tbC tb v)] w fun e w' => e = .returned (.bool (countsB tb)) ∧ Below w.heap.size w w' := by
 have hb : ∀ o, Below w.heap.size w (w.alloc o) := fun o => below_alloc w o
 obtain ⟨R, hR⟩ : ∃ R, R = countsB tb := ⟨_, rfl⟩
 rw [← hR]
 have HR : Hid (R = (inI tb.uses 0 255 && inI tb.modes 1 8 && inI v.t.n 1 256 && decide (v.r.n ≤ 65 ∧ v.k.n ≤ 16 ∧ v.a.n ≤ 64 ∧ v.i.n ≤ 32 ∧ v.s.n ≤ 64))) := by
  show R = _
  rw [hR, h.t.n, h.r.n, h.k.n, h.a.n, h.i.n, h.s.n]
  rfl
 clear hR h
 have k1 := withinI_any tb.uses 0 255
 have k2 := withinI_any tb.modes 1 8
 have k3 := withinI_any v.t.n 1 256
 unfold tbC
 generalize inI tb.uses 0 255 = b1 at *
 generalize inI tb.modes 1 8 = b2 at *
 generalize inI (v.t.n : Int) 1 256 = b3 at *
 go_enter Tryz.func17, Tryz.ntmps17
 cases b1
 ·go_wp2_with (first | (go_at_call 46; refine (k1 _).mono ?_; clear k1; rintro e w' ⟨rfl, rfl⟩))
  go_ret
  exact ⟨ret_bool' (by rw [HR.out]; simp), hb _⟩
 ·cases b2
  ·go_wp2_with (first | (go_at_call 46; refine (k1 _).mono ?_; clear k1; rintro e w' ⟨rfl, rfl⟩) | (go_at_call 46; refine (k2 _).mono ?_; clear k2; rintro e w' ⟨rfl, rfl⟩))
   go_ret
   exact ⟨ret_bool' (by rw [HR.out]; simp), hb _⟩
  ·cases b3
   ·go_wp2_with (first | (go_at_call 46; refine (k1 _).mono ?_; clear k1; rintro e w' ⟨rfl, rfl⟩) | (go_at_call 46; refine (k2 _).mono ?_; clear k2; rintro e w' ⟨rfl, rfl⟩) | (go_at_call 46; refine (k3 _).mono ?_; clear k3; rintro e w' ⟨rfl, rfl⟩))
    go_ret
    exact ⟨ret_bool' (by rw [HR.out]; simp), hb _⟩
   ·by_cases g1 : (v.r.n : Int) ≤ 65
    ·by_cases g2 : (v.k.n : Int) ≤ 16
     ·by_cases g3 : (v.a.n : Int) ≤ 64
      ·by_cases g4 : (v.i.n : Int) ≤ 32
       ·go_wp2_with (first | (go_at_call 46; refine (k1 _).mono ?_; clear k1; rintro e w' ⟨rfl, rfl⟩) | (go_at_call 46; refine (k2 _).mono ?_; clear k2; rintro e w' ⟨rfl, rfl⟩) | (go_at_call 46; refine (k3 _).mono ?_; clear k3; rintro e w' ⟨rfl, rfl⟩))
        go_ret
        exact ⟨ret_bool' (by rw [HR.out, Bool.eq_iff_iff]; simp; omega), hb _⟩
       ·go_wp2_with (first | (go_at_call 46; refine (k1 _).mono ?_; clear k1; rintro e w' ⟨rfl, rfl⟩) | (go_at_call 46; refine (k2 _).mono ?_; clear k2; rintro e w' ⟨rfl, rfl⟩) | (go_at_call 46; refine (k3 _).mono ?_; clear k3; rintro e w' ⟨rfl, rfl⟩))
        go_ret
        exact ⟨ret_bool' (by rw [HR.out, Bool.eq_iff_iff]; simp; omega), hb _⟩
      ·go_wp2_with (first | (go_at_call 46; refine (k1 _).mono ?_; clear k1; rintro e w' ⟨rfl, rfl⟩) | (go_at_call 46; refine (k2 _).mono ?_; clear k2; rintro e w' ⟨rfl, rfl⟩) | (go_at_call 46; refine (k3 _).mono ?_; clear k3; rintro e w' ⟨rfl, rfl⟩))
       go_ret
       exact ⟨ret_bool' (by rw [HR.out, Bool.eq_iff_iff]; simp; omega), hb _⟩
     ·go_wp2_with (first | (go_at_call 46; refine (k1 _).mono ?_; clear k1; rintro e w' ⟨rfl, rfl⟩) | (go_at_call 46; refine (k2 _).mono ?_; clear k2; rintro e w' ⟨rfl, rfl⟩) | (go_at_call 46; refine (k3 _).mono ?_; clear k3; rintro e w' ⟨rfl, rfl⟩))
      go_ret
      exact ⟨ret_bool' (by rw [HR.out, Bool.eq_iff_iff]; simp; omega), hb _⟩
    ·go_wp2_with (first | (go_at_call 46; refine (k1 _).mono ?_; clear k1; rintro e w' ⟨rfl, rfl⟩) | (go_at_call 46; refine (k2 _).mono ?_; clear k2; rintro e w' ⟨rfl, rfl⟩) | (go_at_call 46; refine (k3 _).mono ?_; clear k3; rintro e w' ⟨rfl, rfl⟩))
     go_ret
     exact ⟨ret_bool' (by rw [HR.out, Bool.eq_iff_iff]; simp; omega), hb _⟩
end Go.Proofs.YtmidaeljeoifdaaGreatDoor
