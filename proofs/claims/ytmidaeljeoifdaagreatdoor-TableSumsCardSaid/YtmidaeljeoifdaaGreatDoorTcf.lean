import Derived.Test.YtmidaeljeoifdaaGreatDoorTce
import Derived.Shelf.Abstract
namespace Go.Proofs.YtmidaeljeoifdaaGreatDoor
set_option maxRecDepth 100000
set_option maxHeartbeats 16000000
open Go.RowKit Go.Shelf
set_option linter.unusedVariables false
set_option linter.unusedSimpArgs false
theorem resourcesFit1_any (x : RsR) (w : World) : Calls Tryz.prog 48 #[.agg #[.bool x.inner, I x.ceil]] w fun e w' => e = .returned (.bool (inI x.ceil (-1) 127)) ∧ Below w.heap.size w w' := by
 have hb : ∀ o, Below w.heap.size w (w.alloc o) := fun o => below_alloc w o
 have k1 := withinI_any x.ceil (-1) 127
 go_enter Tryz.func48, Tryz.ntmps48
 go_wp2_with (go_at_call 46; refine (k1 _).mono ?_; clear k1; rintro e w' ⟨rfl, rfl⟩)
 go_ret
 exact ⟨rfl, hb _⟩
theorem resourcesFit_any (tb : Tb) (v : Ts) (w : World) (h : TbAt w tb v) : Calls Tryz.prog 18 #[.agg (tbC tb v)] w fun e w' => e = .returned (.bool (tb.ress.all (fun r => inI r.ceil (-1) 127))) ∧ Below w.heap.size w w' := by
 have hb : ∀ o, Below w.heap.size w (w.alloc o) := fun o => below_alloc w o
 have ke := fun o => every_rsr (w.alloc o) v.r tb.ress (fun W hW => (h.below ((hb o).trans (hW.mono (hb o).size))).r) 48 #[] (enters_of Tryz.func48 (by kernel_rfl) rfl) (fun r => inI r.ceil (-1) 127) (fun W hW x hx => resourcesFit1_any x W)
 unfold tbC
 go_enter Tryz.func18, Tryz.ntmps18
 go_wp2_with (go_at_call 47; refine (ke _).mono ?_; clear ke; rintro e w' ⟨rfl, hb2⟩)
 go_ret
 exact ⟨rfl, (hb _).trans (hb2.mono (hb _).size)⟩
theorem ctB_eq (x : CtR) : ctB x = ((decide (1 ≤ x.max) && decide (x.max ≤ 2147483647)) && (decide (1 ≤ x.base) && decide (x.base ≤ 2147483647)) && (decide (1 ≤ x.min) && decide (x.min ≤ x.max))) := by
 unfold ctB
 rw [Bool.eq_iff_iff]
 simp
 omega
theorem countersFit1_any (x : CtR) (w : World) : Calls Tryz.prog 58 #[.agg #[.int .u32 (x.max : Int), .int .u32 (x.base : Int), .int .u32 (x.min : Int)]] w fun e w' => e = .returned (.bool (ctB x)) ∧ Below w.heap.size w w' := by
 have hb : ∀ o, Below w.heap.size w (w.alloc o) := fun o => below_alloc w o
 have k1 := withinU_any x.max 1 2147483647
 have k2 := withinU_any x.base 1 2147483647
 have k3 := withinU_any x.min 1 x.max
 rw [ctB_eq]
 generalize (decide (1 ≤ x.max) && decide (x.max ≤ 2147483647)) = b1 at *
 generalize (decide (1 ≤ x.base) && decide (x.base ≤ 2147483647)) = b2 at *
 generalize (decide (1 ≤ x.min) && decide (x.min ≤ x.max)) = b3 at *
 go_enter Tryz.func58, Tryz.ntmps58
 cases b1
 ·go_wp2_with (first | (go_at_call 59; refine (k1 _).mono ?_; clear k1; rintro e w' ⟨rfl, rfl⟩))
  go_ret
  exact ⟨rfl, hb _⟩
 ·cases b2
  ·go_wp2_with (first | (go_at_call 59; refine (k1 _).mono ?_; clear k1; rintro e w' ⟨rfl, rfl⟩) | (go_at_call 59; refine (k2 _).mono ?_; clear k2; rintro e w' ⟨rfl, rfl⟩))
   go_ret
   exact ⟨rfl, hb _⟩
  ·go_wp2_with (first | (go_at_call 59; refine (k1 _).mono ?_; clear k1; rintro e w' ⟨rfl, rfl⟩) | (go_at_call 59; refine (k2 _).mono ?_; clear k2; rintro e w' ⟨rfl, rfl⟩) | (go_at_call 59; refine (k3 _).mono ?_; clear k3; rintro e w' ⟨rfl, rfl⟩))
   go_ret
   exact ⟨ret_bool' (by simp), hb _⟩
theorem countersFit_any (tb : Tb) (v : Ts) (w : World) (h : TbAt w tb v) : Calls Tryz.prog 21 #[.agg (tbC tb v)] w fun e w' => e = .returned (.bool (tb.ctrs.all ctB)) ∧ Below w.heap.size w w' := by
 have hb : ∀ o, Below w.heap.size w (w.alloc o) := fun o => below_alloc w o
 have ke := fun o => every_ctr (w.alloc o) v.k tb.ctrs (fun W hW => (h.below ((hb o).trans (hW.mono (hb o).size))).k) 58 #[] (enters_of Tryz.func58 (by kernel_rfl) rfl) ctB (fun W hW x hx => countersFit1_any x W)
 unfold tbC
 go_enter Tryz.func21, Tryz.ntmps21
 go_wp2_with (go_at_call 57; refine (ke _).mono ?_; clear ke; rintro e w' ⟨rfl, hb2⟩)
 go_ret
 exact ⟨rfl, (hb _).trans (hb2.mono (hb _).size)⟩
theorem isrFits_any (tb : Tb) (v : Ts) (x : IsR) (s : Sl) (w : World) (h : TbAt w tb v) (hs : RowsAt w 1 intP s x.own) : Calls Tryz.prog 65 #[.agg (tbC tb v), .agg (isrC x s)] w fun e w' => e = .returned (.bool (isB tb x)) ∧ Below w.heap.size w w' := by
 have hb : ∀ o p, Below w.heap.size w ((w.alloc o).alloc p) := fun o p => ((Below.refl w.heap.size w).alloc (Nat.le_refl _) o).alloc (by simp) p
 have k1 := withinI_any x.cat 1 2
 have k2 := withinI_any x.prio 64 127
 have ko := fun o p => ownFits_any tb v ((w.alloc o).alloc p) (h.below (hb o p)) s x.own (hs.below (hb o p) (fun _ _ _ _ h => h)) x.prio
 have HN : Hid (x.own.isEmpty = ((s.n : Int) == 0)) := by
  show _ = _
  rw [hs.n]
  cases x.own <;> simp
  omega
 obtain ⟨R, hR⟩ : ∃ R, R = isB tb x := ⟨_, rfl⟩
 rw [← hR]
 have HR : Hid (R = (inI x.cat 1 2 && inI x.prio 64 127 && (x.cat == 2 || ((s.n : Int) == 0)) && ownG tb x.prio (-1) x.own)) := by
  show _ = _
  rw [hR]
  unfold isB
  rw [HN.out]
 clear hR HN h hs
 generalize inI x.cat 1 2 = b1 at *
 generalize inI x.prio 64 127 = b2 at *
 generalize ownG tb x.prio (-1) x.own = b4 at *
 unfold isrC tbC at *
 generalize x.cat = xc at *
 generalize x.prio = xp at *
 go_enter Tryz.func65, Tryz.ntmps65
 cases b1
 ·go_wp2_with (first | (go_at_call 46; refine (k1 _).mono ?_; clear k1; rintro e w' ⟨rfl, rfl⟩))
  go_ret
  exact ⟨ret_bool' (by rw [HR.out]; simp), hb _ _⟩
 ·cases b2
  ·go_wp2_with (first | (go_at_call 46; refine (k1 _).mono ?_; clear k1; rintro e w' ⟨rfl, rfl⟩) | (go_at_call 46; refine (k2 _).mono ?_; clear k2; rintro e w' ⟨rfl, rfl⟩))
   go_ret
   exact ⟨ret_bool' (by rw [HR.out]; simp), hb _ _⟩
  ·cases h3 : (xc == 2)
   ·cases h4 : ((s.n : Int) == 0)
    ·go_wp2_with (first | (go_at_call 46; refine (k1 _).mono ?_; clear k1; rintro e w' ⟨rfl, rfl⟩) | (go_at_call 46; refine (k2 _).mono ?_; clear k2; rintro e w' ⟨rfl, rfl⟩))
     go_ret
     exact ⟨ret_bool' (by rw [HR.out, h3, h4]; simp), hb _ _⟩
    ·go_wp2_with (first | (go_at_call 46; refine (k1 _).mono ?_; clear k1; rintro e w' ⟨rfl, rfl⟩) | (go_at_call 46; refine (k2 _).mono ?_; clear k2; rintro e w' ⟨rfl, rfl⟩) | (go_at_call 55; refine (ko _ _).mono ?_; clear ko; rintro e w' ⟨rfl, hb2⟩))
     go_ret
     exact ⟨ret_bool' (by rw [HR.out, h3, h4]; simp), (hb _ _).trans (hb2.mono (hb _ _).size)⟩
   ·go_wp2_with (first | (go_at_call 46; refine (k1 _).mono ?_; clear k1; rintro e w' ⟨rfl, rfl⟩) | (go_at_call 46; refine (k2 _).mono ?_; clear k2; rintro e w' ⟨rfl, rfl⟩) | (go_at_call 55; refine (ko _ _).mono ?_; clear ko; rintro e w' ⟨rfl, hb2⟩))
    go_ret
    exact ⟨ret_bool' (by rw [HR.out, h3]; simp), (hb _ _).trans (hb2.mono (hb _ _).size)⟩
end Go.Proofs.YtmidaeljeoifdaaGreatDoor
