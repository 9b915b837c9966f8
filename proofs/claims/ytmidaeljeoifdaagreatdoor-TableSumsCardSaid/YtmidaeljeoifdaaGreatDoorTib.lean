import Derived.Test.YtmidaeljeoifdaaGreatDoorTia
import Derived.Test.YtmidaeljeoifdaaGreatDoorKrt
import Derived.Deep.WholeRow
namespace Go.Proofs.YtmidaeljeoifdaaGreatDoor
open Go.RowKit Go.Shelf Go.Sort Go.Maps
set_option linter.unusedVariables false
set_option linter.unusedSimpArgs false
set_option maxHeartbeats 8000000
set_option maxRecDepth 100000
def innB (c : Cf) (id : Int) : Bool := rkind c id == 3
theorem isInternal_any (w : World) (c : Cf) (v : Vs) (h : CfAt w c v) (id : Int) (hid : 0 ≤ id ∧ id < c.ress.length) : Calls Tryz.prog 153 #[.agg (cfC c v), I id] w fun e w' => e = .returned (.bool (innB c id)) ∧ Below w.heap.size w w' := by
 have hb := below_alloc w (.cells (cfC c v) 47)
 have hV := heap_alloc_new w (.cells (cfC c v) 47)
 obtain ⟨_, _, _, h12, _⟩ := var18_all hV
 obtain ⟨hi0, hi1⟩ := hid
 have hlt : id.toNat < c.ress.length := by omega
 obtain ⟨x, hx⟩ : ∃ x, c.ress[id.toNat]? = some x := ⟨_, List.getElem?_eq_getElem hlt⟩
 obtain ⟨g, off, e, hg, a0, a1, a2⟩ := rs_at (h.below hb) hx
 have hn : v.r.n = c.ress.length := h.r.n
 have hc : v.r.n ≤ v.r.c := h.r.c
 have hm : v.r.c ≤ maxLen := h.r.m
 unfold maxLen at hm
 have hi2 : id < (v.r.n : Int) := by rw [hn]; exact hi1
 have HI : Hid (innB c id = (x.kind == 3)) := by show _ = _; unfold innB rkind; rw [hx]
 obtain ⟨R, hR⟩ : ∃ R, R = innB c id := ⟨_, rfl⟩
 rw [← hR]
 have HR : Hid (R = (x.kind == 3)) := by rw [hR]; exact HI.out
 rw [e] at h12
 have HB : Hid _ := hb
 clear hx h hR HI hn hi1 e hlt hV a0 a2 hb
 generalize x.kind = xk at *
 generalize hCC : cfC c v = C at *
 clear hCC
 go_enter Tryz.func153, Tryz.ntmps153
 go_wp2
 go_ret
 exact ⟨ret_bool' (by rw [HR.out]), HB.out⟩
theorem own1_any (w : World) (c : Cf) (v : Vs) (h : CfAt w c v) (BC : Nat) (hBC : w.heap[BC]? = some (.cells (cfC c v) 47)) (id : Int) (hid : 0 ≤ id ∧ id < c.ress.length) : Calls Tryz.prog 208 (#[I id] ++ #[.pointer (some ⟨BC, 0, none⟩)]) w fun e w' => e = .returned (.bool (!innB c id)) ∧ Below w.heap.size w w' := by
 have hi18 : (Tryz.prog.info? 47).map (·.size) = some (cfC c v).size := by rw [show (cfC c v).size = 18 from rfl]; kernel_rfl
 have k1 := isInternal_any w c v h id hid
 generalize innB c id = R at *
 clear h
 generalize cfC c v = C at *
 go_enter Tryz.func208, Tryz.ntmps208
 go_wp2_with (first | (with_reducible refine wpList_id99 ?_; refine wpList_load_row rfl 47 _ rfl BC rfl 47 _ (0, 0) _ hBC Tryz.underlying47 rfl hi18 ?_) | (go_at_call 153; refine k1.mono ?_; clear k1; rintro e w1 ⟨rfl, b1⟩))
 go_ret
 exact ⟨rfl, b1⟩
theorem internal1_any (w : World) (c : Cf) (v : Vs) (h : CfAt w c v) (BC : Nat) (hBC : w.heap[BC]? = some (.cells (cfC c v) 47)) (id : Int) (hid : 0 ≤ id ∧ id < c.ress.length) : Calls Tryz.prog 206 (#[I id] ++ #[.pointer (some ⟨BC, 0, none⟩)]) w fun e w' => e = .returned (.bool (innB c id)) ∧ Below w.heap.size w w' := by
 have hi18 : (Tryz.prog.info? 47).map (·.size) = some (cfC c v).size := by rw [show (cfC c v).size = 18 from rfl]; kernel_rfl
 have k1 := isInternal_any w c v h id hid
 generalize innB c id = R at *
 clear h
 generalize cfC c v = C at *
 go_enter Tryz.func206, Tryz.ntmps206
 go_wp2_with (first | (with_reducible refine wpList_id99 ?_; refine wpList_load_row rfl 47 _ rfl BC rfl 47 _ (0, 0) _ hBC Tryz.underlying47 rfl hi18 ?_) | (go_at_call 153; refine k1.mono ?_; clear k1; rintro e w1 ⟨rfl, b1⟩))
 go_ret
 exact ⟨rfl, b1⟩
end Go.Proofs.YtmidaeljeoifdaaGreatDoor
