import Derived.Test.YtmidaeljeoifdaaGreatDoorTcc
import Derived.Deep.Cut
namespace Go.Proofs.YtmidaeljeoifdaaGreatDoor
set_option maxRecDepth 100000
set_option maxHeartbeats 16000000
open Go.RowKit
set_option linter.unusedVariables false
set_option linter.unusedSimpArgs false
theorem drop_at {α : Type} {l : List α} {j : Nat} {x : α} (h : l[j]? = some x) : l.drop j = x :: l.drop (j + 1) := by
 obtain ⟨hj, rfl⟩ := List.getElem?_eq_some_iff.1 h
 exact List.drop_eq_getElem_cons hj
theorem ownFits_any (tb : Tb) (v : Ts) (w : World) (h : TbAt w tb v) (s : Sl) (l : List Int) (hl : RowsAt w 1 intP s l) (prio : Int) : Calls Tryz.prog 55 #[.agg (tbC tb v), .slice s.a s.n s.c, I prio] w fun e w' => e = .returned (.bool (ownG tb prio (-1) l)) ∧ Below w.heap.size w w' := by
 have hV := heap_alloc_new w (.cells (tbC tb v) 30)
 have HB : Hid (Below w.heap.size w (w.alloc (.cells (tbC tb v) 30))) := below_alloc w _
 have HT : Hid (TbAt (w.alloc (.cells (tbC tb v) 30)) tb v) := h.below HB.out
 have HL : Hid (RowsAt (w.alloc (.cells (tbC tb v) 30)) 1 intP s l) := hl.below HB.out (fun _ _ _ _ h => h)
 obtain ⟨c0, c1, c2, c3, c4, c5, c6, c7, c8, c9, c10, c11, c12⟩ := var13 hV
 have HS : Hid (s.n = l.length) := hl.n
 have hsc : s.n ≤ s.c := hl.c
 have hsm : s.c ≤ maxLen := hl.m
 have HRn : Hid (v.r.n = tb.ress.length) := h.r.n
 have hrc : v.r.n ≤ v.r.c := h.r.c
 have hrm : v.r.c ≤ maxLen := h.r.m
 unfold maxLen at hsm hrm
 have kid := fun x => isID_ress x v.r
 obtain ⟨R, hR⟩ : ∃ R, R = ownG tb prio (-1) l := ⟨_, rfl⟩
 rw [← hR]
 have HR : Hid (R = ownG tb prio (-1) (l.drop 0)) := hR
 clear hR h hl hV c0 c1 c2 c3 c5 c6 c7 c8 c9 c10 c11 c12
 unfold tbC at *
 go_enter Tryz.func55, Tryz.ntmps55
 generalize hW : w.alloc (.cells #[I tb.uses, I tb.modes, .slice v.t.a v.t.n v.t.c, .slice v.g.a v.g.n v.g.c, .slice v.r.a v.r.n v.r.c, .slice v.k.a v.k.n v.k.c, .slice v.a.a v.a.n v.a.c, .slice v.i.a v.i.n v.i.c, .slice v.s.a v.s.n v.s.c, I tb.depth, I tb.frames, I tb.errors, I tb.calls] 30) = W1 at *
 go_upto_region 1 with fail
 clear hW
 go_wp2
 go_loopw [7, 9, 12] (fun av _ iv wr => ∃ (j : Nat) (a : Int), j ≤ s.n ∧ iv = .int .i64 j ∧ av = I a ∧ wr = W1 ∧ Hid (R = ownG tb prio a (l.drop j))) (fun _ _ iv _ => s.n - (intOf iv).toNat)
 case atStart => exact ⟨0, -1, by omega, rfl, rfl, rfl, HR.out⟩
 case round =>
  clear HR
  obtain ⟨j, a, hj, rfl, rfl, rfl, HJ⟩ := hrel
  by_cases hlt : j < s.n
  ·have hlt' : (j : Int) < s.n := by omega
   obtain ⟨x, hx⟩ : ∃ x, l[j]? = some x := ⟨_, List.getElem?_eq_getElem (by rw [← HS.out]; exact hlt)⟩
   obtain ⟨g5, o5, e5, hg5, b5⟩ := ints_at9 HL.out hx
   have HX : Hid (R = (decide (a < x) && idB x tb.ress.length && resOk tb prio x && ownG tb prio x (l.drop (j + 1)))) := by
    have h9 := HJ.out
    rw [drop_at hx, ownG] at h9
    exact h9
   rw [e5]
   clear hx e5 HJ
   by_cases g1 : x ≤ a
   ·go_wp2
    go_ret
    exact ⟨ret_bool' (by rw [HX.out]; have : ¬ a < x := by omega
               simp [this]), HB.out⟩
   ·have g1' : a < x := by omega
    have kx := kid x wr
    cases hid : idB x v.r.n with
    | false =>
     rw [hid] at kx
     go_wp2_with (go_at_call 107; refine kx.mono ?_; clear kx; rintro e w' ⟨rfl, rfl⟩)
     go_ret
     exact ⟨ret_bool' (by rw [HX.out, ← HRn.out, hid]; simp), HB.out⟩
    | true =>
     rw [hid] at kx
     have hid2 : 0 ≤ x ∧ x < (v.r.n : Int) := by unfold idB at hid; simpa using hid
     obtain ⟨k, rfl⟩ := Int.eq_ofNat_of_zero_le hid2.1
     obtain ⟨r, hr⟩ : ∃ r, tb.ress[k]? = some r := ⟨_, List.getElem?_eq_getElem (by rw [← HRn.out]; omega)⟩
     obtain ⟨gr, orr, er, hgr, y0, y1⟩ := rsr_at HT.out hr
     have HQ : Hid (resOk tb prio (k : Int) = (!r.inner && decide (prio ≤ r.ceil))) := by
      show _ = _
      unfold resOk
      rw [Int.toNat_natCast, hr]
     have hk1 : (k : Int) < v.r.n := hid2.2
     have HI : Hid (idB (k : Int) tb.ress.length = true) := by rw [← HRn.out]; exact hid
     rw [er] at c4
     rw [er] at kx
     clear hr er hid hid2
     generalize r.inner = ri at *
     generalize r.ceil = rc at *
     cases ri with
     | true =>
      go_wp2_with (go_at_call 107; refine kx.mono ?_; clear kx; rintro e w' ⟨rfl, rfl⟩)
      go_ret
      exact ⟨ret_bool' (by rw [HX.out, HQ.out]; simp), HB.out⟩
     | false =>
      by_cases g2 : rc < prio
      ·go_wp2_with (go_at_call 107; refine kx.mono ?_; clear kx; rintro e w' ⟨rfl, rfl⟩)
       go_ret
       exact ⟨ret_bool' (by rw [HX.out, HQ.out]; have : ¬ prio ≤ rc := by omega
                  simp [this]), HB.out⟩
      ·have g2' : prio ≤ rc := by omega
       have HN : Hid (R = ownG tb prio (k : Int) (l.drop (j + 1))) := by
        have h9 := HX.out
        rw [HQ.out, HI.out] at h9
        show R = _
        simpa [g1', g2'] using h9
       go_wp2_with (go_at_call 107; refine kx.mono ?_; clear kx; rintro e w' ⟨rfl, rfl⟩)
       go_roundw
       case rel => exact ⟨j + 1, (k : Int), by omega, by go_num, rfl, trivial, HN.out⟩
       case measure => simp [intOf]; omega
  ·obtain rfl : j = s.n := by omega
   have hlt' : ¬ ((s.n : Nat) : Int) < (s.n : Nat) := by omega
   have HE : Hid (R = true) := by
    have h9 := HJ.out
    rw [HS.out, List.drop_length, ownG] at h9
    exact h9
   clear HJ
   go_wp2
   go_ret
   exact ⟨ret_bool' (by rw [HE.out]), HB.out⟩
end Go.Proofs.YtmidaeljeoifdaaGreatDoor
