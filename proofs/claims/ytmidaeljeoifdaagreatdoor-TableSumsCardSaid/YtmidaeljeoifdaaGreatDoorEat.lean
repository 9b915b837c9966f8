import Derived.Test.YtmidaeljeoifdaaGreatDoorEca
namespace Go.Proofs.YtmidaeljeoifdaaGreatDoor.Ce
open Go.RowKit
set_option linter.unusedVariables false
theorem rs_at {w : World} {c : Cf} {v : Vs} (h : CfAt w c v) {j : Nat} {x : Rs} (hj : c.ress[j]? = some x) : ∃ (g off : Nat), v.r.a = some ⟨g, off, none⟩ ∧ g < w.heap.size ∧ w.cell? ⟨g, off + j * 3, none⟩ = some (S x.name) ∧ w.cell? ⟨g, off + j * 3 + 1, none⟩ = some (I x.kind) ∧ w.cell? ⟨g, off + j * 3 + 2, none⟩ = some (I x.link) := by
 obtain ⟨g, off, e, hg, hr⟩ := h.r.row j x hj
 obtain ⟨u0, a0, b0⟩ := hr 0 (by omega)
 have e0 : u0 = S x.name := b0
 rw [e0] at a0
 obtain ⟨u1, a1, b1⟩ := hr 1 (by omega)
 have e1 : u1 = I x.kind := b1
 rw [e1] at a1
 obtain ⟨u2, a2, b2⟩ := hr 2 (by omega)
 have e2 : u2 = I x.link := b2
 rw [e2] at a2
 rw [Nat.add_zero] at a0
 exact ⟨g, off, e, hg, a0, a1, a2⟩
theorem tk_at {w : World} {c : Cf} {v : Vs} (h : CfAt w c v) {j : Nat} {x : Tk} (hj : c.tasks[j]? = some x) : ∃ (g off : Nat) (s4 s5 s6 s7 : Sl), v.t.a = some ⟨g, off, none⟩ ∧ g < w.heap.size ∧ w.cell? ⟨g, off + j * 8, none⟩ = some (S x.name) ∧ w.cell? ⟨g, off + j * 8 + 1, none⟩ = some (I x.prio) ∧ w.cell? ⟨g, off + j * 8 + 2, none⟩ = some (.bool x.full) ∧ w.cell? ⟨g, off + j * 8 + 3, none⟩ = some (I x.act) ∧ w.cell? ⟨g, off + j * 8 + 4, none⟩ = some (.slice s4.a s4.n s4.c) ∧ w.cell? ⟨g, off + j * 8 + 5, none⟩ = some (.slice s5.a s5.n s5.c) ∧ w.cell? ⟨g, off + j * 8 + 6, none⟩ = some (.slice s6.a s6.n s6.c) ∧ w.cell? ⟨g, off + j * 8 + 7, none⟩ = some (.slice s7.a s7.n s7.c) ∧ RowsAt w 1 intP s4 x.auto ∧ RowsAt w 1 intP s5 x.res ∧ RowsAt w 1 intP s6 x.evs ∧ RowsAt w 1 intP s7 x.msgs := by
 obtain ⟨g, off, e, hg, hr⟩ := h.t.row j x hj
 obtain ⟨u0, a0, b0⟩ := hr 0 (by omega)
 have e0 : u0 = S x.name := b0
 rw [e0] at a0
 obtain ⟨u1, a1, b1⟩ := hr 1 (by omega)
 have e1 : u1 = I x.prio := b1
 rw [e1] at a1
 obtain ⟨u2, a2, b2⟩ := hr 2 (by omega)
 have e2 : u2 = .bool x.full := b2
 rw [e2] at a2
 obtain ⟨u3, a3, b3⟩ := hr 3 (by omega)
 have e3 : u3 = I x.act := b3
 rw [e3] at a3
 obtain ⟨u4, a4, b4⟩ := hr 4 (by omega)
 obtain ⟨s4, e4, r4⟩ := (show IntsV w x.auto u4 from b4)
 rw [e4] at a4
 obtain ⟨u5, a5, b5⟩ := hr 5 (by omega)
 obtain ⟨s5, e5, r5⟩ := (show IntsV w x.res u5 from b5)
 rw [e5] at a5
 obtain ⟨u6, a6, b6⟩ := hr 6 (by omega)
 obtain ⟨s6, e6, r6⟩ := (show IntsV w x.evs u6 from b6)
 rw [e6] at a6
 obtain ⟨u7, a7, b7⟩ := hr 7 (by omega)
 obtain ⟨s7, e7, r7⟩ := (show IntsV w x.msgs u7 from b7)
 rw [e7] at a7
 rw [Nat.add_zero] at a0
 exact ⟨g, off, s4, s5, s6, s7, e, hg, a0, a1, a2, a3, a4, a5, a6, a7, r4, r5, r6, r7⟩
theorem is_at {w : World} {c : Cf} {v : Vs} (h : CfAt w c v) {j : Nat} {x : Is} (hj : c.isrs[j]? = some x) : ∃ (g off : Nat) (s3 s4 : Sl), v.i.a = some ⟨g, off, none⟩ ∧ g < w.heap.size ∧ w.cell? ⟨g, off + j * 5, none⟩ = some (S x.name) ∧ w.cell? ⟨g, off + j * 5 + 1, none⟩ = some (I x.cat) ∧ w.cell? ⟨g, off + j * 5 + 2, none⟩ = some (I x.prio) ∧ w.cell? ⟨g, off + j * 5 + 3, none⟩ = some (.slice s3.a s3.n s3.c) ∧ w.cell? ⟨g, off + j * 5 + 4, none⟩ = some (.slice s4.a s4.n s4.c) ∧ RowsAt w 1 intP s3 x.res ∧ RowsAt w 1 intP s4 x.msgs := by
 obtain ⟨g, off, e, hg, hr⟩ := h.i.row j x hj
 obtain ⟨u0, a0, b0⟩ := hr 0 (by omega)
 have e0 : u0 = S x.name := b0
 rw [e0] at a0
 obtain ⟨u1, a1, b1⟩ := hr 1 (by omega)
 have e1 : u1 = I x.cat := b1
 rw [e1] at a1
 obtain ⟨u2, a2, b2⟩ := hr 2 (by omega)
 have e2 : u2 = I x.prio := b2
 rw [e2] at a2
 obtain ⟨u3, a3, b3⟩ := hr 3 (by omega)
 obtain ⟨s3, e3, r3⟩ := (show IntsV w x.res u3 from b3)
 rw [e3] at a3
 obtain ⟨u4, a4, b4⟩ := hr 4 (by omega)
 obtain ⟨s4, e4, r4⟩ := (show IntsV w x.msgs u4 from b4)
 rw [e4] at a4
 rw [Nat.add_zero] at a0
 exact ⟨g, off, s3, s4, e, hg, a0, a1, a2, a3, a4, r3, r4⟩
end Go.Proofs.YtmidaeljeoifdaaGreatDoor.Ce
