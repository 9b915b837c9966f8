import Derived.Test.YtpbnpmeigdjfdaaGreatDoorXKrs
namespace Go.Proofs.YtpbnpmeigdjfdaaGreatDoor
open Go.RowKit
set_option linter.unusedSimpArgs false
set_option linter.unusedVariables false
set_option maxHeartbeats 16000000
set_option maxRecDepth 100000
theorem rs_at {w : World} {c : Cf} {v : Vs} (h : CfAt w c v) {j : Nat} {x : Rs} (hj : c.ress[j]? = some x) : ∃ (g off : Nat), v.r.a = some ⟨g, off, none⟩ ∧ g < w.heap.size ∧ w.cell? ⟨g, off + j * 3, none⟩ = some (S x.name) ∧ w.cell? ⟨g, off + j * 3 + 1, none⟩ = some (I x.kind) ∧ w.cell? ⟨g, off + j * 3 + 2, none⟩ = some (I x.link) := by
 obtain ⟨g, off, e, hg, hr⟩ := h.r.row j x hj
 obtain ⟨u0, a0, b0⟩ := hr 0 (by omega)
 have e0 : u0 = S x.name := b0
 rw [e0] at a0
 obtain ⟨u1, a1, b1⟩ := hr 1 (by omega)
 have e1 : u1 = I x.kind := b1
 rw [e1] at a1
 obtain ⟨u2, a2, b2⟩ := hr 2 (by omega)
 have e2 : u2 = I x.link := b2
 rw [e2] at a2
 rw [Nat.add_zero] at a0
 exact ⟨g, off, e, hg, a0, a1, a2⟩
theorem ev_at {w : World} {c : Cf} {v : Vs} (h : CfAt w c v) {j : Nat} {x : Ev} (hj : c.evs[j]? = some x) : ∃ (g off : Nat), v.e.a = some ⟨g, off, none⟩ ∧ g < w.heap.size ∧ w.cell? ⟨g, off + j * 3, none⟩ = some (S x.name) ∧ w.cell? ⟨g, off + j * 3 + 1, none⟩ = some (.int .u32 (x.mask : Int)) ∧ w.cell? ⟨g, off + j * 3 + 2, none⟩ = some (.bool x.auto) := by
 obtain ⟨g, off, e, hg, hr⟩ := h.e.row j x hj
 obtain ⟨u0, a0, b0⟩ := hr 0 (by omega)
 have e0 : u0 = S x.name := b0
 rw [e0] at a0
 obtain ⟨u1, a1, b1⟩ := hr 1 (by omega)
 have e1 : u1 = .int .u32 (x.mask : Int) := b1
 rw [e1] at a1
 obtain ⟨u2, a2, b2⟩ := hr 2 (by omega)
 have e2 : u2 = .bool x.auto := b2
 rw [e2] at a2
 rw [Nat.add_zero] at a0
 exact ⟨g, off, e, hg, a0, a1, a2⟩
theorem ct_at {w : World} {c : Cf} {v : Vs} (h : CfAt w c v) {j : Nat} {x : Ct} (hj : c.ctrs[j]? = some x) : ∃ (g off : Nat), v.k.a = some ⟨g, off, none⟩ ∧ g < w.heap.size ∧ w.cell? ⟨g, off + j * 4, none⟩ = some (S x.name) ∧ w.cell? ⟨g, off + j * 4 + 1, none⟩ = some (.int .u32 (x.max : Int)) ∧ w.cell? ⟨g, off + j * 4 + 2, none⟩ = some (.int .u32 (x.base : Int)) ∧ w.cell? ⟨g, off + j * 4 + 3, none⟩ = some (.int .u32 (x.min : Int)) := by
 obtain ⟨g, off, e, hg, hr⟩ := h.k.row j x hj
 obtain ⟨u0, a0, b0⟩ := hr 0 (by omega)
 have e0 : u0 = S x.name := b0
 rw [e0] at a0
 obtain ⟨u1, a1, b1⟩ := hr 1 (by omega)
 have e1 : u1 = .int .u32 (x.max : Int) := b1
 rw [e1] at a1
 obtain ⟨u2, a2, b2⟩ := hr 2 (by omega)
 have e2 : u2 = .int .u32 (x.base : Int) := b2
 rw [e2] at a2
 obtain ⟨u3, a3, b3⟩ := hr 3 (by omega)
 have e3 : u3 = .int .u32 (x.min : Int) := b3
 rw [e3] at a3
 rw [Nat.add_zero] at a0
 exact ⟨g, off, e, hg, a0, a1, a2, a3⟩
theorem tk_at {w : World} {c : Cf} {v : Vs} (h : CfAt w c v) {j : Nat} {x : Tk} (hj : c.tasks[j]? = some x) : ∃ (g off : Nat) (s4 s5 s6 s7 : Sl), v.t.a = some ⟨g, off, none⟩ ∧ g < w.heap.size ∧ w.cell? ⟨g, off + j * 8, none⟩ = some (S x.name) ∧ w.cell? ⟨g, off + j * 8 + 1, none⟩ = some (I x.prio) ∧ w.cell? ⟨g, off + j * 8 + 2, none⟩ = some (.bool x.full) ∧ w.cell? ⟨g, off + j * 8 + 3, none⟩ = some (I x.act) ∧ w.cell? ⟨g, off + j * 8 + 4, none⟩ = some (.slice s4.a s4.n s4.c) ∧ w.cell? ⟨g, off + j * 8 + 5, none⟩ = some (.slice s5.a s5.n s5.c) ∧ w.cell? ⟨g, off + j * 8 + 6, none⟩ = some (.slice s6.a s6.n s6.c) ∧ w.cell? ⟨g, off + j * 8 + 7, none⟩ = some (.slice s7.a s7.n s7.c) ∧ RowsAt w 1 intP s4 x.auto ∧ RowsAt w 1 intP s5 x.res ∧ RowsAt w 1 intP s6 x.evs ∧ RowsAt w 1 intP s7 x.msgs := by
 obtain ⟨g, off, e, hg, hr⟩ := h.t.row j x hj
 obtain ⟨u0, a0, b0⟩ := hr 0 (by omega)
 have e0 : u0 = S x.name := b0
 rw [e0] at a0
 obtain ⟨u1, a1, b1⟩ := hr 1 (by omega)
 have e1 : u1 = I x.prio := b1
 rw [e1] at a1
 obtain ⟨u2, a2, b2⟩ := hr 2 (by omega)
 have e2 : u2 = .bool x.full := b2
 rw [e2] at a2
 obtain ⟨u3, a3, b3⟩ := hr 3 (by omega)
 have e3 : u3 = I x.act := b3
 rw [e3] at a3
 obtain ⟨u4, a4, b4⟩ := hr 4 (by omega)
 obtain ⟨s4, e4, r4⟩ := (show IntsV w x.auto u4 from b4)
 rw [e4] at a4
 obtain ⟨u5, a5, b5⟩ := hr 5 (by omega)
 obtain ⟨s5, e5, r5⟩ := (show IntsV w x.res u5 from b5)
 rw [e5] at a5
 obtain ⟨u6, a6, b6⟩ := hr 6 (by omega)
 obtain ⟨s6, e6, r6⟩ := (show IntsV w x.evs u6 from b6)
 rw [e6] at a6
 obtain ⟨u7, a7, b7⟩ := hr 7 (by omega)
 obtain ⟨s7, e7, r7⟩ := (show IntsV w x.msgs u7 from b7)
 rw [e7] at a7
 rw [Nat.add_zero] at a0
 exact ⟨g, off, s4, s5, s6, s7, e, hg, a0, a1, a2, a3, a4, a5, a6, a7, r4, r5, r6, r7⟩
theorem al_at {w : World} {c : Cf} {v : Vs} (h : CfAt w c v) {j : Nat} {x : Al} (hj : c.als[j]? = some x) : ∃ (g off : Nat) (s6 : Sl), v.a.a = some ⟨g, off, none⟩ ∧ g < w.heap.size ∧ w.cell? ⟨g, off + j * 9, none⟩ = some (S x.name) ∧ w.cell? ⟨g, off + j * 9 + 1, none⟩ = some (I x.ctr) ∧ w.cell? ⟨g, off + j * 9 + 2, none⟩ = some (I x.ac.kind) ∧ w.cell? ⟨g, off + j * 9 + 3, none⟩ = some (I x.ac.task) ∧ w.cell? ⟨g, off + j * 9 + 4, none⟩ = some (I x.ac.event) ∧ w.cell? ⟨g, off + j * 9 + 5, none⟩ = some (S x.ac.name) ∧ w.cell? ⟨g, off + j * 9 + 6, none⟩ = some (.slice s6.a s6.n s6.c) ∧ w.cell? ⟨g, off + j * 9 + 7, none⟩ = some (.int .u32 (x.time : Int)) ∧ w.cell? ⟨g, off + j * 9 + 8, none⟩ = some (.int .u32 (x.cycle : Int)) ∧ RowsAt w 1 intP s6 x.auto := by
 obtain ⟨g, off, e, hg, hr⟩ := h.a.row j x hj
 obtain ⟨u0, a0, b0⟩ := hr 0 (by omega)
 have e0 : u0 = S x.name := b0
 rw [e0] at a0
 obtain ⟨u1, a1, b1⟩ := hr 1 (by omega)
 have e1 : u1 = I x.ctr := b1
 rw [e1] at a1
 obtain ⟨u2, a2, b2⟩ := hr 2 (by omega)
 have e2 : u2 = I x.ac.kind := b2
 rw [e2] at a2
 obtain ⟨u3, a3, b3⟩ := hr 3 (by omega)
 have e3 : u3 = I x.ac.task := b3
 rw [e3] at a3
 obtain ⟨u4, a4, b4⟩ := hr 4 (by omega)
 have e4 : u4 = I x.ac.event := b4
 rw [e4] at a4
 obtain ⟨u5, a5, b5⟩ := hr 5 (by omega)
 have e5 : u5 = S x.ac.name := b5
 rw [e5] at a5
 obtain ⟨u6, a6, b6⟩ := hr 6 (by omega)
 obtain ⟨s6, e6, r6⟩ := (show IntsV w x.auto u6 from b6)
 rw [e6] at a6
 obtain ⟨u7, a7, b7⟩ := hr 7 (by omega)
 have e7 : u7 = .int .u32 (x.time : Int) := b7
 rw [e7] at a7
 obtain ⟨u8, a8, b8⟩ := hr 8 (by omega)
 have e8 : u8 = .int .u32 (x.cycle : Int) := b8
 rw [e8] at a8
 rw [Nat.add_zero] at a0
 exact ⟨g, off, s6, e, hg, a0, a1, a2, a3, a4, a5, a6, a7, a8, r6⟩
theorem is_at {w : World} {c : Cf} {v : Vs} (h : CfAt w c v) {j : Nat} {x : Is} (hj : c.isrs[j]? = some x) : ∃ (g off : Nat) (s3 s4 : Sl), v.i.a = some ⟨g, off, none⟩ ∧ g < w.heap.size ∧ w.cell? ⟨g, off + j * 5, none⟩ = some (S x.name) ∧ w.cell? ⟨g, off + j * 5 + 1, none⟩ = some (I x.cat) ∧ w.cell? ⟨g, off + j * 5 + 2, none⟩ = some (I x.prio) ∧ w.cell? ⟨g, off + j * 5 + 3, none⟩ = some (.slice s3.a s3.n s3.c) ∧ w.cell? ⟨g, off + j * 5 + 4, none⟩ = some (.slice s4.a s4.n s4.c) ∧ RowsAt w 1 intP s3 x.res ∧ RowsAt w 1 intP s4 x.msgs := by
 obtain ⟨g, off, e, hg, hr⟩ := h.i.row j x hj
 obtain ⟨u0, a0, b0⟩ := hr 0 (by omega)
 have e0 : u0 = S x.name := b0
 rw [e0] at a0
 obtain ⟨u1, a1, b1⟩ := hr 1 (by omega)
 have e1 : u1 = I x.cat := b1
 rw [e1] at a1
 obtain ⟨u2, a2, b2⟩ := hr 2 (by omega)
 have e2 : u2 = I x.prio := b2
 rw [e2] at a2
 obtain ⟨u3, a3, b3⟩ := hr 3 (by omega)
 obtain ⟨s3, e3, r3⟩ := (show IntsV w x.res u3 from b3)
 rw [e3] at a3
 obtain ⟨u4, a4, b4⟩ := hr 4 (by omega)
 obtain ⟨s4, e4, r4⟩ := (show IntsV w x.msgs u4 from b4)
 rw [e4] at a4
 rw [Nat.add_zero] at a0
 exact ⟨g, off, s3, s4, e, hg, a0, a1, a2, a3, a4, r3, r4⟩
theorem ms_at {w : World} {c : Cf} {v : Vs} (h : CfAt w c v) {j : Nat} {x : Ms} (hj : c.msgs[j]? = some x) : ∃ (g off : Nat), v.s.a = some ⟨g, off, none⟩ ∧ g < w.heap.size ∧ w.cell? ⟨g, off + j * 10, none⟩ = some (S x.name) ∧ w.cell? ⟨g, off + j * 10 + 1, none⟩ = some (I x.kind) ∧ w.cell? ⟨g, off + j * 10 + 2, none⟩ = some (I x.len) ∧ w.cell? ⟨g, off + j * 10 + 3, none⟩ = some (I x.frm) ∧ w.cell? ⟨g, off + j * 10 + 4, none⟩ = some (.int .u64 (x.init : Int)) ∧ w.cell? ⟨g, off + j * 10 + 5, none⟩ = some (I x.queue) ∧ w.cell? ⟨g, off + j * 10 + 6, none⟩ = some (I x.ac.kind) ∧ w.cell? ⟨g, off + j * 10 + 7, none⟩ = some (I x.ac.task) ∧ w.cell? ⟨g, off + j * 10 + 8, none⟩ = some (I x.ac.event) ∧ w.cell? ⟨g, off + j * 10 + 9, none⟩ = some (S x.ac.name) := by
 obtain ⟨g, off, e, hg, hr⟩ := h.s.row j x hj
 obtain ⟨u0, a0, b0⟩ := hr 0 (by omega)
 have e0 : u0 = S x.name := b0
 rw [e0] at a0
 obtain ⟨u1, a1, b1⟩ := hr 1 (by omega)
 have e1 : u1 = I x.kind := b1
 rw [e1] at a1
 obtain ⟨u2, a2, b2⟩ := hr 2 (by omega)
 have e2 : u2 = I x.len := b2
 rw [e2] at a2
 obtain ⟨u3, a3, b3⟩ := hr 3 (by omega)
 have e3 : u3 = I x.frm := b3
 rw [e3] at a3
 obtain ⟨u4, a4, b4⟩ := hr 4 (by omega)
 have e4 : u4 = .int .u64 (x.init : Int) := b4
 rw [e4] at a4
 obtain ⟨u5, a5, b5⟩ := hr 5 (by omega)
 have e5 : u5 = I x.queue := b5
 rw [e5] at a5
 obtain ⟨u6, a6, b6⟩ := hr 6 (by omega)
 have e6 : u6 = I x.ac.kind := b6
 rw [e6] at a6
 obtain ⟨u7, a7, b7⟩ := hr 7 (by omega)
 have e7 : u7 = I x.ac.task := b7
 rw [e7] at a7
 obtain ⟨u8, a8, b8⟩ := hr 8 (by omega)
 have e8 : u8 = I x.ac.event := b8
 rw [e8] at a8
 obtain ⟨u9, a9, b9⟩ := hr 9 (by omega)
 have e9 : u9 = S x.ac.name := b9
 rw [e9] at a9
 rw [Nat.add_zero] at a0
 exact ⟨g, off, e, hg, a0, a1, a2, a3, a4, a5, a6, a7, a8, a9⟩
def Ans (w : World) (b : Bool) (e : Ending) (w' : World) : Prop := e = .returned (.bool b) ∧ Below w.heap.size w w'
theorem resourceHasKind_any (w : World) (c : Cf) (v : Vs) (h : CfAt w c v) (i : Nat) (x : Rs) (hi : c.ress[i]? = some x) :
  Calls Tryz.prog 114 #[.agg (cfC c v), I i] w fun e w' => Ans w (inR x.kind 1 3) e w' := by
 have hn : v.r.n = c.ress.length := h.r.n
 have hlt : (i : Int) < v.r.n := by have := (List.getElem?_eq_some_iff.1 hi).1; omega
 obtain ⟨g, off, e, hg, a0, a1, a2⟩ := rs_at h hi
 have hne : g ≠ w.heap.size := by omega
 have c1 := within_rk x.kind 1 3
 have hb := below_alloc w (.cells (cfC c v) 33)
 unfold cfC at *
 rw [e] at *
 clear hi hn
 go_enter Tryz.func114, Tryz.ntmps114
 go_wp2_with (first | (go_at_call 164; refine (c1 _).mono ?_; rintro e w' ⟨rfl, rfl⟩))
 go_ret
 exact ⟨rfl, hb⟩
theorem linkIsUsed_any (w : World) (c : Cf) (v : Vs) (h : CfAt w c v) (i : Nat) (x : Rs) (hi : c.ress[i]? = some x) :
  Calls Tryz.prog 115 #[.agg (cfC c v), I i] w fun e w' => Ans w (x.kind == 2 || x.link == 0) e w' := by
 have hn : v.r.n = c.ress.length := h.r.n
 have hlt : (i : Int) < v.r.n := by have := (List.getElem?_eq_some_iff.1 hi).1; omega
 obtain ⟨g, off, e, hg, a0, a1, a2⟩ := rs_at h hi
 have hne : g ≠ w.heap.size := by omega
 have hb := below_alloc w (.cells (cfC c v) 33)
 unfold cfC at *
 rw [e] at *
 clear hi hn
 generalize hk1 : (x.kind == 2) = b1 at *
 cases b1 <;> (go_enter Tryz.func115, Tryz.ntmps115; go_wp2; go_ret; exact ⟨by simp, hb.trans (below_alloc _ _ |>.mono hb.size)⟩)
def rkind (c : Cf) (r : Int) : Int := match c.ress[r.toNat]? with | some x => x.kind | none => 0
def rlink (c : Cf) (r : Int) : Int := match c.ress[r.toNat]? with | some x => x.link | none => 0
def rootF (c : Cf) : Nat → Int → Int
 | 0, _ => -1
 | f + 1, r => if isId r c.ress.length = true then (if rkind c r = 2 then rootF c f (rlink c r) else r) else -1
theorem rootF_lt (c : Cf) : ∀ (f : Nat) (r : Int), rootF c f r < c.ress.length
 | 0, r => by rw [rootF]; omega
 | f + 1, r => by
  rw [rootF]
  split
  ·rename_i h
   split
   ·exact rootF_lt c f _
   ·simp [isId] at h; exact h.2
  ·omega
theorem root_any (w : World) (c : Cf) (v : Vs) (h : CfAt w c v) (r : Int) :
  Calls Tryz.prog 166 #[.agg (cfC c v), I r] w fun e w' => e = .returned (I (rootF c c.ress.length r)) ∧ Below w.heap.size w w' := by
 have hn : v.r.n = c.ress.length := h.r.n
 have hc : v.r.n ≤ v.r.c := h.r.c
 have hm : v.r.c ≤ maxLen := h.r.m
 unfold maxLen at hm
 have HN : Hid (v.r.n = c.ress.length) := hn
 clear hn
 have hb := below_alloc w
 unfold cfC at *
 go_enter Tryz.func166, Tryz.ntmps166
 go_wp2
 go_loop [1, 8] (fun r1 i => ∃ (j : Nat) (ρ : Int), j ≤ v.r.n ∧ i = .int .i64 j ∧ r1 = .int .i64 ρ ∧ Hid (rootF c c.ress.length r = rootF c (v.r.n - j) ρ)) (fun _ i => v.r.n - (intOf i).toNat)
 case atStart => exact ⟨0, r, by omega, rfl, rfl, by show _ = _; rw [Nat.sub_zero, HN.out]⟩
 case round =>
  obtain ⟨j, ρ, hj, rfl, rfl, HR⟩ := hrel
  by_cases hlt : j < v.r.n
  ·have hlt' : (j : Int) < v.r.n := by omega
   have c1 := isID_any ρ v.r.n
   have HE : Hid (rootF c c.ress.length r = if isId ρ v.r.n = true then (if rkind c ρ = 2 then rootF c (v.r.n - (j + 1)) (rlink c ρ) else ρ) else -1) := by
    show _ = _
    rw [HR.out, show v.r.n - j = (v.r.n - (j + 1)) + 1 by omega, rootF, HN.out]
   clear HR
   cases hb1 : isId ρ v.r.n with
   | false =>
    rw [hb1] at c1
    have HE2 : Hid (rootF c c.ress.length r = -1) := by show _ = _; rw [HE.out, hb1]; rfl
    clear HE
    go_wp2_with (first | (go_at_call 165; refine (c1 _).mono ?_; rintro e w' ⟨rfl, rfl⟩))
    go_ret
    exact ⟨ret_int HE2.out.symm, hb _⟩
   | true =>
    have hr : 0 ≤ ρ ∧ ρ < v.r.n := by simpa [isId] using hb1
    obtain ⟨q, rfl⟩ := Int.eq_ofNat_of_zero_le hr.1
    have hql : q < c.ress.length := by rw [← HN.out]; omega
    obtain ⟨x, hx⟩ : ∃ x, c.ress[q]? = some x := ⟨_, List.getElem?_eq_getElem hql⟩
    obtain ⟨g, off, e, hg, a0, a1, a2⟩ := rs_at h hx
    have hne : g ≠ w.heap.size := by omega
    have hq' : (q : Int) < v.r.n := hr.2
    have k1 : rkind c (q : Int) = x.kind := by simp [rkind, hx]
    have k2 : rlink c (q : Int) = x.link := by simp [rlink, hx]
    rw [hb1, k1, k2] at HE
    rw [hb1] at c1
    rw [e] at *
    clear hx hql hr k1 k2 hb1
    cases hk : x.kind == 2 with
    | true =>
     have HE2 : Hid (rootF c c.ress.length r = rootF c (v.r.n - (j + 1)) x.link) := by show _ = _; rw [HE.out, if_pos rfl, if_pos (by simpa using hk)]
     clear HE
     go_wp2_with (first | (go_at_call 165; refine (c1 _).mono ?_; rintro e w' ⟨rfl, rfl⟩))
     go_round
     case rel => exact ⟨j + 1, x.link, by omega, by go_num, rfl, HE2⟩
     case measure => simp [intOf]; omega
    | false =>
     have HE2 : Hid (rootF c c.ress.length r = q) := by show _ = _; rw [HE.out, if_pos rfl, if_neg (by simpa using hk)]
     clear HE
     go_wp2_with (first | (go_at_call 165; refine (c1 _).mono ?_; rintro e w' ⟨rfl, rfl⟩))
     go_ret
     exact ⟨ret_int HE2.out.symm, hb _⟩
  ·obtain rfl : j = v.r.n := by omega
   have hlt' : ¬ ((v.r.n : Nat) : Int) < (v.r.n : Nat) := by omega
   have HE2 : Hid (rootF c c.ress.length r = -1) := by show _ = _; rw [HR.out, Nat.sub_self, rootF]
   go_wp2
   go_ret
   exact ⟨ret_int HE2.out.symm, hb _⟩
end Go.Proofs.YtpbnpmeigdjfdaaGreatDoor
