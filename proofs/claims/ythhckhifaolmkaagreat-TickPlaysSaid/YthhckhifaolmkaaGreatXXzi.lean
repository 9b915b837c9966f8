import Derived.Test.YthhckhifaolmkaaGreatXXzf
import Derived.Deep.CutRange
namespace Go.Proofs.YthhckhifaolmkaaGreat
open Go.RowKit Go.Shelf Go.Sort
open Go.Proofs.YthhckhifaolmkaaGreat.Cl (Fx Fz Ck Cb Alm psA dueA dueF U Q cP own_sl own_some own_below own_base inL ret_bool ret_int heap_lt iinfo cell_one_new take_snoc aftN)
set_option linter.unusedVariables false
set_option linter.unusedSimpArgs false

/-! ### Lists: what Tick, Next and Auto of the document's board do -/
theorem aft_one {m v : Nat} (hm : 1 ≤ m) (hv : v ≤ m) : aftN m v 1 = if v = m then 0 else v + 1 := by
  unfold aftN
  rw [Nat.min_eq_left hv, Nat.mod_eq_of_lt (by omega : 1 < m + 1)]
  by_cases h : v = m
  · subst h; rw [if_pos rfl, Nat.mod_self]
  · rw [if_neg h, Nat.mod_eq_of_lt (by omega)]
/-- the alarms below k have passed -/
def psK (tb : Tb) (a : Nat → Alm) (c k : Nat) : Nat → Alm := fun j => if j < k then psF tb a c j else a j
theorem psK_zero (tb : Tb) (a : Nat → Alm) (c : Nat) : psK tb a c 0 = a := by funext j; simp [psK]
theorem psK_at (tb : Tb) (a : Nat → Alm) (c k : Nat) : psK tb a c k k = a k := by simp [psK]
theorem psK_succ (tb : Tb) (a : Nat → Alm) (c k : Nat) : psK tb a c (k + 1) = upN (psK tb a c k) k (psF tb a c k) := by
  funext j
  unfold psK upN
  by_cases h : j = k
  · subst h; simp
  · rw [if_neg h]
    dsimp only
    by_cases h2 : j < k
    · rw [if_pos h2, if_pos (by omega)]
    · rw [if_neg h2, if_neg (by omega)]
theorem psK_same {tb : Tb} {a : Nat → Alm} {c k : Nat} (h : psF tb a c k = a k) : psK tb a c (k + 1) = psK tb a c k := by
  rw [psK_succ, h, ← psK_at tb a c k, upN_self]
theorem psF_off {tb : Tb} {a : Nat → Alm} {c k : Nat} (h : (a k).1 = 0 ∨ ctrN tb k ≠ c) : psF tb a c k = a k := by
  unfold psF
  rcases h with h | h
  · split
    · unfold psA; rw [if_pos h]
    · rfl
  · rw [if_neg h]
theorem psF_on {tb : Tb} {a : Nat → Alm} {c k : Nat} (h : (a k).1 ≠ 0) (hc : ctrN tb k = c) : psF tb a c k = if (a k).1 - 1 = 0 then ((a k).2, (a k).2) else ((a k).1 - 1, (a k).2) := by
  unfold psF
  rw [if_pos hc]
  unfold psA
  rw [if_neg h]
def expK (tb : Tb) (a : Nat → Alm) (c k : Nat) : List Nat := (idxT tb c k).filter (fun j => dueA 1 (a j))
theorem expK_zero (tb : Tb) (a : Nat → Alm) (c : Nat) : expK tb a c 0 = [] := rfl
theorem expK_all (tb : Tb) (a : Nat → Alm) (c : Nat) : expK tb a c tb.als.length = expL tb a c := rfl
theorem expK_off {tb : Tb} {a : Nat → Alm} {c k : Nat} (h : (a k).1 = 0 ∨ ctrN tb k ≠ c ∨ (a k).1 - 1 ≠ 0) : expK tb a c (k + 1) = expK tb a c k := by
  unfold expK
  rw [idxT_succ, List.filter_append]
  by_cases hc : ctrN tb k = c
  · rw [if_pos hc]
    have : dueA 1 (a k) = false := by
      unfold dueA
      rcases h with h | h | h
      · simp [h]
      · exact absurd hc h
      · simp; omega
    simp [this]
  · rw [if_neg hc]; simp
theorem expK_on {tb : Tb} {a : Nat → Alm} {c k : Nat} (h : (a k).1 = 1) (hc : ctrN tb k = c) : expK tb a c (k + 1) = expK tb a c k ++ [k] := by
  unfold expK
  rw [idxT_succ, List.filter_append, if_pos hc]
  have : dueA 1 (a k) = true := by unfold dueA; simp [h]
  simp [this]
theorem expK_len (tb : Tb) (a : Nat → Alm) (c k : Nat) : (expK tb a c k).length ≤ k := Nat.le_trans (List.length_filter_le _ _) (idxT_len tb c k)
theorem nxL_inv (tb : Tb) (q : Nat → Nat) (g : Gt) (l : Int) : ∀ k, ((nxL tb q g l k).1 = -1 ∧ (nxL tb q g l k).2 = l) ∨ ∃ j, j < k ∧ (nxL tb q g l k).1 = (j : Int) ∧ (nxL tb q g l k).2 = (isK tb j).prio ∧ l < (isK tb j).prio
  | 0 => .inl ⟨rfl, rfl⟩
  | k + 1 => by
    rw [nxL_succ]
    unfold nxS
    have ih := nxL_inv tb q g l k
    split
    · rename_i h
      refine .inr ⟨k, by omega, rfl, rfl, ?_⟩
      simp at h
      rcases ih with ⟨-, e⟩ | ⟨j, -, -, e, hj⟩
      · rw [e] at h; exact h.2.1
      · rw [e] at h; omega
    · rcases ih with e | ⟨j, hj, e⟩
      · exact .inl e
      · exact .inr ⟨j, by omega, e⟩
theorem and_bit (x m : Nat) (hx : x < 4294967296) (hm : m < 32) : (bits BinOp.and IntKind.u32 (x : Int) (((2 ^ m : Nat) : Int)) != 0) = x.testBit m := by
  have hp : 2 ^ m < 4294967296 := Nat.lt_of_lt_of_le (Nat.pow_lt_pow_right (by omega) hm) (by decide)
  have hlt : x &&& 2 ^ m < 4294967296 := Nat.lt_of_le_of_lt Nat.and_le_left hx
  have e : bits BinOp.and IntKind.u32 (x : Int) (((2 ^ m : Nat) : Int)) = ((x &&& 2 ^ m : Nat) : Int) := by
    show IntKind.u32.wrap ((BitVec.ofInt 32 (x : Int) &&& BitVec.ofInt 32 ((2 ^ m : Nat) : Int)).toNat : Int) = _
    have e1 : (BitVec.ofInt 32 (x : Int) &&& BitVec.ofInt 32 ((2 ^ m : Nat) : Int)).toNat = x &&& 2 ^ m := by
      rw [BitVec.toNat_and, BitVec.ofInt_natCast, BitVec.ofInt_natCast, BitVec.toNat_ofNat, BitVec.toNat_ofNat, Nat.mod_eq_of_lt (by omega), Nat.mod_eq_of_lt (by omega)]
    rw [e1]
    exact Cl.w32 (by omega) (by omega)
  rw [e]
  cases hb : x.testBit m with
  | true =>
    have : (x &&& 2 ^ m).testBit m = true := by rw [Nat.testBit_and, hb, Nat.testBit_two_pow_self]; rfl
    have h0 : x &&& 2 ^ m ≠ 0 := fun e0 => by rw [e0] at this; simp at this
    simp [h0]
  | false =>
    have h0 : x &&& 2 ^ m = 0 := by
      apply Nat.eq_of_testBit_eq
      intro i
      rw [Nat.testBit_and, Nat.testBit_two_pow, Nat.zero_testBit]
      by_cases hi : m = i
      · subst hi; simp [hb]
      · simp [hi]
    rw [h0]
    rfl
theorem pow_u32 {m : Nat} (hm : m < 32) : IntKind.u32.wrap ((2 : Int) ^ m) = ((2 ^ m : Nat) : Int) := by
  have hp : 2 ^ m < 4294967296 := Nat.lt_of_lt_of_le (Nat.pow_lt_pow_right (by omega) hm) (by decide)
  have e : ((2 : Int) ^ m) = ((2 ^ m : Nat) : Int) := by norm_cast
  rw [e]
  generalize 2 ^ m = z at *
  exact Cl.w32 (by omega) (by omega)
section
variable {W0 w w' : World} {tb : Tb} {v : Ts} {P : Nat} {vv va vr : Sl} {s : Bs}
theorem Dd.lo (h : Dd W0 w tb v P vv va vr s) : ∀ b, Dm P vv va vr b → W0.heap.size ≤ b ∧ b < w.heap.size := by
  rintro b (rfl | e | e | e)
  · exact ⟨h.p, heap_lt h.o⟩
  · exact h.v.lt b e
  · exact h.a.lt b e
  · exact h.r.lt b e
theorem Dd.congrA (h : Dd W0 w tb v P vv va vr s) {a : Nat → Alm} (e : ∀ j, j < tb.als.length → a j = s.a j) : Dd W0 w tb v P vv va vr ⟨s.v, a, s.q⟩ :=
  ⟨h.o, h.t0, h.b, h.p, h.v, by rw [flat_congr (f := lkF ⟨s.v, a, s.q⟩) (g := lkF s) (fun i hi => by unfold lkF; simp only [e i hi])]; exact h.a, h.r, ⟨h.d.ok, h.d.v, fun j hj => by show (a j).1 ≤ _ ∧ (a j).2 ≤ _; rw [e j hj]; exact h.d.a j hj, fun j hj => by show (a j).1 = 0 → (a j).2 = 0; rw [e j hj]; exact h.d.l j hj⟩⟩
/-- the row of alarms holds whatever L says -/
structure Dx (W0 w : World) (tb : Tb) (v : Ts) (P : Nat) (vv va vr : Sl) (s : Bs) (L : List Value) : Prop where
  o : w.heap[P]? = some (.cells (dbC tb v vv va vr) 116)
  b : Below W0.heap.size W0 w
  v : w.ownsRow W0.heap.size 22 1 (slT vv) tb.ctrs.length (flat (valF s) tb.ctrs.length)
  a : w.ownsRow W0.heap.size 130 3 (slT va) tb.als.length L
  r : w.ownsRow W0.heap.size 4 1 (slT vr) tb.isrs.length (flat (rqF s) tb.isrs.length)
theorem Dd.x (h : Dd W0 w tb v P vv va vr s) : Dx W0 w tb v P vv va vr s (flat (lkF s) tb.als.length) := ⟨h.o, h.b, h.v, h.a, h.r⟩
theorem Dx.dd {s' : Bs} {L : List Value} (h : Dx W0 w tb v P vv va vr s' L) (t0 : TbAt W0 tb v) (hp : W0.heap.size ≤ P) (e : L = flat (lkF s) tb.als.length) (ev : flat (valF s') tb.ctrs.length = flat (valF s) tb.ctrs.length) (er : flat (rqF s') tb.isrs.length = flat (rqF s) tb.isrs.length) (d : OKd tb s) : Dd W0 w tb v P vv va vr s :=
  ⟨h.o, t0, h.b, hp, by rw [← ev]; exact h.v, by rw [← e]; exact h.a, by rw [← er]; exact h.r, d⟩
theorem Dx.set {L : List Value} {g c i : Nat} {x : Value} (h : Dx W0 w tb v P vv va vr s L) (e : slT va = .slice (some ⟨g, 0, none⟩) tb.als.length c) : Dx W0 (w.setCell ⟨g, i, none⟩ x) tb v P vv va vr s (L.set i x) ∧ Fz (Dm P vv va vr) w (w.setCell ⟨g, i, none⟩ x) := by
  have ha := h.a
  rw [e] at ha
  have hf : Fz (fun b => b = g) w (w.setCell ⟨g, i, none⟩ x) := (Fz.refl (fun b => b = g) w).set (.inl rfl) _ _
  have hg : (slT va).ownBlock = some g := by rw [e]; rfl
  have hg0 := (h.a.lt g hg).1
  exact ⟨⟨hf.heap h.o (fun e2 => heap_apart h.o h.a (by decide) (by rw [hg, ← e2])), h.b.trans (hf.below h.b.size (by rintro b rfl; exact hg0)), hf.own h.v (fun x e1 e2 => own_apart h.v h.a (by decide) e1 (by rw [hg, e2])), by rw [e]; exact (ha.stored i x).1, hf.own h.r (fun x e1 e2 => own_apart h.r h.a (by decide) e1 (by rw [hg, e2]))⟩, hf.mono (by rintro b rfl; exact .inr (.inr (.inl hg)))⟩
theorem Dx.keep {L : List Value} (h : Dx W0 w tb v P vv va vr s L) {M : Nat → Prop} (hf : Fz M w w') (hM : ∀ b, Dm P vv va vr b → ¬ M b) (hlo : ∀ b, M b → W0.heap.size ≤ b) : Dx W0 w' tb v P vv va vr s L :=
  ⟨hf.heap h.o (hM _ (.inl rfl)), h.b.trans (hf.below h.b.size hlo), hf.own h.v (fun g e => hM g (.inr (.inl e))), hf.own h.a (fun g e => hM g (.inr (.inr (.inl e)))), hf.own h.r (fun g e => hM g (.inr (.inr (.inr e))))⟩
/-- a counter's value is set anew -/
theorem Dd.putV {g c i V : Nat} (h : Dd W0 w tb v P vv va vr s) (hi : i < tb.ctrs.length) (e : slT vv = .slice (some ⟨g, 0, none⟩) tb.ctrs.length c) (hV : V ≤ (ctK tb i).max) : Dd W0 (w.setCell ⟨g, i, none⟩ (U V)) tb v P vv va vr ⟨upN s.v i V, s.a, s.q⟩ ∧ Fz (Dm P vv va vr) w (w.setCell ⟨g, i, none⟩ (U V)) := by
  have hr := h.v
  rw [e] at hr
  have o4 := (hr.stored i (U V)).1
  rw [flat_set1 (f := valF s) (g := valF ⟨upN s.v i V, s.a, s.q⟩) (fun _ => rfl) (fun _ => rfl) hi (fun j hj => by unfold valF; simp only [upN_ne _ _ hj]) (by unfold valF; simp only [upN_same])] at o4
  have hf : Fz (fun x => x = g) w (w.setCell ⟨g, i, none⟩ (U V)) := (Fz.refl (fun x => x = g) w).set (.inl rfl) _ _
  have hg : (slT vv).ownBlock = some g := by rw [e]; rfl
  have hg0 := (h.v.lt g hg).1
  refine ⟨⟨hf.heap h.o (fun e2 => heap_apart h.o h.v (by decide) (by rw [hg, ← e2])), h.t0, h.b.trans (hf.below h.b.size (by rintro x rfl; exact hg0)), h.p, by rw [e]; exact o4, hf.own h.a (fun x e1 e2 => own_apart h.a h.v (by decide) e1 (by rw [hg, e2])), hf.own h.r (fun x e1 e2 => own_apart h.r h.v (by decide) e1 (by rw [hg, e2])), ⟨h.d.ok, fun j hj => ?_, h.d.a, h.d.l⟩⟩, hf.mono (by rintro x rfl; exact .inr (.inl hg))⟩
  show upN s.v i V j ≤ _
  by_cases e2 : j = i
  · subst e2; rw [upN_same]; exact hV
  · rw [upN_ne _ _ e2]; exact h.d.v j hj
theorem Dd.vl2 (h : Dd W0 w tb v P vv va vr s) {j : Nat} (hj : j < tb.ctrs.length) : ∃ g c, slT vv = .slice (some ⟨g, 0, none⟩) tb.ctrs.length c ∧ w.cell? ⟨g, j, none⟩ = some (U (s.v j)) ∧ w.frozen? ⟨g, j, none⟩ = false := by
  obtain ⟨g, c, e⟩ := own_some h.v (by omega)
  have hc := h.v
  rw [e] at hc
  refine ⟨g, c, e, ?_, hc.frozenAt j⟩
  have := flat_at (f := valF s) (fun _ => rfl) (k := 1) (n := tb.ctrs.length) (j := 0) hj (by omega)
  rw [Nat.mul_one, Nat.add_zero] at this
  rw [hc.cellAt _ (by omega)]
  exact this
/-- a counter's row of the tables -/
theorem Dd.ctab (h : Dd W0 w tb v P vv va vr s) {i : Nat} (hi : i < tb.ctrs.length) : ∃ gc oc, v.k.a = some ⟨gc, oc, none⟩ ∧ v.k.n = tb.ctrs.length ∧ ∀ W, Below w.heap.size w W → W.cell? ⟨gc, oc + i * 3, none⟩ = some (U (ctK tb i).max) := by
  have hck : tb.ctrs[i]? = some (ctK tb i) := by unfold ctK; rw [List.getD_eq_getElem?_getD, List.getElem?_eq_getElem hi]; rfl
  obtain ⟨gc, oc, ec, -⟩ := ctr_at h.t0 hck
  refine ⟨gc, oc, ec, h.t0.k.n, fun W hb => ?_⟩
  obtain ⟨gc2, oc2, ec2, -, e0, e1, e2⟩ := ctr_at (h.t0.below (h.b.trans (hb.mono h.b.size))) hck
  rw [ec] at ec2
  cases ec2
  exact e0
/-- an ISR's row of the tables -/
theorem Dd.itab (h : Dd W0 w tb v P vv va vr s) {i : Nat} (hi : i < tb.isrs.length) : ∃ gi oi, ∃ s2 : Sl, v.i.a = some ⟨gi, oi, none⟩ ∧ v.i.n = tb.isrs.length ∧ ∀ W, Below w.heap.size w W → W.cell? ⟨gi, oi + i * 3, none⟩ = some (I (isK tb i).cat) ∧ W.cell? ⟨gi, oi + i * 3 + 1, none⟩ = some (I (isK tb i).prio) ∧ W.cell? ⟨gi, oi + i * 3 + 2, none⟩ = some (.slice s2.a s2.n s2.c) := by
  have hck : tb.isrs[i]? = some (isK tb i) := by unfold isK; rw [List.getD_eq_getElem?_getD, List.getElem?_eq_getElem hi]; rfl
  obtain ⟨gc, oc, s2, ec, hlt, d0, d1, d2, -⟩ := isr_at h.t0 hck
  refine ⟨gc, oc, s2, ec, h.t0.i.n, fun W hb => ?_⟩
  have hb2 := h.b.trans (hb.mono h.b.size)
  exact ⟨(by rw [cell_below hb2 _ _ hlt]; exact d0), (by rw [cell_below hb2 _ _ hlt]; exact d1), (by rw [cell_below hb2 _ _ hlt]; exact d2)⟩
/-- an alarm's row of the tables -/
theorem Dd.atab (h : Dd W0 w tb v P vv va vr s) {k : Nat} (hk : k < tb.als.length) : ∃ g off, v.a.a = some ⟨g, off, none⟩ ∧ v.a.n = tb.als.length ∧ ∀ W, Below w.heap.size w W → W.cell? ⟨g, off + k * 7, none⟩ = some (I (ctrN tb k)) ∧ W.cell? ⟨g, off + k * 7 + 1, none⟩ = some (I (alK tb k).ac.kind) ∧ W.cell? ⟨g, off + k * 7 + 2, none⟩ = some (I (alK tb k).ac.task) ∧ W.cell? ⟨g, off + k * 7 + 3, none⟩ = some (.int .u32 ((alK tb k).ac.mask : Int)) ∧ W.cell? ⟨g, off + k * 7 + 4, none⟩ = some (U (alK tb k).auto) ∧ W.cell? ⟨g, off + k * 7 + 5, none⟩ = some (U (alK tb k).time) ∧ W.cell? ⟨g, off + k * 7 + 6, none⟩ = some (U (alK tb k).cycle) := by
  have ok := h.d.ok.a k hk
  have hxk : tb.als[k]? = some (alK tb k) := by unfold alK; rw [List.getD_eq_getElem?_getD, List.getElem?_eq_getElem hk]; rfl
  obtain ⟨g, off, ea, -⟩ := alr_at h.t0 hxk
  refine ⟨g, off, ea, h.t0.a.n, fun W hb => ?_⟩
  obtain ⟨g2, off2, ea2, -, d0, d1, d2, d3, d4, d5, d6⟩ := alr_at (h.t0.below (h.b.trans (hb.mono h.b.size))) hxk
  rw [ea] at ea2
  cases ea2
  rw [ok.1] at d0
  exact ⟨d0, d1, d2, d3, d4, d5, d6⟩
end
end Go.Proofs.YthhckhifaolmkaaGreat

namespace Go.Proofs.YthhckhifaolmkaaGreat
open Go.RowKit Go.Shelf Go.Sort
open Go.Proofs.YthhckhifaolmkaaGreat.Cl (Fx Fz Ck Cb Alm psA dueA dueF U Q cP own_sl own_some own_below own_base inL ret_bool ret_int heap_lt iinfo cell_one_new take_snoc aftN)
set_option linter.unusedVariables false
set_option linter.unusedSimpArgs false
section
variable {W0 w w' : World} {tb : Tb} {v : Ts} {P : Nat} {vv va vr : Sl} {s : Bs}
set_option maxRecDepth 100000 in
set_option maxHeartbeats 8000000 in
theorem dAuto (h : Dd W0 w tb v P vv va vr s) (t : Int) : Calls Tryz.prog 52 #[bP P, I t] w fun e w' => e = .returned (.tuple #[I (autN tb s t), I (autE tb t)]) ∧ Dd W0 w' tb v P vv va vr (autT tb s t) ∧ Fz (Dm P vv va vr) w w' := by
  obtain ⟨c1, -, c6, -, -, c14, -⟩ := h.cells
  unfold autN autE autT
  by_cases ho : outM tb t
  · simp only [if_pos ho]
    have HH : Hid (Dd W0 w tb v P vv va vr s) := h
    clear h
    unfold outM at ho
    generalize tb.modes = n at *
    by_cases h0 : t < 0
    · clear ho
      go_enter Tryz.func52, Tryz.ntmps52
      go_wp2
      go_ret2
      exact ⟨rfl, HH.out, Fz.refl _ _⟩
    · have h1 : n ≤ t := by omega
      clear ho
      go_enter Tryz.func52, Tryz.ntmps52
      go_wp2
      go_ret2
      exact ⟨rfl, HH.out, Fz.refl _ _⟩
  · simp only [if_neg ho]
    obtain ⟨m, rfl, hm⟩ : ∃ m : Nat, t = m ∧ (m : Int) < tb.modes := by unfold outM at ho; exact ⟨t.toNat, by omega, by omega⟩
    rw [Int.toNat_natCast]
    have m0 : ¬ ((m : Int) < 0) := by omega
    have m1 : ¬ (tb.modes ≤ (m : Int)) := by omega
    have m8 : m < 32 := by have := h.d.ok.modes; omega
    have mw : IntKind.u64.wrap (m : Int) = (m : Int) := Cl.w64 (by omega) (by omega)
    obtain ⟨a, cc, hv⟩ := own_sl h.a
    rw [hv] at c14
    have hn := h.d.ok.na
    have HI : Hid (Dd W0 w tb v P vv va vr ⟨s.v, (autL tb m s.a 0).1, s.q⟩ ∧ Fz (Dm P vv va vr) w w) := ⟨h, Fz.refl _ _⟩
    have HV : Hid (slT va = .slice a tb.als.length cc ∧ v.a.n = tb.als.length) := ⟨hv, h.t0.a.n⟩
    clear h hv ho hm
    go_enter Tryz.func52, Tryz.ntmps52
    go_wp2
    clear c1 c6 c14
    go_loopw [6, 7, 8] (fun v6 v7 _ wr => ∃ k : Nat, k ≤ tb.als.length ∧ v7 = I k ∧ v6 = I (autL tb m s.a k).2 ∧ Hid (Dd W0 wr tb v P vv va vr ⟨s.v, (autL tb m s.a k).1, s.q⟩ ∧ Fz (Dm P vv va vr) w wr)) (fun _ v7 _ _ => tb.als.length - (intOf v7).toNat)
    case atStart => exact ⟨0, by omega, rfl, rfl, HI.out⟩
    case round =>
      clear HI
      obtain ⟨k, hk, rfl, rfl, HJ⟩ := hrel
      have HA : Hid ((autL tb m s.a k).2 ≤ k) := autL_le tb m s.a k
      obtain ⟨-, -, c6, -, -, c14, -⟩ := HJ.out.1.cells
      rw [HV.out.1] at c14
      by_cases hlt : k < tb.als.length
      · have hltI : (k : Int) < tb.als.length := by omega
        have HS : Hid (autL tb m s.a (k + 1) = autS tb m (autL tb m s.a k) k) := autL_succ tb m s.a k
        have hc64 : (autL tb m s.a k).2 ≤ 64 := by have := HA.out; omega
        generalize hx : autL tb m s.a k = x at *
        clear hx HA
        obtain ⟨xa, xn⟩ := x
        have HS1 : Hid (autL tb m s.a (k + 1) = if (alK tb k).auto.testBit m && decide ((xa k).1 = 0) then (upN xa k ((alK tb k).time, (alK tb k).cycle), xn + 1) else (xa, xn)) := HS.out
        clear HS
        obtain ⟨b, z⟩ := HJ.out
        obtain ⟨g, c, ev, -⟩ := b.al hlt
        have ea : a = some ⟨g, 0, none⟩ := by have := HV.out.1; rw [this] at ev; cases ev; rfl
        obtain ⟨ga, off, eva, han, hW⟩ := b.atab hlt
        obtain ⟨d0, d1, d2, d3, d4, d5, d6⟩ := hW wr (Below.refl _ _)
        rw [eva, han] at c6
        have hb1 := below_alloc wr (.cells #[I (ctrN tb k), I (alK tb k).ac.kind, I (alK tb k).ac.task, .int .u32 ((alK tb k).ac.mask : Int), .int .u32 ((alK tb k).auto : Int), .int .u32 ((alK tb k).time : Int), .int .u32 ((alK tb k).cycle : Int)] 99)
        have hv1 := heap_alloc_new wr (.cells #[I (ctrN tb k), I (alK tb k).ac.kind, I (alK tb k).ac.task, .int .u32 ((alK tb k).ac.mask : Int), .int .u32 ((alK tb k).auto : Int), .int .u32 ((alK tb k).time : Int), .int .u32 ((alK tb k).cycle : Int)] 99)
        have hX1 : ∀ b', Dm P vv va vr b' → b' < wr.heap.size := fun b' e' => (b.lo b' e').2
        have H1 : Hid (Dd W0 (wr.alloc (.cells #[I (ctrN tb k), I (alK tb k).ac.kind, I (alK tb k).ac.task, .int .u32 ((alK tb k).ac.mask : Int), .int .u32 ((alK tb k).auto : Int), .int .u32 ((alK tb k).time : Int), .int .u32 ((alK tb k).cycle : Int)] 99)) tb v P vv va vr ⟨s.v, xa, s.q⟩ ∧ Fz (Dm P vv va vr) w (wr.alloc (.cells #[I (ctrN tb k), I (alK tb k).ac.kind, I (alK tb k).ac.task, .int .u32 ((alK tb k).ac.mask : Int), .int .u32 ((alK tb k).auto : Int), .int .u32 ((alK tb k).time : Int), .int .u32 ((alK tb k).cycle : Int)] 99)) ∧ (wr.alloc (.cells #[I (ctrN tb k), I (alK tb k).ac.kind, I (alK tb k).ac.task, .int .u32 ((alK tb k).ac.mask : Int), .int .u32 ((alK tb k).auto : Int), .int .u32 ((alK tb k).time : Int), .int .u32 ((alK tb k).cycle : Int)] 99)).heap[wr.heap.size]? = some (.cells #[I (ctrN tb k), I (alK tb k).ac.kind, I (alK tb k).ac.task, .int .u32 ((alK tb k).ac.mask : Int), .int .u32 ((alK tb k).auto : Int), .int .u32 ((alK tb k).time : Int), .int .u32 ((alK tb k).cycle : Int)] 99)) := ⟨b.below hb1, z.trans (Fz.of_below hb1), hv1⟩
        have hau := (b.d.ok.a k hlt).2.2.1
        have hau2 := (b.d.ok.a k hlt).2.2.2.2.2
        have ngX : g ≠ wr.heap.size := by have := hX1 g (.inr (.inr (.inl (by rw [ev]; rfl)))); omega
        have nPX : P ≠ wr.heap.size := by have := hX1 P (.inl rfl); omega
        have ngP : P ≠ g := fun e2 => heap_apart b.o b.a (by decide) (by rw [ev, e2]; rfl)
        clear HJ b z hb1 hW hv1 hX1
        subst ea
        go_upto_region 8 with fail
        clear d0 d1 d2 d3 d4 d5 d6 c6 c14
        generalize wr.alloc (.cells #[I (ctrN tb k), I (alK tb k).ac.kind, I (alK tb k).ac.task, .int .u32 ((alK tb k).ac.mask : Int), .int .u32 ((alK tb k).auto : Int), .int .u32 ((alK tb k).time : Int), .int .u32 ((alK tb k).cycle : Int)] 99) = w2 at *
        generalize wr.heap.size = X1 at *
        have y4 : w2.cell? ⟨X1, 4, none⟩ = some (U (alK tb k).auto) := by rw [cell_of_row _ _ _ _ _ (0, 0) H1.out.2.2]; rfl
        have y5 : w2.cell? ⟨X1, 5, none⟩ = some (U (alK tb k).time) := by rw [cell_of_row _ _ _ _ _ (0, 0) H1.out.2.2]; rfl
        have y6 : w2.cell? ⟨X1, 6, none⟩ = some (U (alK tb k).cycle) := by rw [cell_of_row _ _ _ _ _ (0, 0) H1.out.2.2]; rfl
        obtain ⟨-, -, -, -, -, c14, -⟩ := H1.out.1.cells
        obtain ⟨g', c', ev', q0, q1, q2⟩ := H1.out.1.al hlt
        obtain ⟨rfl, rfl⟩ : g' = g ∧ c' = c := by rw [ev] at ev'; cases ev'; exact ⟨rfl, rfl⟩
        rw [ev] at c14
        have hbt := and_bit (alK tb k).auto m hau m8
        rw [← pow_u32 m8, IntKind.wrap_u32] at hbt
        dsimp only at q0 q1 q2
        have HSa : Hid (autL tb m s.a (k + 1) = if (alK tb k).auto.testBit m && decide ((xa k).1 = 0) then (upN xa k ((alK tb k).time, (alK tb k).cycle), xn + 1) else (xa, xn)) := HS1.out
        clear HS1
        cases hbit : (alK tb k).auto.testBit m with
        | false =>
          rw [hbit] at hbt HSa
          have HS2 : Hid (autL tb m s.a (k + 1) = (xa, xn)) := by show _ = _; rw [HSa.out]; rfl
          clear HSa hbit hau2 q0 q1 q2
          go_wp2
          go_roundw
          case rel => exact ⟨k + 1, by omega, by go_num, by rw [HS2.out], by rw [HS2.out]; exact ⟨H1.out.1, H1.out.2.1⟩⟩
          case measure => simp [intOf]; omega
        | true =>
          rw [hbit] at hbt HSa
          have hane : (alK tb k).auto ≠ 0 := fun e => by rw [e] at hbit; simp at hbit
          obtain ⟨o1, o2, o3⟩ := hau2 hane
          clear hbit hane hau2
          by_cases hz : (xa k).1 = 0
          · have HS2 : Hid (autL tb m s.a (k + 1) = (upN xa k ((alK tb k).time, (alK tb k).cycle), xn + 1)) := by show _ = _; rw [HSa.out, hz]; rfl
            rw [show decide ((xa k).1 ≠ 0) = false by simpa using hz] at q0
            have hx64 : xn ≤ 64 := hc64
            have hDd := H1.out.1.below ((Below.refl _ w2).drew)
            have ha := H1.out.1.a
            rw [ev] at ha
            obtain ⟨⟨u0, p0⟩, ⟨u1, p1⟩, ⟨u2, p2⟩, f0, f1, f2, -⟩ := put3 ha hlt (.bool true) (U (alK tb k).time) (U (alK tb k).cycle)
            have hP := hDd.putA hlt ev (y := ((alK tb k).time, (alK tb k).cycle)) ⟨by show (alK tb k).time ≤ _; omega, o3⟩ (fun e0 => by have e1 : (alK tb k).time = 0 := e0; omega)
            rw [show decide (((alK tb k).time, (alK tb k).cycle).1 ≠ 0) = true by simp; omega] at hP
            have HP : Hid (Dd W0 (((w2.drew.setCell ⟨g', k * 3, none⟩ (.bool true)).setCell ⟨g', k * 3 + 1, none⟩ (U (alK tb k).time)).setCell ⟨g', k * 3 + 2, none⟩ (U (alK tb k).cycle)) tb v P vv va vr ⟨s.v, upN xa k ((alK tb k).time, (alK tb k).cycle), s.q⟩ ∧ Fz (Dm P vv va vr) w (((w2.drew.setCell ⟨g', k * 3, none⟩ (.bool true)).setCell ⟨g', k * 3 + 1, none⟩ (U (alK tb k).time)).setCell ⟨g', k * 3 + 2, none⟩ (U (alK tb k).cycle))) := ⟨hP.1, (H1.out.2.1.trans (Fz.of_below ((Below.refl _ w2).drew))).trans hP.2⟩
            clear HSa hz hP ha hDd q1 q2 o1 o2 o3 hc64
            go_upto_region 9 with fail
            go_region_law (fail)
            all_goals
              go_wp2
              go_roundw
              case rel => exact ⟨k + 1, by omega, by go_num, by rw [HS2.out]; go_num, by rw [HS2.out]; exact HP.out⟩
              case measure => simp [intOf]; omega
          · have HS2 : Hid (autL tb m s.a (k + 1) = (xa, xn)) := by show _ = _; rw [HSa.out, show decide ((xa k).1 = 0) = false by simpa using hz]; rfl
            rw [show decide ((xa k).1 ≠ 0) = true by simpa using hz] at q0
            clear HSa hz q1 q2
            go_wp2
            go_roundw
            case rel => exact ⟨k + 1, by omega, by go_num, by rw [HS2.out], by rw [HS2.out]; exact ⟨H1.out.1, H1.out.2.1⟩⟩
            case measure => simp [intOf]; omega
      · obtain rfl : k = tb.als.length := by omega
        have hge : ¬ ((tb.als.length : Int) < tb.als.length) := by omega
        go_wp2
        go_ret2
        exact ⟨rfl, HJ.out.1, HJ.out.2⟩
end
end Go.Proofs.YthhckhifaolmkaaGreat

namespace Go.Proofs.YthhckhifaolmkaaGreat
open Go.RowKit Go.Shelf Go.Sort
open Go.Proofs.YthhckhifaolmkaaGreat.Cl (Fx Fz Ck Cb Alm psA dueA dueF U Q cP own_sl own_some own_below own_base inL ret_bool ret_int heap_lt iinfo cell_one_new take_snoc aftN)
set_option linter.unusedVariables false
set_option linter.unusedSimpArgs false
theorem pas_one {tb : Tb} {g : Gt} {k : Nat} (hc : (isK tb k).cat = 1 ∨ (isK tb k).cat = 2) : pasB tb g k = (!g.shut && (g.all == 0) && ((isK tb k).cat == 1 || g.os == 0)) := by
  unfold pasB
  rcases hc with e | e <;> rw [e] <;> rfl
section
variable {W0 w w' : World} {tb : Tb} {v : Ts} {P : Nat} {vv va vr : Sl} {s : Bs}
set_option maxRecDepth 100000 in
set_option maxHeartbeats 16000000 in
theorem dNext (h : Dd W0 w tb v P vv va vr s) (l : Int) (g : Gt) : Calls Tryz.prog 54 #[bP P, I l, gtV g] w fun e w' => e = .returned (.tuple #[I (nxL tb s.q g l tb.isrs.length).1, .bool (nxO (nxL tb s.q g l tb.isrs.length).1)]) ∧ Below w.heap.size w w' := by
  have hb0 := below_alloc w (.cells #[.bool g.shut, I g.all, I g.os] 46)
  have hg0 := heap_alloc_new w (.cells #[.bool g.shut, I g.all, I g.os] 46)
  have h0 := h.below hb0
  obtain ⟨a, cc, hv⟩ := own_sl h.r
  have HH : Hid (Dd W0 (w.alloc (.cells #[.bool g.shut, I g.all, I g.os] 46)) tb v P vv va vr s ∧ Below w.heap.size w (w.alloc (.cells #[.bool g.shut, I g.all, I g.os] 46)) ∧ (w.alloc (.cells #[.bool g.shut, I g.all, I g.os] 46)).heap[w.heap.size]? = some (.cells #[.bool g.shut, I g.all, I g.os] 46) ∧ slT vr = .slice a tb.isrs.length cc ∧ v.i.n = tb.isrs.length) := ⟨h0, hb0, hg0, hv, h.t0.i.n⟩
  have hn := h.d.ok.ni
  clear h h0 hb0 hg0 hv
  have HB : Hid (∀ k, (nxL tb s.q g l k).1 = -1 ∨ 0 ≤ (nxL tb s.q g l k).1) := nxL_best tb s.q g l
  go_enter Tryz.func54, Tryz.ntmps54
  go_upto_region 1 with fail
  generalize w.alloc (.cells #[.bool g.shut, I g.all, I g.os] 46) = wg at *
  have HI : Hid (Below wg.heap.size wg wg) := Below.refl _ _
  generalize hn1 : tb.isrs.length = n at *
  have HN : Hid (tb.isrs.length = n) := hn1
  clear hn1
  go_wp2
  go_loopw [8, 9, 10, 11] (fun v8 v9 _ _ wr => ∃ k : Nat, k ≤ n ∧ v9 = I k ∧ v8 = I (nxL tb s.q g l k).1 ∧ Hid (Below wg.heap.size wg wr)) (fun _ v9 _ _ _ => n - (intOf v9).toNat)
  case atStart => exact ⟨0, by omega, rfl, rfl, HI.out⟩
  case round =>
    clear HI
    obtain ⟨k, hk, rfl, rfl, HJ⟩ := hrel
    have hr := HH.out.1.below HJ.out
    obtain ⟨-, -, -, c7, -, -, c15⟩ := hr.cells
    rw [HH.out.2.2.2.1] at c15
    by_cases hlt : k < n
    · have hltI : (k : Int) < n := by omega
      have hkn : k < tb.isrs.length := by rw [HN.out]; exact hlt
      obtain ⟨gi, oi, s2, ei, ein, hW⟩ := hr.itab hkn
      obtain ⟨d0, d1, d2⟩ := hW wr (Below.refl _ _)
      rw [ei, HH.out.2.2.2.2] at c7
      obtain ⟨gr, cr, er, -⟩ := hr.rq hkn
      have ea : a = some ⟨gr, 0, none⟩ := by have := HH.out.2.2.2.1; rw [this] at er; cases er; rfl
      have hb1 := below_alloc wr (.cells #[I (isK tb k).cat, I (isK tb k).prio, .slice s2.a s2.n s2.c] 88)
      have hv1 := heap_alloc_new wr (.cells #[I (isK tb k).cat, I (isK tb k).prio, .slice s2.a s2.n s2.c] 88)
      have H1 : Hid (Below wg.heap.size wg (wr.alloc (.cells #[I (isK tb k).cat, I (isK tb k).prio, .slice s2.a s2.n s2.c] 88)) ∧ (wr.alloc (.cells #[I (isK tb k).cat, I (isK tb k).prio, .slice s2.a s2.n s2.c] 88)).heap[wr.heap.size]? = some (.cells #[I (isK tb k).cat, I (isK tb k).prio, .slice s2.a s2.n s2.c] 88)) := ⟨HJ.out.trans (hb1.mono HJ.out.size), hv1⟩
      have hcat := (hr.d.ok.i k hkn).1
      have HS : Hid (nxL tb s.q g l (k + 1) = nxS tb s.q g (nxL tb s.q g l k) k) := nxL_succ tb s.q g l k
      clear hr hb1 hv1 er HJ hW
      subst ea
      go_upto_region 6 with fail
      clear d0 d1 d2 c7 c15
      generalize wr.alloc (.cells #[I (isK tb k).cat, I (isK tb k).prio, .slice s2.a s2.n s2.c] 88) = w1 at *
      generalize wr.heap.size = X1 at *
      have h1 := HH.out.1.below H1.out.1
      obtain ⟨-, -, -, c7, -, -, c15⟩ := h1.cells
      rw [ei, HH.out.2.2.2.2] at c7
      rw [HH.out.2.2.2.1] at c15
      obtain ⟨gr', cr', er', q0, -⟩ := h1.rq hkn
      have egr : gr' = gr := by have := HH.out.2.2.2.1; rw [this] at er'; cases er'; rfl
      subst egr
      have y0 : w1.cell? ⟨X1, 0, none⟩ = some (I (isK tb k).cat) := by rw [cell_of_row _ _ _ _ _ (0, 0) H1.out.2]; rfl
      have y1 : w1.cell? ⟨X1, 1, none⟩ = some (I (isK tb k).prio) := by rw [cell_of_row _ _ _ _ _ (0, 0) H1.out.2]; rfl
      have q2 := (H1.out.1.block _ (heap_lt HH.out.2.2.1)).trans HH.out.2.2.1
      have z0 : w1.cell? ⟨w.heap.size, 0, none⟩ = some (.bool g.shut) := by rw [cell_of_row _ _ _ _ _ (0, 0) q2]; rfl
      have z1 : w1.cell? ⟨w.heap.size, 1, none⟩ = some (I g.all) := by rw [cell_of_row _ _ _ _ _ (0, 0) q2]; rfl
      have z2 : w1.cell? ⟨w.heap.size, 2, none⟩ = some (I g.os) := by rw [cell_of_row _ _ _ _ _ (0, 0) q2]; rfl
      have HJT : Hid (∀ j, j < n → w1.cell? ⟨gi, oi + j * 3 + 1, none⟩ = some (I (isK tb j).prio)) := fun j hj => by
        obtain ⟨gj, oj, sj, ej, -, hWj⟩ := h1.itab (i := j) (by rw [HN.out]; exact hj)
        rw [ei] at ej
        cases ej
        exact (hWj _ (Below.refl _ _)).2.1
      have HPA : Hid (pasB tb g k = (!g.shut && (g.all == 0) && ((isK tb k).cat == 1 || g.os == 0))) := pas_one hcat
      have HIV := nxL_inv tb s.q g l k
      clear h1 q2 er' hcat
      go_cut [11] from 12 to 81 (fun v11 wx => v11 = .bool (pasB tb g k) ∧ w1 = wx)
      case first =>
        obtain ⟨gsh, gal, gos⟩ := g
        dsimp only at z0 z1 z2 HPA
        clear HIV HS q0 HJT
        cases gsh with
        | true =>
          have e2 : Hid (pasB tb ⟨true, gal, gos⟩ k = false) := by show _ = _; rw [HPA.out]; rfl
          clear HPA
          go_wp2
          go_meet
          case rel => exact ⟨by rw [e2.out], rfl⟩
        | false =>
          by_cases ha : gal = 0
          · subst ha
            by_cases hc : (isK tb k).cat = 1
            · have e2 : Hid (pasB tb ⟨false, 0, gos⟩ k = true) := by show _ = _; rw [HPA.out, hc]; rfl
              rw [hc] at y0
              clear HPA hc
              go_wp2
              go_meet
              case rel => exact ⟨by rw [e2.out], rfl⟩
            · have hcB : ((isK tb k).cat == 1) = false := by simpa using hc
              have e2 : Hid (pasB tb ⟨false, 0, gos⟩ k = (gos == 0)) := by show _ = _; rw [HPA.out, hcB]; simp
              clear HPA hc
              go_wp2
              go_meet
              case rel => exact ⟨by rw [e2.out], rfl⟩
          · have haB : (gal == 0) = false := by simpa using ha
            have e2 : Hid (pasB tb ⟨false, gal, gos⟩ k = false) := by show _ = _; rw [HPA.out, haB]; rfl
            clear HPA ha
            go_wp2
            go_meet
            case rel => exact ⟨by rw [e2.out], rfl⟩
      obtain ⟨rfl, rfl⟩ := hcut
      clear y0 z0 z1 z2 HPA
      unfold nxS at HS
      go_upto_region 7 with fail
      cases hq : hasQ s.q k with
      | false =>
        rw [hq] at q0 HS
        have HQ : Hid ((nxL tb s.q g l (k + 1)).1 = (nxL tb s.q g l k).1) := by show _ = _; rw [HS.out]; simp
        clear HS hq HIV HJT
        go_quiet (fail)
        have HB5 : Hid (Below wg.heap.size wg (w1.drewN nq)) := Cl.below_drewN _ H1.out.1
        clear c7 c15 q0 y1
        generalize w1.drewN nq = w5 at *
        go_wp2
        go_roundw
        case rel => exact ⟨k + 1, by omega, by go_num, by rw [HQ.out], HB5.out⟩
        case measure => simp [intOf]; omega
      | true =>
        rw [hq] at q0 HS
        simp only [Bool.true_and] at HS
        cases hx : pasB tb g k with
        | false =>
          rw [hx] at HS
          have HQ : Hid ((nxL tb s.q g l (k + 1)).1 = (nxL tb s.q g l k).1) := by show _ = _; rw [HS.out]; simp
          clear HS hq hx HIV HJT
          go_quiet (fail)
          have HB5 : Hid (Below wg.heap.size wg (w1.drewN nq)) := Cl.below_drewN _ H1.out.1
          clear c7 c15 q0 y1
          generalize w1.drewN nq = w5 at *
          go_wp2
          go_roundw
          case rel => exact ⟨k + 1, by omega, by go_num, by rw [HQ.out], HB5.out⟩
          case measure => simp [intOf]; omega
        | true =>
          rw [hx] at HS
          simp only [Bool.and_true] at HS
          clear hq hx
          by_cases hp : l < (isK tb k).prio
          · rcases HIV with ⟨e1, e2⟩ | ⟨j, hj, e1, e2, hjl⟩
            · rw [e1]
              have HQ : Hid ((nxL tb s.q g l (k + 1)).1 = (k : Int)) := by show _ = _; rw [HS.out, e2, if_pos (by simpa using hp)]
              clear HS HJT e1 e2
              go_quiet (fail)
              have HB5 : Hid (Below wg.heap.size wg (w1.drewN nq)) := Cl.below_drewN _ H1.out.1
              clear c7 c15 q0 y1
              generalize w1.drewN nq = w5 at *
              go_wp2
              go_roundw
              case rel => exact ⟨k + 1, by omega, by go_num, by rw [HQ.out], HB5.out⟩
              case measure => simp [intOf]; omega
            · rw [e1]
              have r1 := HJT.out j (by omega)
              have j0 : ¬ ((j : Int) < 0) := by omega
              have jn : (j : Int) < n := by omega
              by_cases hpp : (isK tb j).prio < (isK tb k).prio
              · have HQ : Hid ((nxL tb s.q g l (k + 1)).1 = (k : Int)) := by show _ = _; rw [HS.out, e2, if_pos (by simpa using hpp)]
                clear HS HJT e1 e2 hjl
                go_quiet (fail)
                have HB5 : Hid (Below wg.heap.size wg (w1.drewN nq)) := Cl.below_drewN _ H1.out.1
                clear c7 c15 q0 y1 r1
                generalize w1.drewN nq = w5 at *
                go_wp2
                go_roundw
                case rel => exact ⟨k + 1, by omega, by go_num, by rw [HQ.out], HB5.out⟩
                case measure => simp [intOf]; omega
              · have HQ : Hid ((nxL tb s.q g l (k + 1)).1 = (j : Int)) := by show _ = _; rw [HS.out, e2, if_neg (by simpa using hpp), e1]
                clear HS HJT e1 e2 hjl
                go_quiet (fail)
                have HB5 : Hid (Below wg.heap.size wg (w1.drewN nq)) := Cl.below_drewN _ H1.out.1
                clear c7 c15 q0 y1 r1
                generalize w1.drewN nq = w5 at *
                go_wp2
                go_roundw
                case rel => exact ⟨k + 1, by omega, by go_num, by rw [HQ.out], HB5.out⟩
                case measure => simp [intOf]; omega
          · have HQ : Hid ((nxL tb s.q g l (k + 1)).1 = (nxL tb s.q g l k).1) := by
              show _ = _
              rw [HS.out, if_neg]
              rcases HIV with ⟨-, e2⟩ | ⟨j, -, -, e2, hjl⟩
              · rw [e2]; simpa using hp
              · rw [e2]; simp; omega
            clear HS HIV HJT
            go_quiet (fail)
            have HB5 : Hid (Below wg.heap.size wg (w1.drewN nq)) := Cl.below_drewN _ H1.out.1
            clear c7 c15 q0 y1
            generalize w1.drewN nq = w5 at *
            go_wp2
            go_roundw
            case rel => exact ⟨k + 1, by omega, by go_num, by rw [HQ.out], HB5.out⟩
            case measure => simp [intOf]; omega
    · obtain rfl : k = n := by omega
      have hge : ¬ ((k : Int) < k) := by omega
      have hd := HB.out k
      have HE : Hid (Below w.heap.size w wr) := HH.out.2.1.trans (HJ.out.mono HH.out.2.1.size)
      clear HB HJ HH hr
      generalize hb1 : (nxL tb s.q g l k).1 = b1 at *
      have Hx : Hid ((nxL tb s.q g l k).1 = b1) := hb1
      clear hb1
      by_cases hb : b1 = -1
      · subst hb
        clear hd
        go_wp2
        go_ret2
        exact ⟨by rw [HN.out, Hx.out, show nxO (-1) = false from rfl]; rfl, HE.out⟩
      · have hb0 : ¬ (b1 < 0) := by omega
        have hbz : 0 ≤ b1 := by omega
        have HO : Hid (nxO b1 = true) := by show _ = _; simpa [nxO] using hb
        clear hd hb
        go_wp2
        go_ret2
        exact ⟨by rw [HN.out, Hx.out, HO.out]; simp [hbz], HE.out⟩
end
end Go.Proofs.YthhckhifaolmkaaGreat

