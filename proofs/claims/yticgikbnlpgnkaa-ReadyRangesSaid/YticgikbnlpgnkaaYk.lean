import Derived.Test.YticgikbnlpgnkaaYj
namespace Go.Proofs.Yticgikbnlpgnkaa
open Go.RowKit
set_option linter.unusedVariables false
set_option linter.unusedSimpArgs false

/-! ### Queues: their face -/
/-- A queue with the rings rs; its blocks are of X. -/
structure QR (w : World) (Q : Nat) (X : Nat → Prop) (rs : List Rr) : Prop where
  ex : ∃ F f, Qu w Q F f ∧ Mt f rs ∧ ∀ b, Qb Q f b → X b
  fall : Fall rs
def Noway (rs : List Rr) (p : Int) : Prop := ∀ (i : Nat) (r : Rr), rs[i]? = some r → (r.p : Int) ≠ p
section
variable {w : World} {Q : Nat} {X : Nat → Prop} {rs : List Rr}
theorem QR.kept (h : QR w Q X rs) {M : Nat → Prop} {w' : World} (hf : Fz M w w') (hM : ∀ b, X b → ¬ M b) : QR w' Q X rs := by
  obtain ⟨F, f, hq, hm, hx⟩ := h.ex
  exact ⟨⟨F, f, hq.kept hf (fun b hb => hM b (hx b hb)), hm, hx⟩, h.fall⟩
theorem QR.below (h : QR w Q X rs) {w' : World} (hf : Below w.heap.size w w') : QR w' Q X rs := h.kept (M := fun _ => False) (Fz.of_below hf) (fun _ _ e => e)
theorem QR.p64 (h : QR w Q X rs) : ∀ (i : Nat) (r : Rr), rs[i]? = some r → r.p < 64 ∧ 1 ≤ r.c ∧ r.c ≤ 65536 ∧ r.l.length ≤ r.h ∧ r.h ≤ r.c := fun i r hi => by
  obtain ⟨F, f, hq, hm, hx⟩ := h.ex
  obtain ⟨x, hxx, e1, e2, e3⟩ := hm.1 i r hi
  obtain ⟨k1, k2, k3⟩ := hq.m.r r.p x hxx
  have k4 := k3.hle
  have k5 := k3.m
  rw [intsV_len] at k4
  rw [e1, e2, e3] at k4
  rw [e1] at k2 k5
  exact ⟨k1, k2, k5, k4.1, k4.2⟩
theorem QR.ring (h : QR w Q X rs) : ∃ F f, Qu w Q F f ∧ Mt f rs ∧ (∀ b, Qb Q f b → X b) ∧ (∀ p : Int, Noway rs p → ringAt f p = none) ∧ (∀ (i : Nat) (r : Rr), rs[i]? = some r → ∃ x, ringAt f r.p = some x ∧ f r.p = some x ∧ x.c = r.c ∧ x.h = r.h ∧ x.l = r.l) := by
  have h64 := h.p64
  obtain ⟨F, f, hq, hm, hx⟩ := h.ex
  refine ⟨F, f, hq, hm, hx, fun p hp => ?_, fun i r hi => ?_⟩
  · unfold ringAt
    split
    · rename_i hr
      refine hm.none (fun i r hi e => hp i r hi ?_)
      omega
    · rfl
  · obtain ⟨x, hxx, e⟩ := hm.1 i r hi
    exact ⟨x, (ringAt_nat f (h64 i r hi).1).trans hxx, hxx, e⟩
theorem rTail_no (h : QR w Q X rs) {p : Int} (hp : Noway rs p) (v : Int) : Calls Try.prog 10 #[qP Q, I p, I v] w fun e w' => e = .returned (I 130) ∧ w = w' := by
  obtain ⟨F, f, hq, hm, hx, hn, hs⟩ := h.ring
  exact qTail_no hq.m (hn p hp) v
theorem rHead_no (h : QR w Q X rs) {p : Int} (hp : Noway rs p) (v : Int) : Calls Try.prog 13 #[qP Q, I p, I v] w fun e w' => e = .returned (I 130) ∧ w = w' := by
  obtain ⟨F, f, hq, hm, hx, hn, hs⟩ := h.ring
  exact qHead_no hq.m (hn p hp) v
theorem rTail_full (h : QR w Q X rs) {i : Nat} {r : Rr} (hi : rs[i]? = some r) (hl : r.l.length = r.c) (v : Int) : Calls Try.prog 10 #[qP Q, I r.p, I v] w fun e w' => e = .returned (I 131) ∧ QR w' Q X rs ∧ Fz X w w' := by
  obtain ⟨F, f, hq, hm, hx, hn, hs⟩ := h.ring
  obtain ⟨x, e0, e1, e2, e3, e4⟩ := hs i r hi
  refine (qTail_full hq.m e0 (by rw [e4, e2]; exact hl) v).mono ?_
  rintro e w' ⟨rfl, b⟩
  exact ⟨rfl, h.below b, Fz.of_below b⟩
theorem rHead_full (h : QR w Q X rs) {i : Nat} {r : Rr} (hi : rs[i]? = some r) (hl : r.l.length = r.c) (v : Int) : Calls Try.prog 13 #[qP Q, I r.p, I v] w fun e w' => e = .returned (I 131) ∧ QR w' Q X rs ∧ Fz X w w' := by
  obtain ⟨F, f, hq, hm, hx, hn, hs⟩ := h.ring
  obtain ⟨x, e0, e1, e2, e3, e4⟩ := hs i r hi
  refine (qHead_full hq.m e0 (by rw [e4, e2]; exact hl) v).mono ?_
  rintro e w' ⟨rfl, b⟩
  exact ⟨rfl, h.below b, Fz.of_below b⟩
theorem rTail_ok (h : QR w Q X rs) {i : Nat} {r : Rr} (hi : rs[i]? = some r) (hl : r.l.length < r.c) (v : Int) : Calls Try.prog 10 #[qP Q, I r.p, I v] w fun e w' => e = .returned (I 0) ∧ QR w' Q X (rs.set i ⟨r.p, r.c, max r.h (r.l.length + 1), r.l ++ [v]⟩) ∧ Fz X w w' := by
  obtain ⟨F, f, hq, hm, hx, hn, hs⟩ := h.ring
  obtain ⟨x, e0, e1, e2, e3, e4⟩ := hs i r hi
  refine (qTail_ok hq e1 (by rw [e4, e2]; exact hl) v).mono ?_
  rintro e w' ⟨rfl, q1, f1⟩
  rw [e4, e3] at q1
  exact ⟨rfl, ⟨⟨_, _, q1, hm.set h.fall hi e1 _ _, fun b hb => hx b ((Qb.upd e1 _ _ b).1 hb)⟩, h.fall.set hi rfl⟩, f1.mono hx⟩
theorem rHead_ok (h : QR w Q X rs) {i : Nat} {r : Rr} (hi : rs[i]? = some r) (hl : r.l.length < r.c) (v : Int) : Calls Try.prog 13 #[qP Q, I r.p, I v] w fun e w' => e = .returned (I 0) ∧ QR w' Q X (rs.set i ⟨r.p, r.c, max r.h (r.l.length + 1), v :: r.l⟩) ∧ Fz X w w' := by
  obtain ⟨F, f, hq, hm, hx, hn, hs⟩ := h.ring
  obtain ⟨x, e0, e1, e2, e3, e4⟩ := hs i r hi
  refine (qHead_ok hq e1 (by rw [e4, e2]; exact hl) v).mono ?_
  rintro e w' ⟨rfl, q1, f1⟩
  rw [e4, e3] at q1
  exact ⟨rfl, ⟨⟨_, _, q1, hm.set h.fall hi e1 _ _, fun b hb => hx b ((Qb.upd e1 _ _ b).1 hb)⟩, h.fall.set hi rfl⟩, f1.mono hx⟩
theorem QR.top (h : QR w Q X rs) {i : Nat} {r : Rr} (hi : rs[i]? = some r) (hl : r.l ≠ []) (hj : ∀ (j : Nat) (b : Rr), j < i → rs[j]? = some b → b.l = []) : ∃ F f x, Qu w Q F f ∧ Mt f rs ∧ (∀ b, Qb Q f b → X b) ∧ Lib.bitLen F = r.p + 1 ∧ F ≠ 0 ∧ f r.p = some x ∧ x.c = r.c ∧ x.h = r.h ∧ x.l = r.l := by
  obtain ⟨F, f, hq, hm, hx, hn, hs⟩ := h.ring
  obtain ⟨x, e0, e1, e2, e3, e4⟩ := hs i r hi
  have hF : F ≠ 0 := fun e => hl (by rw [← e4]; exact hq.b.none e r.p x e1)
  obtain ⟨p, y, hp, hy, hyl, hup⟩ := hq.b.top hF
  obtain ⟨k, b, hk, hb, _, _, e5⟩ := hm.get hy
  have hkp : r.p = p := by
    rcases Nat.lt_trichotomy r.p p with c | c | c
    · have hki : k < i := by
        rcases Nat.lt_or_ge k i with d | d
        · exact d
        · rcases Nat.lt_or_ge i k with d2 | d2
          · have := h.fall i k r b d2 hi hk
            omega
          · obtain rfl : i = k := by omega
            rw [hi] at hk
            cases hk
            omega
      exact absurd (hj k b hki hk) (by rw [← e5]; exact hyl)
    · exact c
    · exact absurd (hup r.p x c e1) (by rw [e4]; exact hl)
  rw [← hkp] at hp
  exact ⟨F, f, x, hq, hm, hx, hp, hF, e1, e2, e3, e4⟩
theorem QR.empty (h : QR w Q X rs) (h0 : ∀ (i : Nat) (r : Rr), rs[i]? = some r → r.l = []) : ∃ f, Qu w Q 0 f ∧ Mt f rs ∧ (∀ b, Qb Q f b → X b) := by
  obtain ⟨F, f, hq, hm, hx⟩ := h.ex
  have : Bt 0 f := Bt.zero (fun p x hxx => by
    obtain ⟨i, r, hi, _, _, _, e⟩ := hm.get hxx
    rw [e]
    exact h0 i r hi)
  obtain rfl := hq.b.eq this
  exact ⟨f, hq, hm, hx⟩
theorem rHighest_ok (h : QR w Q X rs) {i : Nat} {r : Rr} (hi : rs[i]? = some r) (hl : r.l ≠ []) (hj : ∀ (j : Nat) (b : Rr), j < i → rs[j]? = some b → b.l = []) : Calls Try.prog 30 #[qP Q] w fun e w' => e = .returned (.tuple #[I r.p, .bool true]) ∧ w = w' := by
  obtain ⟨F, f, x, hq, hm, hx, hp, hF, e⟩ := h.top hi hl hj
  exact qHighest_ok hq hp hF
theorem rHighest_no (h : QR w Q X rs) (h0 : ∀ (i : Nat) (r : Rr), rs[i]? = some r → r.l = []) : Calls Try.prog 30 #[qP Q] w fun e w' => e = .returned (.tuple #[I 0, .bool false]) ∧ w = w' := by
  obtain ⟨f, hq, _⟩ := h.empty h0
  exact qHighest_no hq rfl
theorem rTake_no (h : QR w Q X rs) (h0 : ∀ (i : Nat) (r : Rr), rs[i]? = some r → r.l = []) : Calls Try.prog 12 #[qP Q] w fun e w' => e = .returned (.tuple #[qV 0 0, I 132]) ∧ QR w' Q X rs ∧ Fz X w w' := by
  obtain ⟨f, hq, _⟩ := h.empty h0
  refine (qTake_no hq rfl).mono ?_
  rintro e w' ⟨rfl, b⟩
  exact ⟨rfl, h.below b, Fz.of_below b⟩
theorem rTake_ok (h : QR w Q X rs) {i : Nat} {r : Rr} {v : Int} {t : List Int} (hi : rs[i]? = some r) (hl : r.l = v :: t) (hj : ∀ (j : Nat) (b : Rr), j < i → rs[j]? = some b → b.l = []) : Calls Try.prog 12 #[qP Q] w fun e w' => e = .returned (.tuple #[qV r.p v, I 0]) ∧ QR w' Q X (rs.set i ⟨r.p, r.c, r.h, t⟩) ∧ Fz X w w' := by
  obtain ⟨F, f, x, hq, hm, hx, hp, hF, e1, e2, e3, e4⟩ := h.top hi (by rw [hl]; simp) hj
  refine (qTake_ok hq hp hF e1 (e4.trans hl)).mono ?_
  rintro e w' ⟨rfl, ⟨F', q1⟩, f1⟩
  rw [e3] at q1
  exact ⟨rfl, ⟨⟨_, _, q1, hm.set h.fall hi e1 _ _, fun b hb => hx b ((Qb.upd e1 _ _ b).1 hb)⟩, h.fall.set hi rfl⟩, f1.mono hx⟩
theorem rBits (h : QR w Q X rs) : Calls Try.prog 16 #[qP Q] w fun e w' => e = .returned (.int .u64 (bitsR 0 rs : Nat)) ∧ w = w' := by
  have h64 := h.p64
  obtain ⟨F, f, hq, hm, hx⟩ := h.ex
  obtain rfl := hq.b.eq (hm.bits (fun i r hi => (h64 i r hi).1))
  exact qBits_any hq.m
theorem QR.dn (h : QR w Q X rs) {F : Nat} {f : RS} (hq : Qu w Q F f) (hm : Mt f rs) : dnF f 64 = allR rs := hm.all h.fall (fun i r hi => (h.p64 i r hi).1)
theorem rLen (h : QR w Q X rs) : Calls Try.prog 15 #[qP Q] w fun e w' => e = .returned (I (allR rs).length) ∧ w = w' := by
  obtain ⟨F, f, hq, hm, hx⟩ := h.ex
  have := qLen_any hq.m
  rw [← dnF_len, h.dn hq hm] at this
  exact this
theorem QR.allLen (h : QR w Q X rs) : (allR rs).length ≤ 4194304 := by
  obtain ⟨F, f, hq, hm, hx⟩ := h.ex
  rw [← h.dn hq hm]
  exact dn_le hq.m
theorem rlist (h : QR w Q X rs) : Calls Try.prog 40 #[qP Q] w fun e w' => ∃ v, e = .returned v ∧ w'.ownsRow w.heap.size 35 2 v (allR rs).length (pairsC (allR rs)) ∧ Below w.heap.size w w' := by
  obtain ⟨F, f, hq, hm, hx⟩ := h.ex
  have := qlist_any hq.m
  rw [h.dn hq hm] at this
  exact this
theorem rAll (h : QR w Q X rs) : Calls Try.prog 11 #[qP Q] w fun e w' => ∃ v, e = .returned v ∧ w'.ownsRow w.heap.size 35 2 v (allR rs).length (pairsC (allR rs)) ∧ Below w.heap.size w w' := by
  obtain ⟨F, f, hq, hm, hx⟩ := h.ex
  have := qall_any hq.m
  rw [h.dn hq hm] at this
  exact this
theorem rRing_ok (h : QR w Q X rs) {i : Nat} {r : Rr} (hi : rs[i]? = some r) : Calls Try.prog 43 #[qP Q, I r.p] w fun e w' => ∃ v, e = .returned v ∧ w'.ownsRow w.heap.size 3 1 v r.l.length (intsV r.l) ∧ Below w.heap.size w w' := by
  obtain ⟨F, f, hq, hm, hx, hn, hs⟩ := h.ring
  obtain ⟨x, e0, e1, e2, e3, e4⟩ := hs i r hi
  have := qRing_any hq.m (r.p : Int)
  rw [e0] at this
  change Calls Try.prog 43 #[qP Q, I r.p] w fun e w' => ∃ v, e = .returned v ∧ w'.ownsRow w.heap.size 3 1 v x.l.length (intsV x.l) ∧ Below w.heap.size w w' at this
  rw [e4] at this
  exact this
theorem rRing_no (h : QR w Q X rs) {p : Int} (hp : Noway rs p) : Calls Try.prog 43 #[qP Q, I p] w fun e w' => ∃ v, e = .returned v ∧ w'.ownsRow w.heap.size 3 1 v 0 (intsV []) ∧ Below w.heap.size w w' := by
  obtain ⟨F, f, hq, hm, hx, hn, hs⟩ := h.ring
  have := qRing_any hq.m p
  rw [hn p hp] at this
  exact this
theorem rHigh_ok (h : QR w Q X rs) {i : Nat} {r : Rr} (hi : rs[i]? = some r) : Calls Try.prog 44 #[qP Q, I r.p] w fun e w' => e = .returned (I r.h) ∧ w = w' := by
  obtain ⟨F, f, hq, hm, hx, hn, hs⟩ := h.ring
  obtain ⟨x, e0, e1, e2, e3, e4⟩ := hs i r hi
  have := qHigh_any hq.m (r.p : Int)
  rw [e0] at this
  change Calls Try.prog 44 #[qP Q, I r.p] w fun e w' => e = .returned (I x.h) ∧ w = w' at this
  rw [e3] at this
  exact this
theorem rHigh_no (h : QR w Q X rs) {p : Int} (hp : Noway rs p) : Calls Try.prog 44 #[qP Q, I p] w fun e w' => e = .returned (I 0) ∧ w = w' := by
  obtain ⟨F, f, hq, hm, hx, hn, hs⟩ := h.ring
  have := qHigh_any hq.m p
  rw [hn p hp] at this
  exact this
theorem rClear (h : QR w Q X rs) : Calls Try.prog 24 #[qP Q] w fun e w' => e = .returned (I (allR rs).length) ∧ QR w' Q X (clearR rs) ∧ Fz X w w' := by
  obtain ⟨F, f, hq, hm, hx⟩ := h.ex
  refine (qClear_any hq.m).mono ?_
  rintro e w' ⟨rfl, q1, f1⟩
  rw [← dnF_len, h.dn hq hm]
  refine ⟨rfl, ⟨⟨0, _, q1, hm.clear, fun b hb => hx b ?_⟩, h.fall.clear⟩, f1.mono hx⟩
  rw [← clrF_all hq.m] at hb
  exact (Qb.clr f 64 b).1 hb
theorem rCopy (h : QR w Q X rs) : Calls Try.prog 26 #[qP Q] w fun e w' => ∃ C Y, e = .returned (qP C) ∧ QR w' C Y rs ∧ (∀ b, Y b → w.heap.size ≤ b ∧ b < w'.heap.size) ∧ Below w.heap.size w w' := by
  obtain ⟨F, f, hq, hm, hx⟩ := h.ex
  refine (qCopy_any hq).mono ?_
  rintro e w' ⟨C, g, rfl, q1, heq, hn, b1⟩
  refine ⟨C, Qb C g, rfl, ⟨⟨F, g, q1, ⟨fun i r hi => ?_, fun p x hxx => ?_⟩, fun b hb => hb⟩, h.fall⟩, fun b hb => ⟨hn b hb, Qb.lt q1.m hb⟩, b1⟩
  · obtain ⟨x, hxx, e1, e2, e3⟩ := hm.1 i r hi
    have e := heq r.p
    rw [hxx] at e
    obtain ⟨y, hy, e4⟩ := Option.map_eq_some_iff.1 e
    simp at e4
    exact ⟨y, hy, e4.1.trans e1, e4.2.1.trans e2, e4.2.2.trans e3⟩
  · have e := heq p
    rw [hxx] at e
    obtain ⟨y, hy, e4⟩ := Option.map_eq_some_iff.1 e.symm
    exact hm.2 p y hy
end
theorem rNew (w : World) (s : Sl) (l : List (Int × Int)) (h : RowsAt w 2 rwP s l) (hfit : fitB 64 l = true) : Calls Try.prog 28 #[.slice s.a s.n s.c] w fun e w' => ∃ Q X, e = .returned (.tuple #[qP Q, I 0]) ∧ QR w' Q X (newR l) ∧ (∀ b, X b → w.heap.size ≤ b ∧ b < w'.heap.size) ∧ Below w.heap.size w w' := by
  refine (qNew_ok w s l h hfit).mono ?_
  rintro e w' ⟨Q, f, rfl, q1, hm, b1, hn⟩
  exact ⟨Q, Qb Q f, rfl, ⟨⟨0, f, q1, hm, fun b hb => hb⟩, newR_fall hfit⟩, fun b hb => ⟨hn b hb, Qb.lt q1.m hb⟩, b1⟩
end Go.Proofs.Yticgikbnlpgnkaa
