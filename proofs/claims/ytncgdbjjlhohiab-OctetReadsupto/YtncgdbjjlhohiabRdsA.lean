import Derived.Test.YtncgdbjjlhohiabReadC
import Derived.Test.YtncgdbjjlhohiabHexes
namespace Go.Proofs.Ytncgdbjjlhohiab
open Go.RowKit
set_option linter.unusedVariables false

/-! ### What the document's reader answers, without Go -/
def nOk (l : List UInt8) (m : Int) : Bool := decide (1 ≤ m ∧ m ≤ 8 ∧ m ≤ l.length)
def nE (l : List UInt8) (m : Int) : Int := if m < 1 ∨ 8 < m then 2 else if (l.length : Int) < m then 10 else 0
def nK (l : List UInt8) (m : Int) : Nat := if nE l m = 0 then m.toNat else 0
def nV (l : List UInt8) (m : Int) : Int := (leV (l.take (nK l m)) : Nat)
def bE (l : List UInt8) (m : Int) : Int := if m < 0 then 2 else if (l.length : Int) < m then 10 else 0
def bK (l : List UInt8) (m : Int) : Nat := if bE l m = 0 then m.toNat else 0
def bL (l : List UInt8) (m : Int) : List UInt8 := l.take (bK l m)
def tE : List UInt8 → Int
  | [] => 10
  | x :: r => if r.length < x.toNat then 10 else if plainB (r.take x.toNat) = true then 0 else 12
def tK (l : List UInt8) : Nat := if tE l = 0 then 1 + (l.headD 0).toNat else 0
def tS (l : List UInt8) : List UInt8 := (l.take (tK l)).drop 1

set_option maxHeartbeats 400000 in
theorem rbytes_arg {w : World} {base r : Nat} {a : Option Addr} {n cap : Nat} {l : List UInt8} (h : IsR w base r a n cap l) (m : Int) (hm : m < 0) : Calls Try.prog 22 #[.pointer (some ⟨r, 0, none⟩), .int .i64 m] w fun e w' => e = .returned (.tuple #[.slice none 0 0, .int .i64 2]) ∧ w = w' := by
  have c0 := h.c0
  have c1 := h.c1
  go_enter Try.func22, Try.ntmps22
  go_wp2_with (go_at_call 37; refine (none_any _ _ true _ c0).mono ?_; rintro e w' ⟨rfl, rfl⟩)
  go_ret2
  exact ⟨rfl, rfl⟩
set_option maxHeartbeats 400000 in
theorem rbytes_short {w : World} {base r : Nat} {a : Option Addr} {n cap : Nat} {l : List UInt8} (h : IsR w base r a n cap l) (m : Int) (h0 : 0 ≤ m) (hm : n < m) : Calls Try.prog 22 #[.pointer (some ⟨r, 0, none⟩), .int .i64 m] w fun e w' => e = .returned (.tuple #[.slice none 0 0, .int .i64 10]) ∧ w = w' := by
  have c0 := h.c0
  have c1 := h.c1
  go_enter Try.func22, Try.ntmps22
  go_wp2_with (go_at_call 37; refine (none_any _ _ true _ c0).mono ?_; rintro e w' ⟨rfl, rfl⟩)
  go_ret2
  exact ⟨rfl, rfl⟩
theorem rd_take {w : World} {a : Option Addr} {n cap : Nat} {l : List UInt8} (h : Rd w a n cap l) (m : Nat) (hm : m ≤ n) (ha : a ≠ none) : Rd w a m cap (l.take m) := by
  have hl := h.hlen
  have hle := h.hle
  have hs := h.hsmall
  refine ⟨by simp; omega, by omega, by omega, fun e => absurd e ha, fun hp => ?_⟩
  obtain ⟨b', o', e', hb, hc⟩ := h.hcell (by omega)
  refine ⟨b', o', e', hb, fun i x hx => hc i x ?_⟩
  have hi := (List.getElem?_eq_some_iff.mp hx).1
  simp at hi
  rwa [List.getElem?_take_of_lt (by omega)] at hx
theorem own1_kept {w w' : World} {base k : Nat} {a : Option Addr} {cap : Nat} {l : List UInt8} (h : Own1 w base a cap l) (hg : w.grownBy w' (some k)) (hk : k < base) : Own1 w' base a cap l := by
  refine World.ownsRow.kept h hg ?_
  cases hv : (Value.slice a l.length cap).ownBlock with
  | none => exact Or.inl rfl
  | some g => exact Or.inr fun e => by have := (World.ownsRow.lt h g hv).1; simp at e; omega
theorem grown_two {w w1 w2 : World} {k : Nat} (h1 : Below w.heap.size w w1) (h2 : w1.grownBy w2 (some k)) : w.grownBy w2 (some k) :=
  ⟨h2.os.trans h1.os, h2.tape.trans h1.tape, h2.output.trans h1.output, Nat.le_trans h1.size h2.size, fun j hj hne => (h2.block j (Nat.lt_of_lt_of_le hj h1.size) hne).trans (h1.block j hj)⟩

set_option maxHeartbeats 1000000 in
theorem rbytes_made {w : World} {base r : Nat} {b1 o1 : Nat} {n cap : Nat} {l : List UInt8} (h : IsR w base r (some ⟨b1, o1, none⟩) n cap l) (m : Nat) (hm : m ≤ n) : Calls Try.prog 22 #[.pointer (some ⟨r, 0, none⟩), .int .i64 m] w fun e w' => ∃ a' c', e = .returned (.tuple #[.slice a' m c', .int .i64 0]) ∧ Own1 w' w.heap.size a' c' (l.take m) ∧ Rdr w' base r (l.drop m) ∧ w.grownBy w' (some r) := by
  obtain ⟨i0, hi, hz0, hz1, hz2⟩ := info_parts Try.info5
  have c0 := h.c0
  have c1 := h.c1
  have f1 := h.f1
  have hs1 := h.hrd.hsmall
  have hl1 := h.hrd.hlen
  have hle := h.hrd.hle
  have hnm : ¬ (n : Int) < m := by omega
  have hmc : (m : Int) ≤ cap := by omega
  have hrt := rd_take h.hrd m hm (by simp)
  have HLT : Hid (_ = _) := hrt.hlen
  have hr := h.rlt
  have HN1 := hrt.news
  have HL2 : Hid (((l.take m).map B).length = m * 1) := by show _ = _; rw [List.length_map, hrt.hlen, Nat.mul_one]
  clear hl1
  go_enter Try.func22, Try.ntmps22
  go_wp2_with (first | (go_at_call 37; refine (none_any _ _ true _ c0).mono ?_; rintro e w' ⟨rfl, rfl⟩) | (at_builtin; refine wpList_append_own _ rfl _ (.tmp 23) 30 rfl w.heap.size 5 i0 (.int .u8 0) 1 1 Try.underlying30 hi hz0 hz1 hz2 rfl (by decide) _ _ _ rfl (World.ownsRow_nil _ _ _ _) ⟨b1, o1, none⟩ m cap ((l.take m).map B) rfl HL2.out HN1 (one_cells _) (by unfold maxLen; omega) (by omega) (Nat.le_refl _) ?_))
  intro v2 w2 ho2 hg2 _
  have hb2 : Below w.heap.size w w2 := (Below.refl _ _).grown hg2 (Nat.le_refl _) (fun k h => by cases h)
  have h3 := h.below hb2
  have d0 := h3.c0
  have d1 := h3.c1
  have g1 := h3.f1
  obtain ⟨a2, cap2, rfl⟩ := owns_shape ho2
  have hO : Own1 w2 w.heap.size a2 cap2 (l.take m) := by
    show w2.ownsRow w.heap.size 5 1 (.slice a2 (l.take m).length cap2) (l.take m).length ((l.take m).map B)
    rw [HLT.out, List.map_take]
    exact ho2
  have HE := (show Hid (_ ∧ _) from rd_drop h3.hrd m hm)
  clear ho2 hg2 c0 c1 f1 hrt HN1
  by_cases hcm : cap = m
  · have R := isR_store h3 _ _ _ _ (HE.out.1 hcm) (fun b off e hp => by omega)
    have HR := (show Hid (_ ∧ _) from R)
    have HO : Hid (Own1 _ w.heap.size a2 cap2 (l.take m)) := own1_kept hO R.2 hr
    have HG : Hid (_) := grown_two hb2 R.2
    clear R hO
    go_wp2
    go_ret2
    exact ⟨a2, cap2, rfl, HO.out, HR.out.1.rdr, HG.out⟩
  · have R := isR_store h3 _ _ _ _ (HE.out.2 hcm) (fun b off e hp => by simp only [Option.some.injEq, Addr.mk.injEq] at e; have := h.hlt b1 o1 rfl (by omega); omega)
    have HR := (show Hid (_ ∧ _) from R)
    have HO : Hid (Own1 _ w.heap.size a2 cap2 (l.take m)) := own1_kept hO R.2 hr
    have HG : Hid (_) := grown_two hb2 R.2
    clear R hO
    go_wp2
    go_ret2
    exact ⟨a2, cap2, rfl, HO.out, HR.out.1.rdr, HG.out⟩
end Go.Proofs.Ytncgdbjjlhohiab
