import Derived.Test.YtmidaeljeoifdaaGreatDoorKra
namespace Go.Proofs.YtmidaeljeoifdaaGreatDoor
set_option maxHeartbeats 16000000
open Go.RowKit
set_option linter.unusedVariables false
def rkind (c : Cf) (r : Int) : Int := match c.ress[r.toNat]? with | some x => x.kind | none => 0
def rlink (c : Cf) (r : Int) : Int := match c.ress[r.toNat]? with | some x => x.link | none => 0
def rootF (c : Cf) : Nat → Int → Int
 | 0, _ => -1
 | f + 1, r => if isId r c.ress.length = true then (if rkind c r = 2 then rootF c f (rlink c r) else r) else -1
theorem rootF_lt (c : Cf) : ∀ (f : Nat) (r : Int), rootF c f r < c.ress.length
 | 0, r => by rw [rootF]; omega
 | f + 1, r => by
  rw [rootF]
  split
  ·rename_i h
   split
   ·exact rootF_lt c f _
   ·simp [isId] at h; exact h.2
  ·omega
theorem root_any (w : World) (c : Cf) (v : Vs) (h : CfAt w c v) (r : Int) :
  Calls Tryz.prog 273 #[.agg (cfC c v), I r] w fun e w' => e = .returned (I (rootF c c.ress.length r)) ∧ Below w.heap.size w w' := by
 have hn : v.r.n = c.ress.length := h.r.n
 have hc : v.r.n ≤ v.r.c := h.r.c
 have hm : v.r.c ≤ maxLen := h.r.m
 unfold maxLen at hm
 have HN : Hid (v.r.n = c.ress.length) := hn
 clear hn
 have hb := below_alloc w
 unfold cfC at *
 go_enter Tryz.func273, Tryz.ntmps273
 go_wp2
 go_loop [1, 8] (fun r1 i => ∃ (j : Nat) (ρ : Int), j ≤ v.r.n ∧ i = .int .i64 j ∧ r1 = .int .i64 ρ ∧ Hid (rootF c c.ress.length r = rootF c (v.r.n - j) ρ)) (fun _ i => v.r.n - (intOf i).toNat)
 case atStart => exact ⟨0, r, by omega, rfl, rfl, by show _ = _; rw [Nat.sub_zero, HN.out]⟩
 case round =>
  obtain ⟨j, ρ, hj, rfl, rfl, HR⟩ := hrel
  by_cases hlt : j < v.r.n
  ·have hlt' : (j : Int) < v.r.n := by omega
   have c1 := isID_any ρ v.r.n
   have HE : Hid (rootF c c.ress.length r = if isId ρ v.r.n = true then (if rkind c ρ = 2 then rootF c (v.r.n - (j + 1)) (rlink c ρ) else ρ) else -1) := by
    show _ = _
    rw [HR.out, show v.r.n - j = (v.r.n - (j + 1)) + 1 by omega, rootF, HN.out]
   clear HR
   cases hb1 : isId ρ v.r.n with
   | false =>
    rw [hb1] at c1
    have HE2 : Hid (rootF c c.ress.length r = -1) := by show _ = _; rw [HE.out, hb1]; rfl
    clear HE
    go_wp2_with (first | (go_at_call 272; refine (c1 _).mono ?_; rintro e w' ⟨rfl, rfl⟩))
    go_ret
    exact ⟨ret_int HE2.out.symm, hb _⟩
   | true =>
    have hr : 0 ≤ ρ ∧ ρ < v.r.n := by simpa [isId] using hb1
    obtain ⟨q, rfl⟩ := Int.eq_ofNat_of_zero_le hr.1
    have hql : q < c.ress.length := by rw [← HN.out]; omega
    obtain ⟨x, hx⟩ : ∃ x, c.ress[q]? = some x := ⟨_, List.getElem?_eq_getElem hql⟩
    obtain ⟨g, off, e, hg, a0, a1, a2⟩ := rs_at h hx
    have hne : g ≠ w.heap.size := by omega
    have hq' : (q : Int) < v.r.n := hr.2
    have k1 : rkind c (q : Int) = x.kind := by simp [rkind, hx]
    have k2 : rlink c (q : Int) = x.link := by simp [rlink, hx]
    rw [hb1, k1, k2] at HE
    rw [hb1] at c1
    rw [e] at *
    clear hx hql hr k1 k2 hb1
    cases hk : x.kind == 2 with
    | true =>
     have HE2 : Hid (rootF c c.ress.length r = rootF c (v.r.n - (j + 1)) x.link) := by show _ = _; rw [HE.out, if_pos rfl, if_pos (by simpa using hk)]
     clear HE
     go_wp2_with (first | (go_at_call 272; refine (c1 _).mono ?_; rintro e w' ⟨rfl, rfl⟩))
     go_round
     case rel => exact ⟨j + 1, x.link, by omega, by go_num, rfl, HE2⟩
     case measure => simp [intOf]; omega
    | false =>
     have HE2 : Hid (rootF c c.ress.length r = q) := by show _ = _; rw [HE.out, if_pos rfl, if_neg (by simpa using hk)]
     clear HE
     go_wp2_with (first | (go_at_call 272; refine (c1 _).mono ?_; rintro e w' ⟨rfl, rfl⟩))
     go_ret
     exact ⟨ret_int HE2.out.symm, hb _⟩
  ·obtain rfl : j = v.r.n := by omega
   have hlt' : ¬ ((v.r.n : Nat) : Int) < (v.r.n : Nat) := by omega
   have HE2 : Hid (rootF c c.ress.length r = -1) := by show _ = _; rw [HR.out, Nat.sub_self, rootF]
   go_wp2
   go_ret
   exact ⟨ret_int HE2.out.symm, hb _⟩
end Go.Proofs.YtmidaeljeoifdaaGreatDoor
