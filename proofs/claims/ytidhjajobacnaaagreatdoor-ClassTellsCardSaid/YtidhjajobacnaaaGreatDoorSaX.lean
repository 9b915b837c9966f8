import Derived.Test.YtidhjajobacnaaaGreatDoorKre
import Derived.Test.YtidhjajobacnaaaGreatDoorRnX
namespace Go.Proofs.YtidhjajobacnaaaGreatDoor
open Go.RowKit
set_option linter.unusedVariables false

/-! ### The document's answers -/
set_option maxHeartbeats 2000000 in
set_option maxRecDepth 100000 in
theorem rextended_any (w : World) (c : Cf) (v : Vs) (h : CfAt w c v) (t : Int) :
    Calls Tryz.prog 14 #[.agg (cfC c v), I t] w fun e w' => Ans w (extL c t) e w' := by
  have hn : v.t.n = c.tasks.length := h.t.n
  have hb := below_alloc w
  obtain ⟨B, hB⟩ : ∃ B, B = extL c t := ⟨_, rfl⟩
  rw [← hB]
  unfold extL isId at hB
  rw [← hn] at hB
  have HB : Hid (B = _) := hB
  have HN : Hid (v.t.n = c.tasks.length) := hn
  clear hB hn
  have f11 : ∀ h : 11 < (cfC c v).size, (cfC c v)[11] = .slice v.t.a v.t.n v.t.c := fun _ => rfl
  have hs18 : (cfC c v).size = 18 := rfl
  generalize cfC c v = C at *
  replace f11 := f11 (by omega)
  by_cases h0 : 0 ≤ t
  · by_cases h1 : t < v.t.n
    · obtain ⟨q, rfl⟩ := Int.eq_ofNat_of_zero_le h0
      have hql : q < c.tasks.length := by rw [← HN.out]; omega
      obtain ⟨x, hx⟩ : ∃ x, c.tasks[q]? = some x := ⟨_, List.getElem?_eq_getElem hql⟩
      obtain ⟨g, off, s4, s5, s6, s7, e, hg, a0, a1, a2, a3, a4, a5, a6, a7, r4, r5, r6, r7⟩ := tk_at h hx
      have hne : g ≠ w.heap.size := by omega
      have hl6 : s6.n = x.evs.length := r6.n
      have HF : Hid (B = decide (0 < (s6.n : Int))) := by show _ = _; rw [HB.out, hl6, decide_eq_true h0, decide_eq_true h1]; simp [hx]
      rw [e] at f11
      clear HB hql hx hl6
      go_enter Tryz.func14, Tryz.ntmps14
      go_wp2
      go_ret
      exact ⟨ret_bool (by rw [HF.out]; simp), hb _⟩
    · have HF : Hid (B = false) := by show _ = _; rw [HB.out, decide_eq_false h1, Bool.and_false]; rfl
      clear HB
      go_enter Tryz.func14, Tryz.ntmps14
      go_wp2
      go_ret
      exact ⟨ret_bool HF.out.symm, hb _⟩
  · have HF : Hid (B = false) := by show _ = _; rw [HB.out, decide_eq_false h0]; rfl
    clear HB
    go_enter Tryz.func14, Tryz.ntmps14
    go_wp2
    go_ret
    exact ⟨ret_bool HF.out.symm, hb _⟩
set_option maxHeartbeats 2000000 in
set_option maxRecDepth 100000 in
theorem rroot_any (w : World) (c : Cf) (v : Vs) (h : CfAt w c v) (hl : c.ress.length ≤ 8796093022208) (r : Int) :
    Calls Tryz.prog 15 #[.agg (cfC c v), I r] w fun e w' => e = .returned (I (rootF c (c.ress.length + 1) r)) ∧ Below w.heap.size w w' := by
  have hc : v.r.n ≤ v.r.c := h.r.c
  have hm : v.r.c ≤ maxLen := h.r.m
  unfold maxLen at hm
  have hn40 : v.r.n ≤ 8796093022208 := by have := h.r.n; omega
  have HN : Hid (v.r.n = c.ress.length) := h.r.n
  have hb := below_alloc w
  have f12 : ∀ h : 12 < (cfC c v).size, (cfC c v)[12] = .slice v.r.a v.r.n v.r.c := fun _ => rfl
  have hs18 : (cfC c v).size = 18 := rfl
  generalize cfC c v = C at *
  replace f12 := f12 (by omega)
  go_enter Tryz.func15, Tryz.ntmps15
  go_wp2
  go_loop [5, 6] (fun r5 i => ∃ (j : Nat) (ρ : Int), j ≤ v.r.n + 1 ∧ i = .int .i64 j ∧ r5 = .int .i64 ρ ∧ Hid (rootF c (c.ress.length + 1) r = rootF c (v.r.n + 1 - j) ρ)) (fun _ i => v.r.n + 1 - (intOf i).toNat)
  case atStart => exact ⟨0, r, by omega, rfl, rfl, by show _ = _; rw [Nat.sub_zero, HN.out]⟩
  case round =>
    obtain ⟨j, ρ, hj, rfl, rfl, HR⟩ := hrel
    by_cases hlt : j ≤ v.r.n
    · have hlt' : (j : Int) ≤ v.r.n := by omega
      have HE : Hid (rootF c (c.ress.length + 1) r = if isId ρ v.r.n = true then (if rkind c ρ = 2 then rootF c (v.r.n + 1 - (j + 1)) (rlink c ρ) else ρ) else -1) := by
        show _ = _
        rw [HR.out, show v.r.n + 1 - j = (v.r.n + 1 - (j + 1)) + 1 by omega, rootF, HN.out]
      clear HR
      by_cases h0 : ρ < 0
      · have HE2 : Hid (rootF c (c.ress.length + 1) r = -1) := by show _ = _; rw [HE.out, if_neg (by simp [isId]; omega)]
        clear HE
        go_wp2
        go_ret
        exact ⟨ret_int HE2.out.symm, hb _⟩
      · by_cases h1 : (v.r.n : Int) ≤ ρ
        · have HE2 : Hid (rootF c (c.ress.length + 1) r = -1) := by show _ = _; rw [HE.out, if_neg (by simp [isId]; omega)]
          clear HE
          go_wp2
          go_ret
          exact ⟨ret_int HE2.out.symm, hb _⟩
        · obtain ⟨q, rfl⟩ := Int.eq_ofNat_of_zero_le (show 0 ≤ ρ by omega)
          have hql : q < c.ress.length := by rw [← HN.out]; omega
          obtain ⟨x, hx⟩ : ∃ x, c.ress[q]? = some x := ⟨_, List.getElem?_eq_getElem hql⟩
          obtain ⟨g, off, e, hg, a0, a1, a2⟩ := rs_at h hx
          have hne : g ≠ w.heap.size := by omega
          have hq' : (q : Int) < v.r.n := by omega
          have HE1 : Hid (rootF c (c.ress.length + 1) r = if x.kind = 2 then rootF c (v.r.n + 1 - (j + 1)) x.link else q) := by
            show _ = _
            rw [HE.out, if_pos (by simp [isId]; omega)]
            simp [rkind, rlink, hx]
          rw [e] at f12
          clear hx hql HE
          cases hk : x.kind == 2 with
          | true =>
            have HE2 : Hid (rootF c (c.ress.length + 1) r = rootF c (v.r.n + 1 - (j + 1)) x.link) := by show _ = _; rw [HE1.out, if_pos (by simpa using hk)]
            clear HE1
            go_wp2
            go_round
            case rel => exact ⟨j + 1, x.link, by omega, by go_num, rfl, HE2⟩
            case measure => simp [intOf]; omega
          | false =>
            have HE2 : Hid (rootF c (c.ress.length + 1) r = q) := by show _ = _; rw [HE1.out, if_neg (by simpa using hk)]
            clear HE1
            go_wp2
            go_ret
            exact ⟨ret_int HE2.out.symm, hb _⟩
    · obtain rfl : j = v.r.n + 1 := by omega
      have hlt' : ¬ ((v.r.n + 1 : Nat) : Int) ≤ v.r.n := by omega
      have HE2 : Hid (rootF c (c.ress.length + 1) r = -1) := by show _ = _; rw [HR.out, Nat.sub_self, rootF]
      go_wp2
      go_ret
      exact ⟨ret_int HE2.out.symm, hb _⟩
end Go.Proofs.YtidhjajobacnaaaGreatDoor

namespace Go.Proofs.YtidhjajobacnaaaGreatDoor
open Go.RowKit
set_option linter.unusedVariables false

set_option maxHeartbeats 2000000 in
set_option maxRecDepth 100000 in
theorem rrises_any (w : World) (s : Sl) (l : List Int) (h : RowsAt w 1 intP s l) (n : Int) : Calls Tryz.prog 61 #[.slice s.a s.n s.c, I n] w fun e w' => e = .returned (.bool (risF (-1) l n)) ∧ Below w.heap.size w w' := by
  obtain ⟨sa, sn, sc⟩ := s
  have HN : Hid (sn = l.length) := h.n
  have hc : sn ≤ sc := h.c
  have hm : sc ≤ maxLen := h.m
  dsimp only
  unfold maxLen at hm
  go_enter Tryz.func61, Tryz.ntmps61
  go_wp2
  go_loopw [5] (fun i wr => ∃ (j : Nat) (a : Int), j ≤ sn ∧ i = .int .i64 j ∧ Hid (Below w.heap.size w wr ∧ risF (-1) l n = risF a (l.drop j) n ∧ ((j = 0 ∧ a = -1) ∨ (0 < j ∧ l[j - 1]? = some a)))) (fun i _ => sn - (intOf i).toNat)
  case atStart => exact ⟨0, -1, by omega, rfl, Below.refl _ _, rfl, .inl ⟨rfl, rfl⟩⟩
  case round =>
    obtain ⟨j, a, hj, rfl, HJ⟩ := hrel
    obtain ⟨hB, hR, hA⟩ := HJ.out
    have HR : Hid (risF (-1) l n = risF a (l.drop j) n) := hR
    clear HJ hR
    by_cases hlt : j < sn
    · have hlt' : (j : Int) < sn := by omega
      have hjl : j < l.length := by rw [← HN.out]; exact hlt
      obtain ⟨x, hx⟩ : ∃ x, l[j]? = some x := ⟨l[j], List.getElem?_eq_getElem hjl⟩
      obtain ⟨g, off, e, hg, hcx⟩ := ints_at (h.below hB (fun _ _ _ _ h => h)) hx
      dsimp only at e
      subst e
      have HE : Hid (risF (-1) l n = (isId x n && decide (a < x) && risF x (l.drop (j + 1)) n)) := by
        show _ = _
        rw [HR.out, List.drop_eq_getElem_cons hjl, risF]
        rw [List.getElem?_eq_getElem hjl] at hx
        rw [Option.some.inj hx]
      have HA2 : Hid (l[j + 1 - 1]? = some x) := hx
      clear hjl HR
      by_cases h0 : x < 0
      · have HF : Hid (risF (-1) l n = false) := by show _ = _; rw [HE.out, isId, decide_eq_false (show ¬ 0 ≤ x by omega)]; rfl
        clear HE hA hx
        go_wp2
        go_quiet (fail)
        go_wp2
        go_ret
        exact ⟨ret_bool HF.out.symm, below_drewN hB _⟩
      · have h0x : Hid (0 ≤ x) := by show _ ≤ _; omega
        by_cases h1 : n ≤ x
        · have HF : Hid (risF (-1) l n = false) := by show _ = _; rw [HE.out, isId, decide_eq_false (show ¬ x < n by omega), Bool.and_false]; rfl
          clear HE hA hx
          go_wp2
          have d0 : ¬ x < 0 := by omega
          go_quiet (fail)
          go_wp2
          go_ret
          exact ⟨ret_bool HF.out.symm, below_drewN hB _⟩
        · have HE1 : Hid (risF (-1) l n = (decide (a < x) && risF x (l.drop (j + 1)) n)) := by show _ = _; rw [HE.out, isId, decide_eq_true h0x.out, decide_eq_true (show x < n by omega)]; rfl
          clear HE
          rcases hA with ⟨rfl, rfl⟩ | ⟨hj0, hA⟩
          · have hcx0 : wr.cell? ⟨g, off, none⟩ = some (I x) := hcx
            have hl0 : (0 : Int) < sn := by omega
            have HG : Hid (risF (-1) l n = risF x (l.drop (0 + 1)) n) := by show _ = _; rw [HE1.out, decide_eq_true (by omega)]; rfl
            clear HE1 hx
            go_wp2
            have d0 : ¬ x < 0 := by omega
            have d1 : ¬ n ≤ x := by omega
            go_quiet (fail)
            go_wp2
            go_roundw
            case rel => exact ⟨_ + 1, x, by omega, by go_num, below_drewN hB _, HG.out, .inr ⟨by omega, HA2.out⟩⟩
            case measure => simp [intOf]; omega
          · obtain ⟨k, rfl⟩ : ∃ k, j = k + 1 := ⟨j - 1, by omega⟩
            obtain ⟨g', off', e', hg', hcy⟩ := ints_at (h.below hB (fun _ _ _ _ h => h)) (show l[k]? = some a from hA)
            dsimp only at e'
            obtain ⟨rfl, rfl⟩ : g = g' ∧ off = off' := by cases e'; exact ⟨rfl, rfl⟩
            have hk0 : (0 : Int) ≤ k := by omega
            by_cases hax : x ≤ a
            · have HF : Hid (risF (-1) l n = false) := by show _ = _; rw [HE1.out, decide_eq_false (by omega)]; rfl
              clear HE1 hx hA e'
              go_wp2
              have d0 : ¬ x < 0 := by omega
              have d1 : ¬ n ≤ x := by omega
              have d2 : (0 : Int) < (k : Int) + 1 := by omega
              have d3 : x ≤ a := by omega
              go_quiet (fail)
              go_wp2
              go_ret
              exact ⟨ret_bool HF.out.symm, below_drewN hB _⟩
            · have HG : Hid (risF (-1) l n = risF x (l.drop (k + 1 + 1)) n) := by show _ = _; rw [HE1.out, decide_eq_true (by omega)]; rfl
              clear HE1 hx hA e'
              go_wp2
              have d0 : ¬ x < 0 := by omega
              have d1 : ¬ n ≤ x := by omega
              have d2 : (0 : Int) < (k : Int) + 1 := by omega
              have d3 : ¬ x ≤ a := by omega
              go_quiet (fail)
              go_wp2
              go_roundw
              case rel => exact ⟨_ + 1, x, by omega, by go_num, below_drewN hB _, HG.out, .inr ⟨by omega, HA2.out⟩⟩
              case measure => simp [intOf]; omega
    · obtain rfl : j = sn := by omega
      have hlt' : ¬ (j : Int) < j := by omega
      have HF : Hid (risF (-1) l n = true) := by show _ = _; rw [HR.out, List.drop_eq_nil_of_le (by rw [← HN.out]; exact Nat.le_refl _), risF]
      clear hA
      go_wp2
      go_ret
      exact ⟨ret_bool HF.out.symm, hB⟩
end Go.Proofs.YtidhjajobacnaaaGreatDoor

namespace Go.Proofs.YtidhjajobacnaaaGreatDoor
open Go.RowKit
set_option linter.unusedVariables false

set_option maxHeartbeats 4000000 in
set_option maxRecDepth 100000 in
theorem rName_any (s : ByteArray) (w : World) (hs : s.size < 9223372036854775808) : Calls Tryz.prog 29 #[.string s] w fun e w' => e = .returned (.bool (isNm s.data.toList)) ∧ w' = w := by
  have HL : Hid (s.data.toList.length = s.size) := by show _ = _; simp
  go_enter Tryz.func29, Tryz.ntmps29
  go_wp2
  go_loop [3, 4, 5] (fun i _ _ => ∃ j : Nat, j ≤ s.size ∧ i = .int .i64 j ∧ Hid (∀ (k : Nat) (c : UInt8), k < j → s.data.toList[k]? = some c → (isLt c || isDg c) = true) ∧ Hid (0 < j → ∀ c : UInt8, s.data.toList[0]? = some c → isLt c = true)) (fun i _ _ => s.size - (intOf i).toNat)
  case atStart => exact ⟨0, by omega, rfl, (fun k c h => absurd h (Nat.not_lt_zero _)), fun h => absurd h (Nat.lt_irrefl _)⟩
  case round =>
    obtain ⟨j, hj, rfl, HJ, H0⟩ := hrel
    by_cases hlt : j < s.size
    · have hlt' : (j : Int) < s.size := by omega
      obtain ⟨y, hy⟩ : ∃ c, s[j]'hlt = c := ⟨_, rfl⟩
      have hiy : ∀ w, (Instr.index 9 (.string s) (.int .i64 (j : Int))).run Tryz.prog w = .ok (.int .u8 (y.toNat : Int)) w := fun w => by
        rw [← hy]; exact index_at s j _ w hlt rfl
      have HY : Hid (s.data.toList[j]? = some y) := by show _ = _; rw [← hy, List.getElem?_eq_getElem (by rw [HL.out]; exact hlt)]; rfl
      have HK : Hid ((isLt y || isDg y) = true → ∀ (k : Nat) (c : UInt8), k < j + 1 → s.data.toList[k]? = some c → (isLt c || isDg c) = true) := fun h k c hk hc => by
        by_cases e : k < j
        · exact HJ.out k c e hc
        · obtain rfl : k = j := by omega
          rw [HY.out] at hc
          cases hc
          exact h
      have HK0 : Hid (isLt y = true → ∀ c : UInt8, s.data.toList[0]? = some c → isLt c = true) := fun h c hc => by
        by_cases e : 0 < j
        · exact H0.out e c hc
        · obtain rfl : j = 0 := by omega
          rw [HY.out] at hc
          cases hc
          exact h
      clear hy
      generalize hyn : (y.toNat : Int) = z at *
      by_cases ha : 97 ≤ z ∧ z ≤ 122
      · have d1 := ha.1
        have d2 := ha.2
        have HLt : Hid (isLt y = true) := by show _ = _; simp [isLt, inR, hyn, d1, d2]
        clear ha hyn
        go_wp2
        go_round
        case rel => exact ⟨j + 1, by omega, by go_num, HK.out (by rw [HLt.out]; rfl), fun _ => HK0.out HLt.out⟩
        case measure => simp [intOf]; omega
      · by_cases hb : 97 ≤ z
        · have hz1 : ¬ z ≤ 122 := by omega
          clear ha
          have f1 : 65 ≤ z := by omega
          have f2 : ¬ z ≤ 90 := by omega
          have e95 : (z == 95) = false := by rw [beq_eq_false_iff_ne]; omega
          have f3 : ¬ z < 48 := by omega
          have f4 : 57 < z := by omega
          have HLt : Hid (isLt y = false) := by show _ = _; simp only [isLt, inR, hyn]; simp; omega
          have HDg : Hid (isDg y = false) := by show _ = _; simp only [isDg, inR, hyn]; simp; omega
          have HF : Hid (isNm s.data.toList = false) := nm_bad _ j y HY.out (by rw [HLt.out, HDg.out]; rfl)
          clear hyn HK HK0
          cases hj0 : ((j : Int) == 0) with
          | true => go_wp2; go_ret; exact ⟨ret_bool HF.out.symm, rfl⟩
          | false => go_wp2; go_ret; exact ⟨ret_bool HF.out.symm, rfl⟩
        · clear ha
          by_cases hc : 65 ≤ z
          · by_cases hd : z ≤ 90
            · skip
              have HLt : Hid (isLt y = true) := by show _ = _; simp only [isLt, inR, hyn]; simp; omega
              clear hyn
              go_wp2
              go_round
              case rel => exact ⟨j + 1, by omega, by go_num, HK.out (by rw [HLt.out]; rfl), fun _ => HK0.out HLt.out⟩
              case measure => simp [intOf]; omega
            · by_cases he : z = 95
              · have e95 : (z == 95) = true := by simpa using he
                have HLt : Hid (isLt y = true) := by show _ = _; simp only [isLt, inR, hyn]; simp [he]
                clear hyn he
                go_wp2
                go_round
                case rel => exact ⟨j + 1, by omega, by go_num, HK.out (by rw [HLt.out]; rfl), fun _ => HK0.out HLt.out⟩
                case measure => simp [intOf]; omega
              · skip
                have e95 : (z == 95) = false := by rw [beq_eq_false_iff_ne]; omega
                have f3 : ¬ z < 48 := by omega
                have f4 : 57 < z := by omega
                have HLt : Hid (isLt y = false) := by show _ = _; simp only [isLt, inR, hyn]; simp; omega
                have HDg : Hid (isDg y = false) := by show _ = _; simp only [isDg, inR, hyn]; simp; omega
                have HF : Hid (isNm s.data.toList = false) := nm_bad _ j y HY.out (by rw [HLt.out, HDg.out]; rfl)
                clear hyn HK HK0 he
                cases hj0 : ((j : Int) == 0) with
                | true => go_wp2; go_ret; exact ⟨ret_bool HF.out.symm, rfl⟩
                | false => go_wp2; go_ret; exact ⟨ret_bool HF.out.symm, rfl⟩
          · by_cases hd : z < 48
            · skip
              have e95 : (z == 95) = false := by rw [beq_eq_false_iff_ne]; omega
              have HLt : Hid (isLt y = false) := by show _ = _; simp only [isLt, inR, hyn]; simp; omega
              have HDg : Hid (isDg y = false) := by show _ = _; simp only [isDg, inR, hyn]; simp; omega
              have HF : Hid (isNm s.data.toList = false) := nm_bad _ j y HY.out (by rw [HLt.out, HDg.out]; rfl)
              clear hyn HK HK0
              cases hj0 : ((j : Int) == 0) with
              | true => go_wp2; go_ret; exact ⟨ret_bool HF.out.symm, rfl⟩
              | false => go_wp2; go_ret; exact ⟨ret_bool HF.out.symm, rfl⟩
            · by_cases he : 57 < z
              · skip
                have e95 : (z == 95) = false := by rw [beq_eq_false_iff_ne]; omega
                have HLt : Hid (isLt y = false) := by show _ = _; simp only [isLt, inR, hyn]; simp; omega
                have HDg : Hid (isDg y = false) := by show _ = _; simp only [isDg, inR, hyn]; simp; omega
                have HF : Hid (isNm s.data.toList = false) := nm_bad _ j y HY.out (by rw [HLt.out, HDg.out]; rfl)
                clear hyn HK HK0
                cases hj0 : ((j : Int) == 0) with
                | true => go_wp2; go_ret; exact ⟨ret_bool HF.out.symm, rfl⟩
                | false => go_wp2; go_ret; exact ⟨ret_bool HF.out.symm, rfl⟩
              · skip
                have e95 : (z == 95) = false := by rw [beq_eq_false_iff_ne]; omega
                have HLt : Hid (isLt y = false) := by show _ = _; simp only [isLt, inR, hyn]; simp; omega
                have HDg : Hid (isDg y = true) := by show _ = _; simp only [isDg, inR, hyn]; simp; omega
                clear hyn HK0
                cases hj0 : ((j : Int) == 0) with
                | true =>
                  have hz : j = 0 := by simpa using hj0
                  have HF : Hid (isNm s.data.toList = false) := by
                    have h0 := HY.out
                    rw [hz] at h0
                    show _ = _
                    cases hd : s.data.toList with
                    | nil => rw [hd] at h0; simp at h0
                    | cons a b => rw [hd] at h0; simp at h0; subst h0; exact nm_first _ b HLt.out
                  clear hz HK
                  go_wp2
                  go_ret
                  exact ⟨ret_bool HF.out.symm, rfl⟩
                | false =>
                  have hz : Hid (0 < j) := by show 0 < j; have : ¬ j = 0 := (by simpa using hj0); omega
                  go_wp2
                  go_round
                  case rel => exact ⟨j + 1, by omega, by go_num, HK.out (by rw [HDg.out, Bool.or_true]), fun _ => H0.out hz.out⟩
                  case measure => simp [intOf]; omega
    · obtain rfl : j = s.size := by omega
      have hlt' : ¬ ((s.size : Nat) : Int) < (s.size : Nat) := by omega
      have HT : Hid (isNm s.data.toList = (decide (1 ≤ (s.size : Int)) && decide ((s.size : Int) ≤ 63))) := by
        show _ = _
        by_cases h1 : 1 ≤ s.size
        · by_cases h63 : s.size ≤ 63
          · rw [decide_eq_true (by omega), decide_eq_true (by omega)]
            exact nm_all _ (by rw [HL.out]; exact h63) (fun c hc => H0.out (by omega) c hc) (fun e => by have := HL.out; rw [e] at this; simp at this; omega) (fun k c hk => HJ.out k c (by have := (List.getElem?_eq_some_iff.1 hk).1; rw [HL.out] at this; exact this) hk)
          · rw [decide_eq_true (by omega), decide_eq_false (by omega)]
            exact nm_long _ (by rw [HL.out]; omega)
        · rw [decide_eq_false (by omega)]
          have h0 : s.data.toList = [] := List.eq_nil_of_length_eq_zero (by rw [HL.out]; omega)
          rw [h0]
          rfl
      clear HJ H0
      by_cases h1 : 1 ≤ (s.size : Int)
      · go_wp2
        go_ret
        exact ⟨ret_bool (by rw [HT.out, decide_eq_true h1]; simp), rfl⟩
      · go_wp2
        go_ret
        exact ⟨ret_bool (by rw [HT.out, decide_eq_false (by omega)]; rfl), rfl⟩
end Go.Proofs.YtidhjajobacnaaaGreatDoor

namespace Go.Proofs.YtidhjajobacnaaaGreatDoor
open Go.RowKit
set_option linter.unusedVariables false

def ctrE (x : Ct) : Int := if (inR x.max 1 2147483647 && inR x.base 1 2147483647 && inR x.min 1 x.max) = true then 0 else 74
set_option maxHeartbeats 2000000 in
set_option maxRecDepth 100000 in
theorem rcounter_any (w : World) (c : Cf) (v : Vs) (h : CfAt w c v) (i : Nat) (x : Ct) (hi : c.ctrs[i]? = some x) :
    Calls Tryz.prog 32 #[.agg (cfC c v), I i] w fun e w' => e = .returned (I (ctrE x)) ∧ Below w.heap.size w w' := by
  have hn : v.k.n = c.ctrs.length := h.k.n
  have hlt : (i : Int) < v.k.n := by have := (List.getElem?_eq_some_iff.1 hi).1; omega
  obtain ⟨g, off, e, hg, a0, a1, a2, a3⟩ := ct_at h hi
  have hne : g ≠ w.heap.size := by omega
  have hb := below_alloc w
  have hb2 := fun o o' => (hb o).trans ((below_alloc (w.alloc o) o').mono (hb o).size)
  have f14 : ∀ h : 14 < (cfC c v).size, (cfC c v)[14] = .slice v.k.a v.k.n v.k.c := fun _ => rfl
  have hs18 : (cfC c v).size = 18 := rfl
  generalize cfC c v = C at *
  replace f14 := f14 (by omega)
  rw [e] at f14
  clear hi hn
  obtain ⟨R, hR⟩ : ∃ R, R = ctrE x := ⟨_, rfl⟩
  rw [← hR]
  unfold ctrE inR at hR
  have HR : Hid (R = _) := hR
  clear hR
  by_cases h0 : (x.max : Int) < 1
  · have HE : Hid (R = 74) := by show _ = _; rw [HR.out, if_neg (by simp; omega)]
    clear HR
    go_enter Tryz.func32, Tryz.ntmps32
    go_wp2
    go_ret
    exact ⟨ret_int HE.out.symm, hb2 _ _⟩
  · skip
    by_cases h1 : 2147483647 < (x.max : Int)
    · have HE : Hid (R = 74) := by show _ = _; rw [HR.out, if_neg (by simp; omega)]
      clear HR
      go_enter Tryz.func32, Tryz.ntmps32
      go_wp2
      go_ret
      exact ⟨ret_int HE.out.symm, hb2 _ _⟩
    · skip
      by_cases h2 : (x.base : Int) < 1
      · have HE : Hid (R = 74) := by show _ = _; rw [HR.out, if_neg (by simp; omega)]
        clear HR
        go_enter Tryz.func32, Tryz.ntmps32
        go_wp2
        go_ret
        exact ⟨ret_int HE.out.symm, hb2 _ _⟩
      · skip
        by_cases h3 : 2147483647 < (x.base : Int)
        · have HE : Hid (R = 74) := by show _ = _; rw [HR.out, if_neg (by simp; omega)]
          clear HR
          go_enter Tryz.func32, Tryz.ntmps32
          go_wp2
          go_ret
          exact ⟨ret_int HE.out.symm, hb2 _ _⟩
        · skip
          by_cases h4 : (x.min : Int) < 1
          · have HE : Hid (R = 74) := by show _ = _; rw [HR.out, if_neg (by simp; omega)]
            clear HR
            go_enter Tryz.func32, Tryz.ntmps32
            go_wp2
            go_ret
            exact ⟨ret_int HE.out.symm, hb2 _ _⟩
          · skip
            by_cases h5 : (x.max : Int) < (x.min : Int)
            · have HE : Hid (R = 74) := by show _ = _; rw [HR.out, if_neg (by simp; omega)]
              clear HR
              go_enter Tryz.func32, Tryz.ntmps32
              go_wp2
              go_ret
              exact ⟨ret_int HE.out.symm, hb2 _ _⟩
            · skip
              have HE : Hid (R = 0) := by show _ = _; rw [HR.out, if_pos (by simp; omega)]
              clear HR
              go_enter Tryz.func32, Tryz.ntmps32
              go_wp2
              go_ret
              exact ⟨ret_int HE.out.symm, hb2 _ _⟩
set_option maxHeartbeats 1000000 in
theorem rhas_any (w : World) (s : Sl) (l : List Int) (h : RowsAt w 1 intP s l) (x : Int) : Calls Tryz.prog 110 #[.slice s.a s.n s.c, I x] w fun e w' => e = .returned (.bool (hasL l x)) ∧ w' = w := by
  obtain ⟨sa, sn, sc⟩ := s
  have HN : Hid (sn = l.length) := h.n
  have hc : sn ≤ sc := h.c
  have hm : sc ≤ maxLen := h.m
  dsimp only
  unfold maxLen at hm
  go_enter Tryz.func110, Tryz.ntmps110
  go_wp2
  go_loop [5] (fun i => ∃ j : Nat, j ≤ sn ∧ i = .int .i64 j ∧ Hid (hasL l x = hasL (l.drop j) x)) (fun i => sn - (intOf i).toNat)
  case atStart => exact ⟨0, by omega, rfl, rfl⟩
  case round =>
    obtain ⟨j, hj, rfl, HR⟩ := hrel
    by_cases hlt : j < sn
    · have hlt' : (j : Int) < sn := by omega
      have hjl : j < l.length := by rw [← HN.out]; exact hlt
      obtain ⟨y, hy⟩ : ∃ y, l[j]? = some y := ⟨l[j], List.getElem?_eq_getElem hjl⟩
      obtain ⟨g, off, e, hg, hcx⟩ := ints_at h hy
      dsimp only at e
      subst e
      have HE : Hid (hasL l x = ((x == y) || hasL (l.drop (j + 1)) x)) := by
        show _ = _
        rw [HR.out, List.drop_eq_getElem_cons hjl]
        rw [List.getElem?_eq_getElem hjl] at hy
        rw [Option.some.inj hy]
        rfl
      clear hy hjl HR
      cases hk : y == x with
      | true =>
        have HE2 : Hid (hasL l x = true) := by show _ = _; rw [HE.out, show (x == y) = true by rw [beq_iff_eq] at hk ⊢; exact hk.symm]; rfl
        clear HE
        go_wp2
        go_ret
        exact ⟨ret_bool HE2.out.symm, rfl⟩
      | false =>
        have HE2 : Hid (hasL l x = hasL (l.drop (j + 1)) x) := by show _ = _; rw [HE.out, show (x == y) = false by rw [beq_eq_false_iff_ne] at hk ⊢; exact fun e => hk e.symm]; rfl
        clear HE
        go_wp2
        go_round
        case rel => exact ⟨j + 1, by omega, by go_num, HE2⟩
        case measure => simp [intOf]; omega
    · obtain rfl : j = sn := by omega
      have hlt' : ¬ (j : Int) < j := by omega
      have HE2 : Hid (hasL l x = false) := by show _ = _; rw [HR.out, List.drop_eq_nil_of_le (by rw [← HN.out]; exact Nat.le_refl _)]; rfl
      go_wp2
      go_ret
      exact ⟨ret_bool HE2.out.symm, rfl⟩
end Go.Proofs.YtidhjajobacnaaaGreatDoor

