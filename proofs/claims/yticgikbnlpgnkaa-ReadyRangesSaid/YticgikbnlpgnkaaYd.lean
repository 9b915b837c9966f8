import Derived.Test.YticgikbnlpgnkaaYc
import Derived.Deep.WholeRow
namespace Go.Proofs.Yticgikbnlpgnkaa
open Go.RowKit
set_option linter.unusedVariables false
set_option linter.unusedSimpArgs false

/-! ### Queues: New -/
def rwP (x : Int × Int) (i : Nat) (u : Value) : Prop := (i = 0 → u = I x.1) ∧ (i = 1 → u = I x.2)
def fitB (a : Int) : List (Int × Int) → Bool
  | [] => true
  | (p, c) :: t => decide (0 ≤ p ∧ p ≤ 63) && decide (p < a) && decide (1 ≤ c ∧ c ≤ 65536) && fitB p t
theorem RowsAt.two {w W : World} {a : Option Addr} {n c : Nat} {l : List (Int × Int)} (h : RowsAt w 2 rwP ⟨a, n, c⟩ l) (hb : Below w.heap.size w W) {j : Nat} {p q : Int} (hj : l[j]? = some (p, q)) : ∃ g off, a = some ⟨g, off, none⟩ ∧ W.cell? ⟨g, off + j * 2, none⟩ = some (I p) ∧ W.cell? ⟨g, off + j * 2 + 1, none⟩ = some (I q) ∧ g < w.heap.size := by
  obtain ⟨g, off, e, hg, hr⟩ := h.row j _ hj
  obtain ⟨u0, h0, k0⟩ := hr 0 (by decide)
  obtain ⟨u1, h1, k1⟩ := hr 1 (by decide)
  have e0 := k0.1 rfl
  have e1 := k1.2 rfl
  subst e0 e1
  exact ⟨g, off, e, (World.cell?_of_block (hb.block g hg)).trans h0, (World.cell?_of_block (hb.block g hg)).trans h1, hg⟩
set_option maxHeartbeats 4000000 in
theorem rowsFit_any (w : World) (s : Sl) (l : List (Int × Int)) (h : RowsAt w 2 rwP s l) : Calls Try.prog 51 #[.slice s.a s.n s.c] w fun e w' => e = .returned (.bool (fitB 64 l)) ∧ Below w.heap.size w w' := by
  obtain ⟨a1, n1, c1⟩ := s
  have hn1 := h.n
  simp only at hn1
  subst hn1
  have hm := Nat.le_trans h.c h.m
  simp only at hm
  unfold maxLen at hm
  have H : Hid (RowsAt w 2 rwP ⟨a1, l.length, c1⟩ l) := h
  clear h
  simp only
  go_enter Try.func51, Try.ntmps51
  go_wp2
  go_loopw [3, 8] (fun a i wr => ∃ (k : Nat) (t : Int), k ≤ l.length ∧ i = .int .i64 k ∧ a = .int .i64 t ∧ Hid (Below w.heap.size w wr ∧ fitB 64 l = fitB t (l.drop k))) (fun _ i _ => l.length - (intOf i).toNat)
  case atStart => exact ⟨0, 64, Nat.zero_le _, rfl, rfl, Below.refl _ _, rfl⟩
  case round =>
    obtain ⟨k, t, hk, rfl, rfl, HI⟩ := hrel
    obtain ⟨hb, hf⟩ := HI.out
    clear HI
    by_cases hlt : k < l.length
    · obtain ⟨⟨p, q⟩, hx⟩ : ∃ x, l[k]? = some x := ⟨_, List.getElem?_eq_getElem hlt⟩
      obtain ⟨g, off, rfl, x0, x1, hg⟩ := H.out.two hb hx
      have hd : l.drop k = (p, q) :: l.drop (k + 1) := by
        rw [List.drop_eq_getElem_cons hlt]
        congr 1
        have := List.getElem?_eq_getElem hlt
        rw [hx] at this
        exact (Option.some.inj this).symm
      rw [hd] at hf
      have HF : Hid (fitB 64 l = fitB t ((p, q) :: l.drop (k + 1))) := hf
      have HB : Hid (Below w.heap.size w (wr.alloc (.cells #[I p, I q] 65))) := hb.alloc hb.size _
      have hst := run_storeCells_new (P := Try.prog) wr 65 #[.int .i64 0, .int .i64 0] #[I p, I q] (by kernel_rfl) rfl (by simp [Value.oneCell'])
      have hltI : (k : Int) < l.length := by omega
      have hk0 : ¬ (k : Int) < 0 := by omega
      have hP := isPrio_any p (wr.alloc (.cells #[I p, I q] 65))
      clear hd hf hx hb
      by_cases hp : 0 ≤ p ∧ p ≤ 63
      · rw [decide_eq_true hp] at hP
        have HP : Hid (0 ≤ p ∧ p ≤ 63) := hp
        clear hp
        by_cases h2 : p < t
        · by_cases h3 : q < 1
          · go_wp2_with (first | (go_at_call 59; refine hP.mono ?_; rintro e w1 ⟨rfl, rfl⟩))
            go_ret
            exact ⟨ret_bool (by rw [HF.out]; simp [fitB]; omega), HB.out⟩
          · by_cases h4 : 65536 < q
            · go_wp2_with (first | (go_at_call 59; refine hP.mono ?_; rintro e w1 ⟨rfl, rfl⟩))
              go_ret
              exact ⟨ret_bool (by rw [HF.out]; simp [fitB]; omega), HB.out⟩
            · have H9 : Hid (Below w.heap.size w (wr.alloc (.cells #[I p, I q] 65)) ∧ fitB 64 l = fitB p (l.drop (k + 1))) := ⟨HB.out, by
                rw [HF.out]
                have := HP.out
                simp only [fitB]
                rw [decide_eq_true this, decide_eq_true h2, decide_eq_true (by omega)]
                simp⟩
              clear HF HB HP
              go_wp2_with (first | (go_at_call 59; refine hP.mono ?_; rintro e w1 ⟨rfl, rfl⟩))
              go_roundw
              case rel => exact ⟨k + 1, p, by omega, by go_num, rfl, H9.out⟩
              case measure => simp [intOf]; omega
        · go_wp2_with (first | (go_at_call 59; refine hP.mono ?_; rintro e w1 ⟨rfl, rfl⟩))
          go_ret
          exact ⟨ret_bool (by rw [HF.out]; simp [fitB]; omega), HB.out⟩
      · rw [decide_eq_false hp] at hP
        have HP : Hid (¬ (0 ≤ p ∧ p ≤ 63)) := hp
        clear hp
        go_wp2_with (first | (go_at_call 59; refine hP.mono ?_; rintro e w1 ⟨rfl, rfl⟩))
        go_ret
        exact ⟨ret_bool (by rw [HF.out]; have := HP.out; simp [fitB]; omega), HB.out⟩
    · obtain rfl : k = l.length := by omega
      have hge : ¬ ((l.length : Int) < l.length) := by omega
      go_wp2
      go_ret
      rw [List.drop_length] at hf
      exact ⟨ret_bool (by first | rfl | (rw [hf]; rfl)), hb⟩
end Go.Proofs.Yticgikbnlpgnkaa
