import Derived.Test.YtiggbnkmggbpiaaGreatDoorLsb
namespace Go.Proofs.YtiggbnkmggbpiaaGreatDoor
open Go.RowKit
set_option linter.unusedVariables false

theorem num_c (z : Int) (w : World) : Calls Tryz.prog 11 #[.int .i64 z] w fun e w' => e = .returned (.int .i64 z) ∧ w = w' := by
  go_enter Tryz.func11, Tryz.ntmps11
  go_wp2
  go_ret
  exact ⟨rfl, rfl⟩
set_option maxHeartbeats 1000000 in
theorem alike_nil (w : World) (a a' : Option Addr) (cap cap' : Nat) : Calls Tryz.prog 15 #[.slice a 0 cap, .slice a' 0 cap'] w fun e w' => e = .returned (.bool true) ∧ Below w.heap.size w w' := by
  go_enter Tryz.func15, Tryz.ntmps15
  go_wp2
  go_loopw [5] (fun i wr => i = .int .i64 0 ∧ Below w.heap.size w wr) (fun _ _ => 0)
  case atStart => exact ⟨rfl, Below.refl _ _⟩
  case round =>
    obtain ⟨rfl, hb⟩ := hrel
    go_wp2
    go_ret
    exact ⟨rfl, hb⟩
theorem Good.val {t : List UInt8} {off : Nat} {ts : List (Tk × Nat)} (h : Good t off ts) : ∀ {i : Nat} {k : Tk} {o : Nat}, ts[i]? = some (k, o) → k.val ≤ 4294967295 := by
  induction h with
  | @fin off ho h1 h2 =>
    intro i k o hi
    cases i with
    | zero => simp at hi; obtain ⟨rfl, rfl⟩ := hi; decide
    | succ i => simp at hi
  | @more off len o k ts ho h1 h2 h3 h4 h5 h6 hg ih =>
    intro i k1 o1 hi
    cases i with
    | zero => simp at hi; obtain ⟨rfl, rfl⟩ := hi; exact tok_val h3
    | succ i => exact ih (by simpa using hi)
theorem spz_text {x : Tz} {b : List UInt8} (h : spz x = some b) : x.text.length ≤ 255 := by
  unfold spz at h
  repeat' split at h
  all_goals first
    | (cases h; done)
    | (next hh => simp [hh]; done)
    | (next ht _ => simp [ht]; done)
    | (next ht _ _ => simp [ht]; done)
    | (next hh => have h2 := hh.2; simp [nameL] at h2; omega)
    | (next hh => have h2 := hh.2; simp [strL] at h2; omega)
    | (next hh => simp [hh.2]; done)
theorem tmod_abs (c : Int) (j : Nat) (hd : ¬ j < 2) : ∃ k : Nat, k + 1 < j ∧ (c.tmod ((j : Int) - 1) = k ∨ -(k : Int) < 0 ∧ c.tmod ((j : Int) - 1) = -(k : Int)) := by
  have e : ((j : Int) - 1) = ((j - 1 : Nat) : Int) := by omega
  rw [e]
  have h1 : (c.tmod ((j - 1 : Nat) : Int)).natAbs < j - 1 := by
    rw [Int.natAbs_tmod, Int.natAbs_natCast]
    exact Nat.mod_lt _ (by omega)
  refine ⟨(c.tmod ((j - 1 : Nat) : Int)).natAbs, ?_, ?_⟩
  · omega
  · generalize c.tmod ((j - 1 : Nat) : Int) = r at *
    omega
theorem slice_pre (s : ByteArray) (o : Nat) (h : o ≤ s.size) (w : World) : (Instr.slice 9 (.string s) none (some (.int .i64 (o : Int))) none).run Tryz.prog w = .ok (.string ⟨(s.data.toList.take o).toArray⟩) w := by
  have h1 : s.extract 0 o = ⟨(s.data.toList.take o).toArray⟩ := (same_bytes _ _ (by rw [Lib.extract_data]; simp)).symm
  have h2 : (0 : Int) ≤ o ∧ (o : Int) ≤ s.size := by omega
  simp [go_sem, h2, h1]
theorem rowT_take {w : World} {g n cap : Nat} {xs : List Tp} (h : RowT w (.slice (some ⟨g, 0, none⟩) n cap) xs) (k : Nat) (hk : k ≤ n) : RowT w (.slice (some ⟨g, 0, none⟩) k cap) (xs.take k) := by
  cases h with
  | nil =>
    have : k = 0 := by omega
    subst this
    exact .nil
  | some hg hc h1 =>
    have hl : (xs.take k).length = k := by rw [List.length_take]; omega
    have hr : RowT w (.slice (some ⟨g, 0, none⟩) (xs.take k).length cap) (xs.take k) := by
      refine .some hg (fun j u hj => hc j u ?_) (by omega)
      have e : tpsL xs = tpsL (xs.take k) ++ tpsL (xs.drop k) := by
        unfold tpsL
        rw [← List.flatMap_append, List.take_append_drop]
      rw [e, List.getElem?_append_left (List.getElem?_eq_some_iff.1 hj).1]
      exact hj
    rwa [hl] at hr
theorem rowT_cap {w : World} {g n cap : Nat} {xs : List Tp} (h : RowT w (.slice (some ⟨g, 0, none⟩) n cap) xs) : n ≤ cap := by
  cases h with
  | nil => omega
  | some hg hc h1 => exact h1
theorem alike_pre (w : World) (g cap g' cap' n n' k : Nat) (xs ys : List Tp) (hR : RowT w (.slice (some ⟨g, 0, none⟩) n cap) xs) (hR' : RowT w (.slice (some ⟨g', 0, none⟩) n' cap') ys) (hk : k ≤ n) (hk' : k ≤ n') (hx : xs.length = n) (hxy : (xs.take k).map (·.z) = (ys.take k).map (·.z)) (hn : k < 4294967296) :
    Calls Tryz.prog 15 #[.slice (some ⟨g, 0, none⟩) k cap, .slice (some ⟨g', 0, none⟩) k cap'] w fun e w' => e = .returned (.bool true) ∧ Below w.heap.size w w' := by
  rcases Nat.eq_zero_or_pos k with h0 | h0
  · subst h0
    exact alike_nil w _ _ cap cap'
  · exact alike_eq w g 0 cap g' 0 cap' k _ _ (rowT_take hR k hk) (rowT_take hR' k hk') hxy (by rw [List.length_take]; omega) hn h0
theorem tail_spell (B0 : Nat) (p : Nat → Addr) {t : List UInt8} {ts : List (Tk × Nat)} (hG : Good t 0 ts) {i : Nat} {k : Tk} {o : Nat} (hi : ts[i]? = some (k, o)) (hl : i + 1 < ts.length) (w : World) (hE : Env B0 p w) (hT : EnvT w) :
    ∃ X : ByteArray, X ≠ ⟨#[]⟩ ∧ ∀ (a l c : Int) (W : World), Below w.heap.size w W → Calls Tryz.prog 17 #[.agg #[.int .i64 (k.kind : Int), .int .i64 a, .int .i64 l, .int .i64 c, .string ⟨k.text.toArray⟩, .int .u32 (k.val : Int), .bool k.hex]] W fun e w' => e = .returned (.tuple #[.string X, .int .i64 0]) ∧ Below W.heap.size W w' := by
  have h0 : k.kind ≠ 0 := fun e => by have := (hG.ord hi).last.1 e; omega
  obtain ⟨b, hb, hb0⟩ := hG.spell hi h0
  refine ⟨⟨b.toArray⟩, fun e => hb0 (by have := congrArg (fun x : ByteArray => x.data.toList) e; simpa using this), fun a l c W hW => ?_⟩
  have c3 := Spell_any B0 p ⟨(k.kind : Int), k.text, k.val, k.hex⟩ a l c W (hE.below (hW.mono hE.size)) (hT.below hW) ⟨by have := hG.val hi; show k.val < _; omega, by have := spz_text hb; show k.text.length < _; simp only at this; omega⟩
  unfold spV2 at c3
  rw [hb] at c3
  exact c3
theorem tail_scan (B0 : Nat) (p : Nat → Addr) {t : List UInt8} {ts : List (Tk × Nat)} (hG : Good t 0 ts) (ht : t.length ≤ 262144) {i : Nat} {k : Tk} {o : Nat} (hi : ts[i]? = some (k, o)) (w : World) (hE : Env B0 p w) (hF : EnvF B0 p w) :
    ∃ zs : List Tp, (zs.take i).map (·.z) = ((ts.map (tpOf t)).take i).map (·.z) ∧ zs.length = i + 1 ∧ ∀ (W : World), Below w.heap.size w W → Calls Tryz.prog 9 #[.string ⟨(t.take o).toArray⟩] W fun e w' => ∃ g cap, e = .returned (.tuple #[.slice (some ⟨g, 0, none⟩) (i + 1) cap, .agg zero5]) ∧ RowT w' (.slice (some ⟨g, 0, none⟩) (i + 1) cap) zs ∧ Below W.heap.size W w' := by
  have hil := (List.getElem?_eq_some_iff.1 hi).1
  have hlt : (ts.take i ++ [(endK, o)]).length = i + 1 := by simp; omega
  have hlz : ((ts.take i ++ [(endK, o)]).map (tpOf (t.take o))).length = i + 1 := by rw [List.length_map]; exact hlt
  refine ⟨(ts.take i ++ [(endK, o)]).map (tpOf (t.take o)), ?_, hlz, fun W hW => ?_⟩
  · rw [← List.map_take, ← List.map_take, List.take_append_of_le_length (by simp; omega), List.take_take, Nat.min_self, List.map_map, List.map_map]
    rfl
  · have c4 := Scan_any B0 p ⟨(t.take o).toArray⟩ W (hE.below (hW.mono hE.size)) (hF.below hE (hW.mono hE.size)) (by show (t.take o).toArray.size < _; simp; omega)
    rw [show (⟨(t.take o).toArray⟩ : ByteArray).data.toList = t.take o from rfl, good_scanA (hG.cut hi) (by rw [List.length_take]; omega)] at c4
    refine c4.mono ?_
    rintro e w1 ⟨v, rfl, hO, hb1⟩
    rw [tks_tps, hlt] at hO
    have hR := row_own hO hlz.symm
    rcases hO.2 with ⟨_, h0⟩ | ⟨g, cap, cur, hv, _⟩
    · omega
    · subst hv
      exact ⟨g, cap, rfl, hR, hb1⟩
end Go.Proofs.YtiggbnkmggbpiaaGreatDoor
