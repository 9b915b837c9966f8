import Derived.Test.YtpoekphebmonnabUi
namespace Go.Proofs.Ytpoekphebmonnab
open Go.RowKit Go.Shelf Go.Sort
set_option linter.unusedVariables false
set_option linter.unusedSimpArgs false

/-! ### A clock within a law: it lies behind W, and none of its blocks is of Z -/
def Kp (Z : List Nat) (w w' : World) : Prop := ∀ z, z ∈ Z → w'.heap[z]? = w.heap[z]?
theorem Kp.trans {Z : List Nat} {a b c : World} (h : Kp Z a b) (k : Kp Z b c) : Kp Z a c := fun z hz => (k z hz).trans (h z hz)
theorem Kp.cell {Z : List Nat} {a b : World} (h : Kp Z a b) {X i : Nat} {v : Value} (hX : X ∈ Z) (hc : a.cell? ⟨X, i, none⟩ = some v) : b.cell? ⟨X, i, none⟩ = some v := (World.cell?_of_block (h X hX)).trans hc
structure Pk (W wr : World) (B : Nat) (v : Value) (G L V : Nat) (al : List Alm) (Z : List Nat) : Prop where
  k : Ck wr B v G L V al
  b : Below W.heap.size W wr
  o : ∀ b, Cb B v b → W.heap.size ≤ b ∧ b ∉ Z
  z : ∀ z, z ∈ Z → z < wr.heap.size
section
variable {W wr w' : World} {B G L V V' : Nat} {v : Value} {al al' : List Alm} {Z : List Nat}
theorem Pk.below (h : Pk W wr B v G L V al Z) (hb : Below wr.heap.size wr w') : Pk W w' B v G L V al Z :=
  ⟨h.k.below hb, h.b.trans (hb.mono h.b.size), h.o, fun z hz => Nat.lt_of_lt_of_le (h.z z hz) hb.size⟩
theorem Pk.kpb (h : Pk W wr B v G L V al Z) (hb : Below wr.heap.size wr w') : Kp Z wr w' := fun z hz => hb.block z (h.z z hz)
theorem Pk.weak (h : Pk W wr B v G L V al Z) : Pk W wr B v G L V al [] := ⟨h.k, h.b, fun b hb => ⟨(h.o b hb).1, by simp⟩, fun z hz => by simp at hz⟩
theorem Pk.alloc (h : Pk W wr B v G L V al []) (o : Obj) : Pk W (wr.alloc o) B v G L V al [wr.heap.size] := by
  have hb := below_alloc wr o
  exact ⟨h.k.below hb, h.b.trans (hb.mono h.b.size), fun b hq => ⟨(h.o b hq).1, by have := h.k.lt hq; simp; omega⟩, fun z hz => by simp at hz; subst hz; simp⟩
theorem Pk.step (h : Pk W wr B v G L V al Z) (hk : Ck w' B v G L V' al') (hf : Fz (Cb B v) wr w') : Pk W w' B v G L V' al' Z ∧ Kp Z wr w' :=
  ⟨⟨hk, h.b.trans (hf.below h.b.size (fun x e => (h.o x e).1)), h.o, fun z hz => Nat.lt_of_lt_of_le (h.z z hz) hf.size⟩, fun z hz => hf.block z (h.z z hz) (fun e => (h.o z e).2 hz)⟩
theorem pRel (h : Pk W wr B v G L V al Z) (t : Int) (f cy : Nat) (hf : f < 4294967296) : Calls Try.prog 13 #[cP B, I t, U f, U cy] wr fun e w' => e = .returned (I (setS al t (relB L G f cy))) ∧ Pk W w' B v G L V (setA al t (relB L G f cy) (f, cy)) Z ∧ Kp Z wr w' := by
  refine (Rel_any h.k t f cy hf).mono ?_
  rintro e w' ⟨rfl, k1, z1⟩
  exact ⟨rfl, h.step k1 z1⟩
theorem pAbs (h : Pk W wr B v G L V al Z) (t : Int) (f cy : Nat) (hf : f < 4294967296) : Calls Try.prog 14 #[cP B, I t, U f, U cy] wr fun e w' => e = .returned (I (setS al t (absB L G f cy))) ∧ Pk W w' B v G L V (setA al t (absB L G f cy) (untN G V f, cy)) Z ∧ Kp Z wr w' := by
  refine (Abs_any h.k t f cy hf).mono ?_
  rintro e w' ⟨rfl, k1, z1⟩
  exact ⟨rfl, h.step k1 z1⟩
theorem pSet (h : Pk W wr B v G L V al Z) (t : Int) (f cy : Nat) (hf : f < 4294967296) : Calls Try.prog 21 #[cP B, I t, U f, U cy] wr fun e w' => e = .returned (I (setS al t (staB G f cy))) ∧ Pk W w' B v G L V (setA al t (staB G f cy) (f, cy)) Z ∧ Kp Z wr w' := by
  refine (Set_any h.k t f cy hf).mono ?_
  rintro e w' ⟨rfl, k1, z1⟩
  exact ⟨rfl, h.step k1 z1⟩
theorem pCancel (h : Pk W wr B v G L V al Z) (t : Int) : Calls Try.prog 23 #[cP B, I t] wr fun e w' => e = .returned (I (getS al t)) ∧ Pk W w' B v G L V (canL al t) Z ∧ Kp Z wr w' := by
  refine (Cancel_any h.k t).mono ?_
  rintro e w' ⟨rfl, k1, z1⟩
  exact ⟨rfl, h.step k1 z1⟩
theorem pTick (h : Pk W wr B v G L V al Z) : Calls Try.prog 15 #[cP B] wr fun e w' => ∃ a c, e = .returned (.slice a (dueF 1 0 al).length c) ∧ w'.ownsRow wr.heap.size 3 1 (.slice a (dueF 1 0 al).length c) (dueF 1 0 al).length (inL (dueF 1 0 al)) ∧ Pk W w' B v G L (aftN G V 1) (al.map (psA 1)) Z ∧ Kp Z wr w' := by
  refine (Tick_any h.k).mono ?_
  rintro e w' ⟨u, rfl, o1, k1, z1⟩
  obtain ⟨a, c, rfl⟩ := own_sl o1
  exact ⟨a, c, rfl, o1, h.step k1 z1⟩
theorem pReset (h : Pk W wr B v G L V al Z) : Calls Try.prog 29 #[cP B] wr fun e w' => e = .returned (.tuple #[]) ∧ Pk W w' B v G L 0 (List.replicate al.length (0, 0)) Z ∧ Kp Z wr w' := by
  refine (Reset_any h.k).mono ?_
  rintro e w' ⟨rfl, k1, z1⟩
  exact ⟨rfl, h.step k1 z1⟩
theorem pLeft (h : Pk W wr B v G L V al Z) (t : Int) : Calls Try.prog 16 #[cP B, I t] wr fun e w' => e = .returned (.tuple #[Q (lftN al t : Nat), I (getS al t)]) ∧ wr = w' := Left_any h.k t
theorem pCycle (h : Pk W wr B v G L V al Z) (t : Int) : Calls Try.prog 32 #[cP B, I t] wr fun e w' => e = .returned (.tuple #[U (cycN al t : Nat), I (getS al t)]) ∧ wr = w' := Cycle_any h.k t
theorem pValue (h : Pk W wr B v G L V al Z) : Calls Try.prog 17 #[cP B] wr fun e w' => e = .returned (U V) ∧ wr = w' := Value_any h.k
/-- the alarms as the document begins to reckon -/
def d0L (al : List Alm) : List Dal := al.map fun x => (decide (x.1 ≠ 0), x.1, x.2)
def comL (al : List Alm) (most : Int) : List (Nat × Nat) := dseq (mnN (posN most) 65536) (d0L al)
theorem pComing (h : Pk W wr B v G L V al Z) (most : Int) : Calls Try.prog 27 #[cP B, I most] wr fun e w' => ∃ a c, e = .returned (.slice a (comL al most).length c) ∧ w'.ownsRow (wr.heap.size + 1) 63 2 (.slice a (comL al most).length c) (comL al most).length (flE (comL al most)) ∧ Pk W w' B v G L V al Z ∧ Kp Z wr w' := by
  refine (Coming_any h.k most).mono ?_
  rintro e w' ⟨a, c, rfl, o1, b1⟩
  exact ⟨a, c, rfl, o1, h.below b1, h.kpb b1⟩
theorem pNew (W w : World) (hb : Below W.heap.size W w) (Z : List Nat) (hz : ∀ z, z ∈ Z → z < w.heap.size) (s : ByteArray) (mx bs mn n : Nat) (hn : newB mx mn n = true) : Calls Try.prog 4 #[.agg #[.string s, U mx, U bs, U mn], I n] w fun e w' => ∃ B v, e = .returned (.tuple #[cP B, I 0]) ∧ Pk W w' B v mx mn 0 (List.replicate n (0, 0)) Z ∧ Below w.heap.size w w' ∧ ∀ b, Cb B v b → w.heap.size < b := by
  refine (New_ok w s mx bs mn n hn).mono ?_
  rintro e w' ⟨B, v, rfl, k1, o1, b1⟩
  have hs := hb.size
  refine ⟨B, v, rfl, ⟨k1, hb.trans (b1.mono hb.size), fun b hq => ⟨by have := o1 b hq; omega, fun e => by have := o1 b hq; have := hz b e; omega⟩, fun z e => Nat.lt_of_lt_of_le (hz z e) b1.size⟩, b1, o1⟩
end
/-! ### Lists -/
theorem setA_len (al : List Alm) (t : Int) (m : Bool) (y : Alm) : (setA al t m y).length = al.length := by unfold setA; split <;> simp
theorem canL_len (al : List Alm) (t : Int) : (canL al t).length = al.length := by unfold canL; split <;> simp
theorem setA_at (al : List Alm) {t : Int} (m : Bool) (y : Alm) {j : Nat} (hj : t ≠ j) : (setA al t m y)[j]? = al[j]? := by
  unfold setA
  split
  · rename_i h
    have h0 : 0 ≤ t := by
      unfold setS at h
      split at h
      · omega
      · omega
    rw [List.getElem?_set_ne (by omega)]
  · rfl
theorem canL_at (al : List Alm) {t : Int} {j : Nat} (hj : t ≠ j) : (canL al t)[j]? = al[j]? := by
  unfold canL
  split
  · rename_i h
    have h0 : 0 ≤ t := by
      unfold getS at h
      split at h
      · omega
      · omega
    rw [List.getElem?_set_ne (by omega)]
  · rfl
/-- how many ticks are left behind T ticks, if d were left at first -/
def lfA (d c T : Nat) : Nat := if T < d then d - T else if c = 0 then 0 else c - (T - d) % c
theorem mod_one_more (n c : Nat) (hc : 0 < c) : (n + 1) % c = if n % c + 1 = c then 0 else n % c + 1 := by
  have h1 := Nat.mod_lt n hc
  rw [Nat.add_mod n 1 c]
  by_cases h2 : c = 1
  · subst h2; simp [Nat.mod_one]
  · rw [Nat.mod_eq_of_lt (show 1 < c by omega)]
    split
    · rename_i h; rw [h, Nat.mod_self]
    · rw [Nat.mod_eq_of_lt (by omega)]
theorem lfA_step (d c T : Nat) : psA 1 (lfA d c T, c) = (lfA d c (T + 1), c) := by
  unfold lfA psA
  by_cases h1 : T < d
  · rw [if_pos h1]
    simp only
    rw [if_neg (by omega)]
    by_cases h2 : d - T - 1 = 0
    · rw [if_pos h2, if_neg (by omega)]
      have : T + 1 - d = 0 := by omega
      rw [this]
      by_cases h3 : c = 0
      · simp [h3]
      · simp [h3]
    · rw [if_neg h2, if_pos (by omega)]
      congr 1
  · rw [if_neg h1, if_neg (show ¬ T + 1 < d by omega)]
    by_cases h3 : c = 0
    · simp [h3]
    · have hm := Nat.mod_lt (T - d) (show 0 < c by omega)
      rw [if_neg h3, if_neg h3]
      simp only
      rw [if_neg (by omega), show T + 1 - d = (T - d) + 1 by omega, mod_one_more _ _ (by omega)]
      by_cases h4 : (T - d) % c + 1 = c
      · rw [if_pos (by omega), if_pos h4]; simp
      · rw [if_neg (by omega), if_neg h4]; congr 1
theorem lfA_one (d c T : Nat) : (lfA d c T = 1) ↔ (T + 1 = d ∨ (d < T + 1 ∧ 0 < c ∧ (T + 1 - d) % c = 0)) := by
  unfold lfA
  by_cases h1 : T < d
  · rw [if_pos h1]; omega
  · rw [if_neg h1]
    by_cases h3 : c = 0
    · simp [h3]; omega
    · have hm := Nat.mod_lt (T - d) (show 0 < c by omega)
      rw [if_neg h3, show T + 1 - d = (T - d) + 1 by omega, mod_one_more _ _ (by omega)]
      by_cases h4 : (T - d) % c + 1 = c
      · rw [if_pos h4]; omega
      · rw [if_neg h4]; omega
theorem lfA_set (d c T : Nat) : (lfA d c T ≠ 0) ↔ (0 < c ∨ T < d) := by
  unfold lfA
  by_cases h1 : T < d
  · rw [if_pos h1]; omega
  · rw [if_neg h1]
    by_cases h3 : c = 0
    · simp [h3]; omega
    · have hm := Nat.mod_lt (T - d) (show 0 < c by omega)
      rw [if_neg h3]; omega
theorem aft_count {G i : Nat} (hG : 1 ≤ G) : aftN G (i % (G + 1)) 1 = (i + 1) % (G + 1) := by
  have h1 := Nat.mod_lt i (show 0 < G + 1 by omega)
  unfold aftN
  rw [Nat.min_eq_left (by omega), Nat.add_mod_mod, Nat.mod_add_mod]
theorem due_one {al : List Alm} {x : Alm} (h : al[1]? = some x) : (1 ∈ dueF 1 0 al) ↔ x.1 = 1 := by
  rw [dueF_mem]
  simp only [Nat.zero_le, true_and, Nat.sub_zero]
  constructor
  · rintro ⟨y, h1, h2⟩
    rw [h] at h1
    cases h1
    simp [dueA] at h2
    omega
  · intro h1
    exact ⟨x, h, by simp [dueA, h1]⟩
end Go.Proofs.Ytpoekphebmonnab
