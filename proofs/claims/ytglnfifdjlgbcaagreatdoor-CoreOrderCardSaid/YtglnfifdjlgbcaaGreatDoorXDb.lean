import Derived.Test.YtglnfifdjlgbcaaGreatDoorUa
import Derived.Laws.OwnMore
import Derived.Deep.MidRow
import Derived.Deep.WholeRow
namespace Go.Proofs.YtglnfifdjlgbcaaGreatDoor.Tk
open Go.RowKit
set_option linter.unusedVariables false
set_option linter.unusedSimpArgs false

/-! ### Lists: tasks, their states and activations -/
abbrev Rw := Int × Bool
abbrev Sd := Nat × Nat
def flR : List Rw → List Value
  | [] => []
  | x :: r => I x.1 :: .bool x.2 :: flR r
def flS : List Sd → List Value
  | [] => []
  | x :: r => I x.1 :: I x.2 :: flS r
theorem flR_len (l : List Rw) : (flR l).length = l.length * 2 := by
  induction l with
  | nil => rfl
  | cons x r ih => simp only [flR, List.length_cons, ih]; omega
theorem flS_len (l : List Sd) : (flS l).length = l.length * 2 := by
  induction l with
  | nil => rfl
  | cons x r ih => simp only [flS, List.length_cons, ih]; omega
theorem flR_app (a b : List Rw) : flR (a ++ b) = flR a ++ flR b := by
  induction a with
  | nil => rfl
  | cons x r ih => simp only [List.cons_append, flR, ih]
theorem flR_at : ∀ {l : List Rw} {i : Nat} {x : Rw}, l[i]? = some x → (flR l)[i * 2]? = some (I x.1) ∧ (flR l)[i * 2 + 1]? = some (.bool x.2)
  | [], i, x, h => by simp at h
  | y :: r, 0, x, h => by simp at h; subst h; exact ⟨rfl, rfl⟩
  | y :: r, i + 1, x, h => by
    rw [show (i + 1) * 2 = i * 2 + 2 by omega]
    exact flR_at (l := r) (by simpa using h)
theorem flS_at : ∀ {l : List Sd} {i : Nat} {x : Sd}, l[i]? = some x → (flS l)[i * 2]? = some (I x.1) ∧ (flS l)[i * 2 + 1]? = some (I x.2)
  | [], i, x, h => by simp at h
  | y :: r, 0, x, h => by simp at h; subst h; exact ⟨rfl, rfl⟩
  | y :: r, i + 1, x, h => by
    rw [show (i + 1) * 2 = i * 2 + 2 by omega]
    exact flS_at (l := r) (by simpa using h)
theorem flS_set : ∀ (l : List Sd) (i : Nat) (x : Sd), flS (l.set i x) = ((flS l).set (i * 2) (I x.1)).set (i * 2 + 1) (I x.2)
  | [], i, x => by simp [flS]
  | y :: r, 0, x => by simp [flS]
  | y :: r, i + 1, x => by
    rw [show (i + 1) * 2 = i * 2 + 2 by omega]
    simp only [List.set_cons_succ, flS, flS_set r i x]
theorem flR_one (l : List Rw) : ∀ v ∈ flR l, v.oneCell' = true := by
  induction l with
  | nil => intro v hv; simp [flR] at hv
  | cons x r ih =>
    intro v hv
    simp only [flR, List.mem_cons] at hv
    rcases hv with rfl | rfl | hv
    · rfl
    · rfl
    · exact ih v hv
theorem flS_one (l : List Sd) : ∀ v ∈ flS l, v.oneCell' = true := by
  induction l with
  | nil => intro v hv; simp [flS] at hv
  | cons x r ih =>
    intro v hv
    simp only [flS, List.mem_cons] at hv
    rcases hv with rfl | rfl | hv
    · rfl
    · rfl
    · exact ih v hv
theorem set_self {α : Type} {l : List α} {i : Nat} {a : α} (h : l[i]? = some a) : l.set i a = l := by
  apply List.ext_getElem?
  intro j
  by_cases hj : i = j
  · subst hj
    rw [List.getElem?_set_self (List.getElem?_eq_some_iff.1 h).1, h]
  · rw [List.getElem?_set_ne hj]
theorem take_snoc {α : Type} {l : List α} {k : Nat} {x : α} (h : l[k]? = some x) : l.take (k + 1) = l.take k ++ [x] := by
  rw [List.take_add_one, h]; rfl

/-! ### Who runs, and those in a state -/
def runF : Nat → List Sd → Int
  | _, [] => -1
  | i, x :: r => if x.1 = 0 then (i : Int) else runF (i + 1) r
def runI (ss : List Sd) : Int := runF 0 ss
theorem runF_at : ∀ (l : List Sd) (i k : Nat) (x : Sd), l[k]? = some x → x.1 = 0 → (∀ j y, j < k → l[j]? = some y → y.1 ≠ 0) → runF i l = ((i + k : Nat) : Int)
  | [], _, _, _, h, _, _ => by simp at h
  | y :: r, i, 0, x, h, h0, _ => by simp at h; subst h; simp [runF, h0]
  | y :: r, i, k + 1, x, h, h0, hn => by
    have hy := hn 0 y (by omega) (by simp)
    rw [runF, if_neg hy, runF_at r (i + 1) k x (by simpa using h) h0 (fun j z hj hz => hn (j + 1) z (by omega) (by simpa using hz))]
    congr 1
    omega
theorem runF_no : ∀ (l : List Sd) (i : Nat), (∀ (j : Nat) (y : Sd), l[j]? = some y → y.1 ≠ 0) → runF i l = -1
  | [], _, _ => rfl
  | y :: r, i, hn => by
    rw [runF, if_neg (hn 0 y (by simp))]
    exact runF_no r (i + 1) (fun j z hz => hn (j + 1) z (by simpa using hz))
theorem runF_cases : ∀ (l : List Sd) (i : Nat), (runF i l = -1 ∧ ∀ (j : Nat) (y : Sd), l[j]? = some y → y.1 ≠ 0) ∨ ∃ k n : Nat, runF i l = ((i + k : Nat) : Int) ∧ l[k]? = some (0, n)
  | [], i => .inl ⟨rfl, fun j y h => by simp at h⟩
  | y :: r, i => by
    by_cases hy : y.1 = 0
    · refine .inr ⟨0, y.2, by simp [runF, hy], ?_⟩
      obtain ⟨a, b⟩ := y
      simp only at hy
      subst hy
      rfl
    · rcases runF_cases r (i + 1) with ⟨h1, h2⟩ | ⟨k, n, h1, h2⟩
      · refine .inl ⟨by rw [runF, if_neg hy]; exact h1, fun j z hz => ?_⟩
        cases j with
        | zero => simp at hz; subst hz; exact hy
        | succ j => exact h2 j z (by simpa using hz)
      · exact .inr ⟨k + 1, n, by rw [runF, if_neg hy, h1]; congr 1; omega, by simpa using h2⟩
theorem run_cases (ss : List Sd) : (runI ss = -1 ∧ ∀ (j : Nat) (y : Sd), ss[j]? = some y → y.1 ≠ 0) ∨ ∃ k n : Nat, runI ss = (k : Int) ∧ ss[k]? = some (0, n) := by
  rcases runF_cases ss 0 with h | ⟨k, n, h1, h2⟩
  · exact .inl h
  · exact .inr ⟨k, n, by rw [runI, h1]; simp, h2⟩
def thF (s : Int) : Nat → List Sd → List Nat
  | _, [] => []
  | i, x :: r => (if (x.1 : Int) = s then [i] else []) ++ thF s (i + 1) r
theorem thF_snoc (s : Int) : ∀ (l : List Sd) (i : Nat) (x : Sd), thF s i (l ++ [x]) = thF s i l ++ (if (x.1 : Int) = s then [i + l.length] else [])
  | [], i, x => by simp [thF]
  | y :: r, i, x => by
    simp only [List.cons_append, thF, thF_snoc s r (i + 1) x, List.append_assoc, List.length_cons]
    rw [show i + 1 + r.length = i + (r.length + 1) by omega]
theorem thF_len (s : Int) : ∀ (l : List Sd) (i : Nat), (thF s i l).length ≤ l.length
  | [], i => by simp [thF]
  | y :: r, i => by
    have := thF_len s r (i + 1)
    simp only [thF, List.length_append, List.length_cons]
    split <;> simp <;> omega
def inL (l : List Nat) : List Value := l.map fun (i : Nat) => I (i : Int)

/-! ### The calls, on lists -/
def mayR (x : Rw) : Bool := if x.2 = true then decide (x.1 = 1) else decide (1 ≤ x.1) && decide (x.1 ≤ 255)
def mayN (rs : List Rw) : Bool := decide (rs.length ≤ 256) && rs.all mayR
theorem mayR_le {x : Rw} (h : mayR x = true) : 1 ≤ x.1 ∧ x.1 ≤ 255 ∧ (x.2 = true → x.1 = 1) := by
  unfold mayR at h
  split at h
  · have := of_decide_eq_true h; exact ⟨by omega, by omega, fun _ => this⟩
  · rename_i h2
    simp at h
    exact ⟨h.1, h.2, fun e => absurd e h2⟩
def hasB (n : Nat) (t : Int) : Bool := decide (0 ≤ t) && decide (t < n)
def rwA (rs : List Rw) (t : Int) : Rw := rs.getD t.toNat (0, false)
def sdA (ss : List Sd) (t : Int) : Sd := ss.getD t.toNat (0, 0)
theorem rwA_at {rs : List Rw} {k : Nat} {r : Rw} (h : rs[k]? = some r) : rwA rs k = r := by unfold rwA; rw [Int.toNat_natCast, List.getD_eq_getElem?_getD, h]; rfl
theorem sdA_at {ss : List Sd} {k : Nat} {x : Sd} (h : ss[k]? = some x) : sdA ss k = x := by unfold sdA; rw [Int.toNat_natCast, List.getD_eq_getElem?_getD, h]; rfl
theorem hasB_at {n k : Nat} (h : k < n) : hasB n k = true := by unfold hasB; simp; exact h
theorem has_cases {rs : List Rw} {ss : List Sd} (hl : ss.length = rs.length) (t : Int) : (hasB rs.length t = false ∧ (t < 0 ∨ (rs.length : Int) ≤ t)) ∨ ∃ (k : Nat) (r : Rw) (x : Sd), t = k ∧ k < rs.length ∧ rs[k]? = some r ∧ ss[k]? = some x := by
  by_cases h : 0 ≤ t ∧ t < rs.length
  · obtain ⟨k, rfl⟩ := Int.eq_ofNat_of_zero_le h.1
    have hk : k < rs.length := by omega
    exact .inr ⟨k, rs[k], ss[k]'(by omega), rfl, hk, List.getElem?_eq_getElem hk, List.getElem?_eq_getElem (by omega)⟩
  · refine .inl ⟨?_, by omega⟩
    unfold hasB
    simp
    omega
def actS (rs : List Rw) (ss : List Sd) (t : Int) : Int := if hasB rs.length t = true then (if (rwA rs t).1 ≤ ((sdA ss t).2 : Int) then 4 else 0) else 3
def actB (rs : List Rw) (ss : List Sd) (t : Int) : Bool := decide (actS rs ss t = 0) && decide ((sdA ss t).1 = 3)
def actL (rs : List Rw) (ss : List Sd) (t : Int) : List Sd := if actS rs ss t = 0 then ss.set t.toNat (if (sdA ss t).1 = 3 then 2 else (sdA ss t).1, (sdA ss t).2 + 1) else ss
def staE (rs : List Rw) (ss : List Sd) (t : Int) : Int := if hasB rs.length t = true then (if runI ss = -1 then (if (sdA ss t).1 = 2 then 0 else 180) else 181) else 2
def staL (rs : List Rw) (ss : List Sd) (t : Int) : List Sd := if staE rs ss t = 0 then ss.set t.toNat (0, (sdA ss t).2) else ss
def relE (rs : List Rw) (ss : List Sd) (t : Int) : Int := if hasB rs.length t = true then (if (sdA ss t).1 = 1 then 0 else 180) else 2
def relL (rs : List Rw) (ss : List Sd) (t : Int) : List Sd := if relE rs ss t = 0 then ss.set t.toNat (2, (sdA ss t).2) else ss
def leaE (rs : List Rw) (ss : List Sd) (to : Nat) : Int := if runI ss = -1 then 180 else if to = 1 ∧ (rwA rs (runI ss)).2 = false then 180 else 0
def leaI (rs : List Rw) (ss : List Sd) (to : Nat) : Int := if leaE rs ss to = 0 then runI ss else -1
def leaL (rs : List Rw) (ss : List Sd) (to : Nat) : List Sd := if leaE rs ss to = 0 then ss.set (runI ss).toNat (to, (sdA ss (runI ss)).2) else ss
def endE (ss : List Sd) : Int := if runI ss = -1 then 180 else 0
def endS (ss : List Sd) : Nat := if runI ss = -1 then 0 else if (sdA ss (runI ss)).2 = 1 then 3 else 2
def endL (ss : List Sd) : List Sd := if runI ss = -1 then ss else ss.set (runI ss).toNat (endS ss, (sdA ss (runI ss)).2 - 1)
def staS (n : Nat) (ss : List Sd) (t : Int) : Int := if hasB n t = true then ((sdA ss t).1 : Int) else 0
def eidS (n : Nat) (t : Int) : Int := if hasB n t = true then 0 else 3
def actN (n : Nat) (ss : List Sd) (t : Int) : Int := if hasB n t = true then ((sdA ss t).2 : Int) else 0
def rstL (n : Nat) : List Sd := List.replicate n (3, 0)

/-! ### What always holds -/
def okX (r : Rw) (x : Sd) : Prop := x.1 ≤ 3 ∧ (x.2 : Int) ≤ r.1 ∧ (x.1 = 3 ↔ x.2 = 0) ∧ (x.1 = 1 → r.2 = true)
structure OKs (rs : List Rw) (ss : List Sd) : Prop where
  n : ss.length = rs.length
  m : rs.length ≤ 256
  r : ∀ x ∈ rs, mayR x = true
  s : ∀ (k : Nat) (r : Rw) (x : Sd), rs[k]? = some r → ss[k]? = some x → okX r x
  o : ∀ (i j : Nat) (x y : Sd), ss[i]? = some x → ss[j]? = some y → x.1 = 0 → y.1 = 0 → i = j
section
variable {rs : List Rw} {ss : List Sd}
theorem OKs.lim (h : OKs rs ss) {k : Nat} {r : Rw} (hr : rs[k]? = some r) : 1 ≤ r.1 ∧ r.1 ≤ 255 ∧ (r.2 = true → r.1 = 1) := mayR_le (h.r r (List.mem_of_getElem? hr))
theorem OKs.le (h : OKs rs ss) {k : Nat} {x : Sd} (hx : ss[k]? = some x) : x.1 ≤ 3 ∧ x.2 ≤ 255 := by
  have hk : k < ss.length := (List.getElem?_eq_some_iff.1 hx).1
  have hr : rs[k]? = some (rs[k]'(by have := h.n; omega)) := List.getElem?_eq_getElem _
  have h1 := h.s k _ x hr hx
  have h2 := h.lim hr
  exact ⟨h1.1, by have := h1.2.1; omega⟩
theorem OKs.set (h : OKs rs ss) {k : Nat} {r : Rw} {x y : Sd} (hr : rs[k]? = some r) (hx : ss[k]? = some x) (hy : okX r y) (ho : y.1 = 0 → ∀ (j : Nat) (z : Sd), ss[j]? = some z → z.1 = 0 → j = k) : OKs rs (ss.set k y) := by
  have hk : k < ss.length := (List.getElem?_eq_some_iff.1 hx).1
  refine ⟨by rw [List.length_set]; exact h.n, h.m, h.r, fun j r2 z h1 h2 => ?_, fun i j z1 z2 h1 h2 e1 e2 => ?_⟩
  · by_cases hj : k = j
    · subst hj
      rw [List.getElem?_set_self hk] at h2
      cases h2
      rw [hr] at h1
      cases h1
      exact hy
    · rw [List.getElem?_set_ne hj] at h2
      exact h.s j r2 z h1 h2
  · by_cases hi : k = i
    · by_cases hj : k = j
      · omega
      · rw [List.getElem?_set_ne hj] at h2
        subst hi
        rw [List.getElem?_set_self hk] at h1
        cases h1
        exact (ho e1 j z2 h2 e2).symm
    · rw [List.getElem?_set_ne hi] at h1
      by_cases hj : k = j
      · subst hj
        rw [List.getElem?_set_self hk] at h2
        cases h2
        exact ho e2 i z1 h1 e1
      · rw [List.getElem?_set_ne hj] at h2
        exact h.o i j z1 z2 h1 h2 e1 e2
theorem OKs.act (h : OKs rs ss) (t : Int) : OKs rs (actL rs ss t) := by
  unfold actL
  split
  · rename_i hs
    rcases has_cases h.n t with ⟨h0, _⟩ | ⟨k, r, x, rfl, hk, hr, hx⟩
    · rw [actS, if_neg (by rw [h0]; decide)] at hs; cases hs
    · rw [actS, if_pos (hasB_at hk), rwA_at hr, sdA_at hx] at hs
      rw [sdA_at hx, Int.toNat_natCast]
      have h1 := h.s k r x hr hx
      have hlt : ¬ (r.1 ≤ (x.2 : Int)) := by intro e; rw [if_pos e] at hs; cases hs
      refine h.set hr hx ⟨?_, ?_, ?_, ?_⟩ ?_
      · have := h1.1; dsimp only; split <;> omega
      · show ((x.2 + 1 : Nat) : Int) ≤ r.1
        omega
      · dsimp only
        have := h1.2.2.1
        split <;> constructor <;> intro e <;> omega
      · dsimp only
        intro e
        split at e
        · omega
        · exact h1.2.2.2 e
      · dsimp only
        intro e j z hz hz0
        split at e
        · omega
        · exact h.o j k z x hz hx hz0 e
  · exact h
theorem OKs.sta (h : OKs rs ss) (t : Int) : OKs rs (staL rs ss t) := by
  unfold staL
  split
  · rename_i hs
    rcases has_cases h.n t with ⟨h0, _⟩ | ⟨k, r, x, rfl, hk, hr, hx⟩
    · rw [staE, if_neg (by rw [h0]; decide)] at hs; cases hs
    · rw [staE, if_pos (hasB_at hk), sdA_at hx] at hs
      rw [sdA_at hx, Int.toNat_natCast]
      have h1 := h.s k r x hr hx
      split at hs
      · rename_i hrun
        split at hs
        · rename_i h2
          refine h.set hr hx ⟨by dsimp only; omega, h1.2.1, ?_, ?_⟩ ?_
          · dsimp only; have := h1.2.2.1; omega
          · dsimp only; intro e; omega
          · intro _ j z hz hz0
            rcases run_cases ss with ⟨_, hn⟩ | ⟨k2, n2, e2, _⟩
            · exact absurd hz0 (hn j z hz)
            · rw [hrun] at e2; omega
        · cases hs
      · cases hs
  · exact h
theorem OKs.rel (h : OKs rs ss) (t : Int) : OKs rs (relL rs ss t) := by
  unfold relL
  split
  · rename_i hs
    rcases has_cases h.n t with ⟨h0, _⟩ | ⟨k, r, x, rfl, hk, hr, hx⟩
    · rw [relE, if_neg (by rw [h0]; decide)] at hs; cases hs
    · rw [relE, if_pos (hasB_at hk), sdA_at hx] at hs
      rw [sdA_at hx, Int.toNat_natCast]
      have h1 := h.s k r x hr hx
      split at hs
      · rename_i h2
        refine h.set hr hx ⟨by dsimp only; omega, h1.2.1, ?_, ?_⟩ ?_
        · dsimp only; have := h1.2.2.1; omega
        · dsimp only; intro e; omega
        · dsimp only; intro e; omega
      · cases hs
  · exact h
theorem OKs.runs (h : OKs rs ss) (hr : runI ss ≠ -1) : ∃ (k n : Nat) (r : Rw), runI ss = (k : Int) ∧ k < rs.length ∧ ss[k]? = some (0, n) ∧ rs[k]? = some r ∧ 1 ≤ n := by
  rcases run_cases ss with ⟨e, _⟩ | ⟨k, n, e, hx⟩
  · exact absurd e hr
  · have hk : k < rs.length := by have := (List.getElem?_eq_some_iff.1 hx).1; have := h.n; omega
    have h2 := h.s k _ _ (List.getElem?_eq_getElem hk) hx
    exact ⟨k, n, rs[k], e, hk, hx, List.getElem?_eq_getElem hk, by have := h2.2.2.1; simp only at this; omega⟩
theorem OKs.lea (h : OKs rs ss) (to : Nat) (hto : to = 1 ∨ to = 2) : OKs rs (leaL rs ss to) := by
  unfold leaL
  split
  · rename_i hs
    have hne : runI ss ≠ -1 := by intro e; rw [leaE, if_pos e] at hs; cases hs
    obtain ⟨k, n, r, e, hk, hx, hr, hn⟩ := h.runs hne
    rw [leaE, if_neg hne, e, rwA_at hr] at hs
    rw [e, sdA_at hx, Int.toNat_natCast]
    have h1 := h.s k r _ hr hx
    refine h.set hr hx ⟨by dsimp only; omega, h1.2.1, ?_, ?_⟩ ?_
    · dsimp only; omega
    · dsimp only
      intro e1
      cases hb : r.2 with
      | true => rfl
      | false => rw [if_pos ⟨e1, hb⟩] at hs; cases hs
    · dsimp only; intro e1; omega
  · exact h
theorem OKs.fin (h : OKs rs ss) : OKs rs (endL ss) := by
  unfold endL
  split
  · exact h
  · rename_i hne
    obtain ⟨k, n, r, e, hk, hx, hr, hn⟩ := h.runs hne
    have h1 := h.s k r _ hr hx
    have h2 := h.lim hr
    unfold endS
    rw [if_neg hne, e, sdA_at hx, Int.toNat_natCast]
    have h3 := h1.2.1
    simp only at h3
    refine h.set hr hx ⟨?_, ?_, ?_, ?_⟩ ?_
    · dsimp only; split <;> omega
    · show ((n - 1 : Nat) : Int) ≤ r.1
      omega
    · dsimp only; split <;> omega
    · dsimp only; split <;> omega
    · dsimp only; split <;> omega
theorem OKs.rst (hm : mayN rs = true) : OKs rs (rstL rs.length) := by
  unfold mayN at hm
  rw [Bool.and_eq_true, decide_eq_true_eq, List.all_eq_true] at hm
  have key : ∀ (k : Nat) (x : Sd), (rstL rs.length)[k]? = some x → x = (3, 0) := fun k x hx => by
    unfold rstL at hx
    rw [List.getElem?_replicate] at hx
    split at hx
    · exact (Option.some.inj hx).symm
    · cases hx
  refine ⟨by simp [rstL], hm.1, fun x hx => hm.2 x hx, fun k r x hr hx => ?_, fun i j x y hx hy e1 e2 => ?_⟩
  · rw [key k x hx]
    have := mayR_le (hm.2 r (List.mem_of_getElem? hr))
    refine ⟨by decide, ?_, by simp, by simp⟩
    show (0 : Int) ≤ r.1
    omega
  · rw [key i x hx] at e1
    cases e1
theorem OKs.may (h : OKs rs ss) : mayN rs = true := by
  unfold mayN
  rw [Bool.and_eq_true, decide_eq_true_eq, List.all_eq_true]
  exact ⟨h.m, h.r⟩
end
end Go.Proofs.YtglnfifdjlgbcaaGreatDoor.Tk

namespace Go.Proofs.YtglnfifdjlgbcaaGreatDoor.Tk
open Go.RowKit
set_option linter.unusedVariables false
set_option linter.unusedSimpArgs false

/-! ### Moves that may be -/
abbrev rulC : Array Value := #[I 3, I 2, .bool true, I 2, I 0, .bool true, I 0, I 2, .bool true, I 0, I 3, .bool true, I 0, I 1, .bool false, I 1, I 2, .bool false]
def EnvR (w : World) : Prop := ∃ t fr, w.heap[0]? = some (.cells rulC t fr)
theorem EnvR.pos {w : World} (h : EnvR w) : 0 < w.heap.size := by
  obtain ⟨t, fr, h⟩ := h
  exact heap_lt h
theorem EnvR.below {w w' : World} {n : Nat} (h : EnvR w) (hb : Below n w w') (hn : 0 < n) : EnvR w' := by
  obtain ⟨t, fr, h⟩ := h
  exact ⟨t, fr, (hb.block 0 hn).trans h⟩
theorem EnvR.up {w w' : World} (h : EnvR w) (hb : Below w.heap.size w w') : EnvR w' := h.below hb h.pos
theorem box_two (w w' : World) (a b : Value) (t : TypeId) (hb : Below (w.alloc (.cells #[a, b] t)).heap.size (w.alloc (.cells #[a, b] t)) w') : w'.cell? ⟨w.heap.size, 0, none⟩ = some a ∧ w'.cell? ⟨w.heap.size, 1, none⟩ = some b := by
  have hq := (hb.block w.heap.size (by simp)).trans (heap_alloc_new w (.cells #[a, b] t))
  refine ⟨?_, ?_⟩ <;> (rw [cell_of_row _ _ _ _ _ (0, 0) hq]; rfl)
theorem ix_0 (w : World) : (Instr.index 298 (.agg #[I 3, I 2, .bool true, I 2, I 0, .bool true, I 0, I 2, .bool true, I 0, I 3, .bool true, I 0, I 1, .bool false, I 1, I 2, .bool false]) (I 0)).run Tryz.prog w = .ok (.agg #[I 3, I 2, .bool true]) w := by kernel_rfl
theorem ix_1 (w : World) : (Instr.index 298 (.agg #[I 3, I 2, .bool true, I 2, I 0, .bool true, I 0, I 2, .bool true, I 0, I 3, .bool true, I 0, I 1, .bool false, I 1, I 2, .bool false]) (I 1)).run Tryz.prog w = .ok (.agg #[I 2, I 0, .bool true]) w := by kernel_rfl
theorem ix_2 (w : World) : (Instr.index 298 (.agg #[I 3, I 2, .bool true, I 2, I 0, .bool true, I 0, I 2, .bool true, I 0, I 3, .bool true, I 0, I 1, .bool false, I 1, I 2, .bool false]) (I 2)).run Tryz.prog w = .ok (.agg #[I 0, I 2, .bool true]) w := by kernel_rfl
theorem ix_3 (w : World) : (Instr.index 298 (.agg #[I 3, I 2, .bool true, I 2, I 0, .bool true, I 0, I 2, .bool true, I 0, I 3, .bool true, I 0, I 1, .bool false, I 1, I 2, .bool false]) (I 3)).run Tryz.prog w = .ok (.agg #[I 0, I 3, .bool true]) w := by kernel_rfl
theorem ix_4 (w : World) : (Instr.index 298 (.agg #[I 3, I 2, .bool true, I 2, I 0, .bool true, I 0, I 2, .bool true, I 0, I 3, .bool true, I 0, I 1, .bool false, I 1, I 2, .bool false]) (I 4)).run Tryz.prog w = .ok (.agg #[I 0, I 1, .bool false]) w := by kernel_rfl
theorem ix_5 (w : World) : (Instr.index 298 (.agg #[I 3, I 2, .bool true, I 2, I 0, .bool true, I 0, I 2, .bool true, I 0, I 3, .bool true, I 0, I 1, .bool false, I 1, I 2, .bool false]) (I 5)).run Tryz.prog w = .ok (.agg #[I 1, I 2, .bool false]) w := by kernel_rfl
set_option maxHeartbeats 2000000 in
set_option maxRecDepth 100000 in
theorem allowed_32 (w : World) (hE : EnvR w) (x : Bool) : Calls Tryz.prog 215 #[.agg #[I 3, I 2], .bool x] w fun e w' => e = .returned (.bool true) ∧ Below w.heap.size w w' := by
  have hb := below_alloc w (.cells #[I 3, I 2] 205)
  obtain ⟨t0, fr0, hV⟩ := hE.up hb
  have hsz : (Tryz.prog.info? 298).map (·.size) = some rulC.size := by kernel_rfl
  have hi0 : ∀ w : World, (Instr.index 298 (.agg rulC) (I 0)).run Tryz.prog w = .ok (.agg #[I 3, I 2, .bool true]) w := ix_0
  have he0 : ∀ w : World, Sem.run Tryz.prog (Op.equalIn 10000 295 (Value.agg #[I 3, I 2]) (Value.agg #[I 3, I 2])) w = .ok true w := fun w => by kernel_rfl
  generalize rulC = R at *
  have HB : Hid (∀ Z, Below (w.alloc (.cells #[I 3, I 2] 205)).heap.size (w.alloc (.cells #[I 3, I 2] 205)) Z → _) := fun Z => box_two w Z (I 3) (I 2) 205
  have H0 : Hid (Below w.heap.size w (w.alloc (.cells #[I 3, I 2] 205))) := hb
  have HI : Hid (Below (w.alloc (.cells #[I 3, I 2] 205)).heap.size (w.alloc (.cells #[I 3, I 2] 205)) (w.alloc (.cells #[I 3, I 2] 205))) := Below.refl _ _
  clear hb hE
  go_enter Tryz.func215, Tryz.ntmps215
  go_wp2_with (first | (refine wpList_load_row rfl 298 _ rfl 0 rfl t0 R fr0 _ hV Tryz.underlying298 rfl hsz ?_))
  go_loopw [6, 8] (fun _ v8 wr => ∃ z : Int, 0 ≤ z ∧ z ≤ 0 ∧ v8 = I z ∧ Hid (Below (w.alloc (.cells #[I 3, I 2] 205)).heap.size (w.alloc (.cells #[I 3, I 2] 205)) wr)) (fun _ v8 _ => (1 - intOf v8).toNat)
  case atStart => exact ⟨0, by omega, by omega, rfl, HI.out⟩
  case round =>
    clear HI hV
    obtain ⟨z, h0, h1, rfl, HJ⟩ := hrel
    obtain ⟨y0, y1⟩ := HB.out wr HJ.out
    have HK : Hid (∀ o, Below (w.alloc (.cells #[I 3, I 2] 205)).heap.size (w.alloc (.cells #[I 3, I 2] 205)) (wr.alloc o)) := fun o => HJ.out.trans ((below_alloc wr o).mono HJ.out.size)
    obtain ⟨n0, n1⟩ : wr.heap.size ≠ w.heap.size ∧ w.heap.size < wr.heap.size := by have h9 := HJ.out.size; simp at h9; omega
    have u0 : ∀ o, (wr.alloc o).cell? ⟨w.heap.size, 0, none⟩ = some (I 3) := fun o => (HB.out _ (HK.out o)).1
    have u1 : ∀ o, (wr.alloc o).cell? ⟨w.heap.size, 1, none⟩ = some (I 2) := fun o => (HB.out _ (HK.out o)).2
    clear HB
    rcases (by omega : z = 0) with rfl
    · go_wp2
      go_ret
      exact ⟨rfl, H0.out.trans ((HK.out _).mono H0.out.size)⟩
set_option maxHeartbeats 2000000 in
set_option maxRecDepth 100000 in
theorem allowed_20 (w : World) (hE : EnvR w) (x : Bool) : Calls Tryz.prog 215 #[.agg #[I 2, I 0], .bool x] w fun e w' => e = .returned (.bool true) ∧ Below w.heap.size w w' := by
  have hb := below_alloc w (.cells #[I 2, I 0] 205)
  obtain ⟨t0, fr0, hV⟩ := hE.up hb
  have hsz : (Tryz.prog.info? 298).map (·.size) = some rulC.size := by kernel_rfl
  have hi0 : ∀ w : World, (Instr.index 298 (.agg rulC) (I 0)).run Tryz.prog w = .ok (.agg #[I 3, I 2, .bool true]) w := ix_0
  have hi1 : ∀ w : World, (Instr.index 298 (.agg rulC) (I 1)).run Tryz.prog w = .ok (.agg #[I 2, I 0, .bool true]) w := ix_1
  have he0 : ∀ w : World, Sem.run Tryz.prog (Op.equalIn 10000 295 (Value.agg #[I 3, I 2]) (Value.agg #[I 2, I 0])) w = .ok false w := fun w => by kernel_rfl
  have he1 : ∀ w : World, Sem.run Tryz.prog (Op.equalIn 10000 295 (Value.agg #[I 2, I 0]) (Value.agg #[I 2, I 0])) w = .ok true w := fun w => by kernel_rfl
  generalize rulC = R at *
  have HB : Hid (∀ Z, Below (w.alloc (.cells #[I 2, I 0] 205)).heap.size (w.alloc (.cells #[I 2, I 0] 205)) Z → _) := fun Z => box_two w Z (I 2) (I 0) 205
  have H0 : Hid (Below w.heap.size w (w.alloc (.cells #[I 2, I 0] 205))) := hb
  have HI : Hid (Below (w.alloc (.cells #[I 2, I 0] 205)).heap.size (w.alloc (.cells #[I 2, I 0] 205)) (w.alloc (.cells #[I 2, I 0] 205))) := Below.refl _ _
  clear hb hE
  go_enter Tryz.func215, Tryz.ntmps215
  go_wp2_with (first | (refine wpList_load_row rfl 298 _ rfl 0 rfl t0 R fr0 _ hV Tryz.underlying298 rfl hsz ?_))
  go_loopw [6, 8] (fun _ v8 wr => ∃ z : Int, 0 ≤ z ∧ z ≤ 1 ∧ v8 = I z ∧ Hid (Below (w.alloc (.cells #[I 2, I 0] 205)).heap.size (w.alloc (.cells #[I 2, I 0] 205)) wr)) (fun _ v8 _ => (2 - intOf v8).toNat)
  case atStart => exact ⟨0, by omega, by omega, rfl, HI.out⟩
  case round =>
    clear HI hV
    obtain ⟨z, h0, h1, rfl, HJ⟩ := hrel
    obtain ⟨y0, y1⟩ := HB.out wr HJ.out
    have HK : Hid (∀ o, Below (w.alloc (.cells #[I 2, I 0] 205)).heap.size (w.alloc (.cells #[I 2, I 0] 205)) (wr.alloc o)) := fun o => HJ.out.trans ((below_alloc wr o).mono HJ.out.size)
    obtain ⟨n0, n1⟩ : wr.heap.size ≠ w.heap.size ∧ w.heap.size < wr.heap.size := by have h9 := HJ.out.size; simp at h9; omega
    have u0 : ∀ o, (wr.alloc o).cell? ⟨w.heap.size, 0, none⟩ = some (I 2) := fun o => (HB.out _ (HK.out o)).1
    have u1 : ∀ o, (wr.alloc o).cell? ⟨w.heap.size, 1, none⟩ = some (I 0) := fun o => (HB.out _ (HK.out o)).2
    clear HB
    rcases (by omega : z = 0 ∨ z = 1) with rfl | rfl
    · go_wp2
      go_roundw
      case rel => exact ⟨1, by omega, by omega, rfl, HK.out _⟩
      case measure => simp [intOf]
    · go_wp2
      go_ret
      exact ⟨rfl, H0.out.trans ((HK.out _).mono H0.out.size)⟩
set_option maxHeartbeats 2000000 in
set_option maxRecDepth 100000 in
theorem allowed_02 (w : World) (hE : EnvR w) (x : Bool) : Calls Tryz.prog 215 #[.agg #[I 0, I 2], .bool x] w fun e w' => e = .returned (.bool true) ∧ Below w.heap.size w w' := by
  have hb := below_alloc w (.cells #[I 0, I 2] 205)
  obtain ⟨t0, fr0, hV⟩ := hE.up hb
  have hsz : (Tryz.prog.info? 298).map (·.size) = some rulC.size := by kernel_rfl
  have hi0 : ∀ w : World, (Instr.index 298 (.agg rulC) (I 0)).run Tryz.prog w = .ok (.agg #[I 3, I 2, .bool true]) w := ix_0
  have hi1 : ∀ w : World, (Instr.index 298 (.agg rulC) (I 1)).run Tryz.prog w = .ok (.agg #[I 2, I 0, .bool true]) w := ix_1
  have hi2 : ∀ w : World, (Instr.index 298 (.agg rulC) (I 2)).run Tryz.prog w = .ok (.agg #[I 0, I 2, .bool true]) w := ix_2
  have he0 : ∀ w : World, Sem.run Tryz.prog (Op.equalIn 10000 295 (Value.agg #[I 3, I 2]) (Value.agg #[I 0, I 2])) w = .ok false w := fun w => by kernel_rfl
  have he1 : ∀ w : World, Sem.run Tryz.prog (Op.equalIn 10000 295 (Value.agg #[I 2, I 0]) (Value.agg #[I 0, I 2])) w = .ok false w := fun w => by kernel_rfl
  have he2 : ∀ w : World, Sem.run Tryz.prog (Op.equalIn 10000 295 (Value.agg #[I 0, I 2]) (Value.agg #[I 0, I 2])) w = .ok true w := fun w => by kernel_rfl
  generalize rulC = R at *
  have HB : Hid (∀ Z, Below (w.alloc (.cells #[I 0, I 2] 205)).heap.size (w.alloc (.cells #[I 0, I 2] 205)) Z → _) := fun Z => box_two w Z (I 0) (I 2) 205
  have H0 : Hid (Below w.heap.size w (w.alloc (.cells #[I 0, I 2] 205))) := hb
  have HI : Hid (Below (w.alloc (.cells #[I 0, I 2] 205)).heap.size (w.alloc (.cells #[I 0, I 2] 205)) (w.alloc (.cells #[I 0, I 2] 205))) := Below.refl _ _
  clear hb hE
  go_enter Tryz.func215, Tryz.ntmps215
  go_wp2_with (first | (refine wpList_load_row rfl 298 _ rfl 0 rfl t0 R fr0 _ hV Tryz.underlying298 rfl hsz ?_))
  go_loopw [6, 8] (fun _ v8 wr => ∃ z : Int, 0 ≤ z ∧ z ≤ 2 ∧ v8 = I z ∧ Hid (Below (w.alloc (.cells #[I 0, I 2] 205)).heap.size (w.alloc (.cells #[I 0, I 2] 205)) wr)) (fun _ v8 _ => (3 - intOf v8).toNat)
  case atStart => exact ⟨0, by omega, by omega, rfl, HI.out⟩
  case round =>
    clear HI hV
    obtain ⟨z, h0, h1, rfl, HJ⟩ := hrel
    obtain ⟨y0, y1⟩ := HB.out wr HJ.out
    have HK : Hid (∀ o, Below (w.alloc (.cells #[I 0, I 2] 205)).heap.size (w.alloc (.cells #[I 0, I 2] 205)) (wr.alloc o)) := fun o => HJ.out.trans ((below_alloc wr o).mono HJ.out.size)
    obtain ⟨n0, n1⟩ : wr.heap.size ≠ w.heap.size ∧ w.heap.size < wr.heap.size := by have h9 := HJ.out.size; simp at h9; omega
    have u0 : ∀ o, (wr.alloc o).cell? ⟨w.heap.size, 0, none⟩ = some (I 0) := fun o => (HB.out _ (HK.out o)).1
    have u1 : ∀ o, (wr.alloc o).cell? ⟨w.heap.size, 1, none⟩ = some (I 2) := fun o => (HB.out _ (HK.out o)).2
    clear HB
    rcases (by omega : z = 0 ∨ z = 1 ∨ z = 2) with rfl | rfl | rfl
    · go_wp2
      go_roundw
      case rel => exact ⟨1, by omega, by omega, rfl, HK.out _⟩
      case measure => simp [intOf]
    · go_wp2
      go_roundw
      case rel => exact ⟨2, by omega, by omega, rfl, HK.out _⟩
      case measure => simp [intOf]
    · go_wp2
      go_ret
      exact ⟨rfl, H0.out.trans ((HK.out _).mono H0.out.size)⟩
set_option maxHeartbeats 2000000 in
set_option maxRecDepth 100000 in
theorem allowed_03 (w : World) (hE : EnvR w) (x : Bool) : Calls Tryz.prog 215 #[.agg #[I 0, I 3], .bool x] w fun e w' => e = .returned (.bool true) ∧ Below w.heap.size w w' := by
  have hb := below_alloc w (.cells #[I 0, I 3] 205)
  obtain ⟨t0, fr0, hV⟩ := hE.up hb
  have hsz : (Tryz.prog.info? 298).map (·.size) = some rulC.size := by kernel_rfl
  have hi0 : ∀ w : World, (Instr.index 298 (.agg rulC) (I 0)).run Tryz.prog w = .ok (.agg #[I 3, I 2, .bool true]) w := ix_0
  have hi1 : ∀ w : World, (Instr.index 298 (.agg rulC) (I 1)).run Tryz.prog w = .ok (.agg #[I 2, I 0, .bool true]) w := ix_1
  have hi2 : ∀ w : World, (Instr.index 298 (.agg rulC) (I 2)).run Tryz.prog w = .ok (.agg #[I 0, I 2, .bool true]) w := ix_2
  have hi3 : ∀ w : World, (Instr.index 298 (.agg rulC) (I 3)).run Tryz.prog w = .ok (.agg #[I 0, I 3, .bool true]) w := ix_3
  have he0 : ∀ w : World, Sem.run Tryz.prog (Op.equalIn 10000 295 (Value.agg #[I 3, I 2]) (Value.agg #[I 0, I 3])) w = .ok false w := fun w => by kernel_rfl
  have he1 : ∀ w : World, Sem.run Tryz.prog (Op.equalIn 10000 295 (Value.agg #[I 2, I 0]) (Value.agg #[I 0, I 3])) w = .ok false w := fun w => by kernel_rfl
  have he2 : ∀ w : World, Sem.run Tryz.prog (Op.equalIn 10000 295 (Value.agg #[I 0, I 2]) (Value.agg #[I 0, I 3])) w = .ok false w := fun w => by kernel_rfl
  have he3 : ∀ w : World, Sem.run Tryz.prog (Op.equalIn 10000 295 (Value.agg #[I 0, I 3]) (Value.agg #[I 0, I 3])) w = .ok true w := fun w => by kernel_rfl
  generalize rulC = R at *
  have HB : Hid (∀ Z, Below (w.alloc (.cells #[I 0, I 3] 205)).heap.size (w.alloc (.cells #[I 0, I 3] 205)) Z → _) := fun Z => box_two w Z (I 0) (I 3) 205
  have H0 : Hid (Below w.heap.size w (w.alloc (.cells #[I 0, I 3] 205))) := hb
  have HI : Hid (Below (w.alloc (.cells #[I 0, I 3] 205)).heap.size (w.alloc (.cells #[I 0, I 3] 205)) (w.alloc (.cells #[I 0, I 3] 205))) := Below.refl _ _
  clear hb hE
  go_enter Tryz.func215, Tryz.ntmps215
  go_wp2_with (first | (refine wpList_load_row rfl 298 _ rfl 0 rfl t0 R fr0 _ hV Tryz.underlying298 rfl hsz ?_))
  go_loopw [6, 8] (fun _ v8 wr => ∃ z : Int, 0 ≤ z ∧ z ≤ 3 ∧ v8 = I z ∧ Hid (Below (w.alloc (.cells #[I 0, I 3] 205)).heap.size (w.alloc (.cells #[I 0, I 3] 205)) wr)) (fun _ v8 _ => (4 - intOf v8).toNat)
  case atStart => exact ⟨0, by omega, by omega, rfl, HI.out⟩
  case round =>
    clear HI hV
    obtain ⟨z, h0, h1, rfl, HJ⟩ := hrel
    obtain ⟨y0, y1⟩ := HB.out wr HJ.out
    have HK : Hid (∀ o, Below (w.alloc (.cells #[I 0, I 3] 205)).heap.size (w.alloc (.cells #[I 0, I 3] 205)) (wr.alloc o)) := fun o => HJ.out.trans ((below_alloc wr o).mono HJ.out.size)
    obtain ⟨n0, n1⟩ : wr.heap.size ≠ w.heap.size ∧ w.heap.size < wr.heap.size := by have h9 := HJ.out.size; simp at h9; omega
    have u0 : ∀ o, (wr.alloc o).cell? ⟨w.heap.size, 0, none⟩ = some (I 0) := fun o => (HB.out _ (HK.out o)).1
    have u1 : ∀ o, (wr.alloc o).cell? ⟨w.heap.size, 1, none⟩ = some (I 3) := fun o => (HB.out _ (HK.out o)).2
    clear HB
    rcases (by omega : z = 0 ∨ z = 1 ∨ z = 2 ∨ z = 3) with rfl | rfl | rfl | rfl
    · go_wp2
      go_roundw
      case rel => exact ⟨1, by omega, by omega, rfl, HK.out _⟩
      case measure => simp [intOf]
    · go_wp2
      go_roundw
      case rel => exact ⟨2, by omega, by omega, rfl, HK.out _⟩
      case measure => simp [intOf]
    · go_wp2
      go_roundw
      case rel => exact ⟨3, by omega, by omega, rfl, HK.out _⟩
      case measure => simp [intOf]
    · go_wp2
      go_ret
      exact ⟨rfl, H0.out.trans ((HK.out _).mono H0.out.size)⟩
set_option maxHeartbeats 2000000 in
set_option maxRecDepth 100000 in
theorem allowed_01 (w : World) (hE : EnvR w) (x : Bool) : Calls Tryz.prog 215 #[.agg #[I 0, I 1], .bool x] w fun e w' => e = .returned (.bool x) ∧ Below w.heap.size w w' := by
  have hb := below_alloc w (.cells #[I 0, I 1] 205)
  obtain ⟨t0, fr0, hV⟩ := hE.up hb
  have hsz : (Tryz.prog.info? 298).map (·.size) = some rulC.size := by kernel_rfl
  have hi0 : ∀ w : World, (Instr.index 298 (.agg rulC) (I 0)).run Tryz.prog w = .ok (.agg #[I 3, I 2, .bool true]) w := ix_0
  have hi1 : ∀ w : World, (Instr.index 298 (.agg rulC) (I 1)).run Tryz.prog w = .ok (.agg #[I 2, I 0, .bool true]) w := ix_1
  have hi2 : ∀ w : World, (Instr.index 298 (.agg rulC) (I 2)).run Tryz.prog w = .ok (.agg #[I 0, I 2, .bool true]) w := ix_2
  have hi3 : ∀ w : World, (Instr.index 298 (.agg rulC) (I 3)).run Tryz.prog w = .ok (.agg #[I 0, I 3, .bool true]) w := ix_3
  have hi4 : ∀ w : World, (Instr.index 298 (.agg rulC) (I 4)).run Tryz.prog w = .ok (.agg #[I 0, I 1, .bool false]) w := ix_4
  have he0 : ∀ w : World, Sem.run Tryz.prog (Op.equalIn 10000 295 (Value.agg #[I 3, I 2]) (Value.agg #[I 0, I 1])) w = .ok false w := fun w => by kernel_rfl
  have he1 : ∀ w : World, Sem.run Tryz.prog (Op.equalIn 10000 295 (Value.agg #[I 2, I 0]) (Value.agg #[I 0, I 1])) w = .ok false w := fun w => by kernel_rfl
  have he2 : ∀ w : World, Sem.run Tryz.prog (Op.equalIn 10000 295 (Value.agg #[I 0, I 2]) (Value.agg #[I 0, I 1])) w = .ok false w := fun w => by kernel_rfl
  have he3 : ∀ w : World, Sem.run Tryz.prog (Op.equalIn 10000 295 (Value.agg #[I 0, I 3]) (Value.agg #[I 0, I 1])) w = .ok false w := fun w => by kernel_rfl
  have he4 : ∀ w : World, Sem.run Tryz.prog (Op.equalIn 10000 295 (Value.agg #[I 0, I 1]) (Value.agg #[I 0, I 1])) w = .ok true w := fun w => by kernel_rfl
  generalize rulC = R at *
  have HB : Hid (∀ Z, Below (w.alloc (.cells #[I 0, I 1] 205)).heap.size (w.alloc (.cells #[I 0, I 1] 205)) Z → _) := fun Z => box_two w Z (I 0) (I 1) 205
  have H0 : Hid (Below w.heap.size w (w.alloc (.cells #[I 0, I 1] 205))) := hb
  have HI : Hid (Below (w.alloc (.cells #[I 0, I 1] 205)).heap.size (w.alloc (.cells #[I 0, I 1] 205)) (w.alloc (.cells #[I 0, I 1] 205))) := Below.refl _ _
  clear hb hE
  go_enter Tryz.func215, Tryz.ntmps215
  go_wp2_with (first | (refine wpList_load_row rfl 298 _ rfl 0 rfl t0 R fr0 _ hV Tryz.underlying298 rfl hsz ?_))
  go_loopw [6, 8] (fun _ v8 wr => ∃ z : Int, 0 ≤ z ∧ z ≤ 4 ∧ v8 = I z ∧ Hid (Below (w.alloc (.cells #[I 0, I 1] 205)).heap.size (w.alloc (.cells #[I 0, I 1] 205)) wr)) (fun _ v8 _ => (5 - intOf v8).toNat)
  case atStart => exact ⟨0, by omega, by omega, rfl, HI.out⟩
  case round =>
    clear HI hV
    obtain ⟨z, h0, h1, rfl, HJ⟩ := hrel
    obtain ⟨y0, y1⟩ := HB.out wr HJ.out
    have HK : Hid (∀ o, Below (w.alloc (.cells #[I 0, I 1] 205)).heap.size (w.alloc (.cells #[I 0, I 1] 205)) (wr.alloc o)) := fun o => HJ.out.trans ((below_alloc wr o).mono HJ.out.size)
    obtain ⟨n0, n1⟩ : wr.heap.size ≠ w.heap.size ∧ w.heap.size < wr.heap.size := by have h9 := HJ.out.size; simp at h9; omega
    have u0 : ∀ o, (wr.alloc o).cell? ⟨w.heap.size, 0, none⟩ = some (I 0) := fun o => (HB.out _ (HK.out o)).1
    have u1 : ∀ o, (wr.alloc o).cell? ⟨w.heap.size, 1, none⟩ = some (I 1) := fun o => (HB.out _ (HK.out o)).2
    clear HB
    rcases (by omega : z = 0 ∨ z = 1 ∨ z = 2 ∨ z = 3 ∨ z = 4) with rfl | rfl | rfl | rfl | rfl
    · go_wp2
      go_roundw
      case rel => exact ⟨1, by omega, by omega, rfl, HK.out _⟩
      case measure => simp [intOf]
    · go_wp2
      go_roundw
      case rel => exact ⟨2, by omega, by omega, rfl, HK.out _⟩
      case measure => simp [intOf]
    · go_wp2
      go_roundw
      case rel => exact ⟨3, by omega, by omega, rfl, HK.out _⟩
      case measure => simp [intOf]
    · go_wp2
      go_roundw
      case rel => exact ⟨4, by omega, by omega, rfl, HK.out _⟩
      case measure => simp [intOf]
    · cases x with
      | false =>
        go_wp2
        go_ret
        exact ⟨rfl, H0.out.trans ((HK.out _).mono H0.out.size)⟩
      | true =>
        go_wp2
        go_ret
        exact ⟨rfl, H0.out.trans ((HK.out _).mono H0.out.size)⟩
set_option maxHeartbeats 2000000 in
set_option maxRecDepth 100000 in
theorem allowed_12 (w : World) (hE : EnvR w) (x : Bool) : Calls Tryz.prog 215 #[.agg #[I 1, I 2], .bool x] w fun e w' => e = .returned (.bool x) ∧ Below w.heap.size w w' := by
  have hb := below_alloc w (.cells #[I 1, I 2] 205)
  obtain ⟨t0, fr0, hV⟩ := hE.up hb
  have hsz : (Tryz.prog.info? 298).map (·.size) = some rulC.size := by kernel_rfl
  have hi0 : ∀ w : World, (Instr.index 298 (.agg rulC) (I 0)).run Tryz.prog w = .ok (.agg #[I 3, I 2, .bool true]) w := ix_0
  have hi1 : ∀ w : World, (Instr.index 298 (.agg rulC) (I 1)).run Tryz.prog w = .ok (.agg #[I 2, I 0, .bool true]) w := ix_1
  have hi2 : ∀ w : World, (Instr.index 298 (.agg rulC) (I 2)).run Tryz.prog w = .ok (.agg #[I 0, I 2, .bool true]) w := ix_2
  have hi3 : ∀ w : World, (Instr.index 298 (.agg rulC) (I 3)).run Tryz.prog w = .ok (.agg #[I 0, I 3, .bool true]) w := ix_3
  have hi4 : ∀ w : World, (Instr.index 298 (.agg rulC) (I 4)).run Tryz.prog w = .ok (.agg #[I 0, I 1, .bool false]) w := ix_4
  have hi5 : ∀ w : World, (Instr.index 298 (.agg rulC) (I 5)).run Tryz.prog w = .ok (.agg #[I 1, I 2, .bool false]) w := ix_5
  have he0 : ∀ w : World, Sem.run Tryz.prog (Op.equalIn 10000 295 (Value.agg #[I 3, I 2]) (Value.agg #[I 1, I 2])) w = .ok false w := fun w => by kernel_rfl
  have he1 : ∀ w : World, Sem.run Tryz.prog (Op.equalIn 10000 295 (Value.agg #[I 2, I 0]) (Value.agg #[I 1, I 2])) w = .ok false w := fun w => by kernel_rfl
  have he2 : ∀ w : World, Sem.run Tryz.prog (Op.equalIn 10000 295 (Value.agg #[I 0, I 2]) (Value.agg #[I 1, I 2])) w = .ok false w := fun w => by kernel_rfl
  have he3 : ∀ w : World, Sem.run Tryz.prog (Op.equalIn 10000 295 (Value.agg #[I 0, I 3]) (Value.agg #[I 1, I 2])) w = .ok false w := fun w => by kernel_rfl
  have he4 : ∀ w : World, Sem.run Tryz.prog (Op.equalIn 10000 295 (Value.agg #[I 0, I 1]) (Value.agg #[I 1, I 2])) w = .ok false w := fun w => by kernel_rfl
  have he5 : ∀ w : World, Sem.run Tryz.prog (Op.equalIn 10000 295 (Value.agg #[I 1, I 2]) (Value.agg #[I 1, I 2])) w = .ok true w := fun w => by kernel_rfl
  generalize rulC = R at *
  have HB : Hid (∀ Z, Below (w.alloc (.cells #[I 1, I 2] 205)).heap.size (w.alloc (.cells #[I 1, I 2] 205)) Z → _) := fun Z => box_two w Z (I 1) (I 2) 205
  have H0 : Hid (Below w.heap.size w (w.alloc (.cells #[I 1, I 2] 205))) := hb
  have HI : Hid (Below (w.alloc (.cells #[I 1, I 2] 205)).heap.size (w.alloc (.cells #[I 1, I 2] 205)) (w.alloc (.cells #[I 1, I 2] 205))) := Below.refl _ _
  clear hb hE
  go_enter Tryz.func215, Tryz.ntmps215
  go_wp2_with (first | (refine wpList_load_row rfl 298 _ rfl 0 rfl t0 R fr0 _ hV Tryz.underlying298 rfl hsz ?_))
  go_loopw [6, 8] (fun _ v8 wr => ∃ z : Int, 0 ≤ z ∧ z ≤ 5 ∧ v8 = I z ∧ Hid (Below (w.alloc (.cells #[I 1, I 2] 205)).heap.size (w.alloc (.cells #[I 1, I 2] 205)) wr)) (fun _ v8 _ => (6 - intOf v8).toNat)
  case atStart => exact ⟨0, by omega, by omega, rfl, HI.out⟩
  case round =>
    clear HI hV
    obtain ⟨z, h0, h1, rfl, HJ⟩ := hrel
    obtain ⟨y0, y1⟩ := HB.out wr HJ.out
    have HK : Hid (∀ o, Below (w.alloc (.cells #[I 1, I 2] 205)).heap.size (w.alloc (.cells #[I 1, I 2] 205)) (wr.alloc o)) := fun o => HJ.out.trans ((below_alloc wr o).mono HJ.out.size)
    obtain ⟨n0, n1⟩ : wr.heap.size ≠ w.heap.size ∧ w.heap.size < wr.heap.size := by have h9 := HJ.out.size; simp at h9; omega
    have u0 : ∀ o, (wr.alloc o).cell? ⟨w.heap.size, 0, none⟩ = some (I 1) := fun o => (HB.out _ (HK.out o)).1
    have u1 : ∀ o, (wr.alloc o).cell? ⟨w.heap.size, 1, none⟩ = some (I 2) := fun o => (HB.out _ (HK.out o)).2
    clear HB
    rcases (by omega : z = 0 ∨ z = 1 ∨ z = 2 ∨ z = 3 ∨ z = 4 ∨ z = 5) with rfl | rfl | rfl | rfl | rfl | rfl
    · go_wp2
      go_roundw
      case rel => exact ⟨1, by omega, by omega, rfl, HK.out _⟩
      case measure => simp [intOf]
    · go_wp2
      go_roundw
      case rel => exact ⟨2, by omega, by omega, rfl, HK.out _⟩
      case measure => simp [intOf]
    · go_wp2
      go_roundw
      case rel => exact ⟨3, by omega, by omega, rfl, HK.out _⟩
      case measure => simp [intOf]
    · go_wp2
      go_roundw
      case rel => exact ⟨4, by omega, by omega, rfl, HK.out _⟩
      case measure => simp [intOf]
    · go_wp2
      go_roundw
      case rel => exact ⟨5, by omega, by omega, rfl, HK.out _⟩
      case measure => simp [intOf]
    · cases x with
      | false =>
        go_wp2
        go_ret
        exact ⟨rfl, H0.out.trans ((HK.out _).mono H0.out.size)⟩
      | true =>
        go_wp2
        go_ret
        exact ⟨rfl, H0.out.trans ((HK.out _).mono H0.out.size)⟩
end Go.Proofs.YtglnfifdjlgbcaaGreatDoor.Tk

