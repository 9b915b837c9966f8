import Derived.Test.YtmidaeljeoifdaaGreatDoorXKvd
import Derived.Test.YtmidaeljeoifdaaGreatDoorXKvf
import Derived.Test.YtmidaeljeoifdaaGreatDoorXKrg
import Derived.Laws.Tables
import Derived.Deep.DeepAppendWide
import Derived.Test.YtmidaeljeoifdaaGreatDoorXKrs
namespace Go.Proofs.YtmidaeljeoifdaaGreatDoor
set_option linter.unusedVariables false

/-! ### What it says that nothing was found -/
theorem first_none {cs : List Ck} {k : Nat} {B : Nat → Bool} (h : firstF cs k B = none) : ∀ i, i < cs.length → B (k + i) = true := by
  induction cs generalizing k with
  | nil => intro i hi; exact absurd hi (Nat.not_lt_zero _)
  | cons x r ih =>
    intro i hi
    rw [firstF] at h
    split at h
    · rename_i hb
      cases i with
      | zero => exact hb
      | succ i =>
        have := ih h i (by simpa using hi)
        rwa [show k + (i + 1) = k + 1 + i by omega]
    · cases h
theorem looks_none {E : Nat → Option Int} {m j : Nat} (h : looksF E m j = none) : ∀ i, i < m → E (j + i) = none := by
  induction m generalizing j with
  | zero => intro i hi; exact absurd hi (Nat.not_lt_zero _)
  | succ m ih =>
    intro i hi
    rw [looksF] at h
    split at h
    · cases h
    · rename_i he
      cases i with
      | zero => exact he
      | succ i =>
        have := ih h i (by omega)
        rwa [show j + (i + 1) = j + 1 + i by omega]
theorem lookL_none {names : List (List UInt8)} {lo hi : Int} {cs : List Ck} {B : Nat → Nat → Bool} (h : lookL names lo hi cs B = none) :
    inR names.length lo hi = true ∧ ∀ (j : Nat) (nm : List UInt8), names[j]? = some nm → isNm nm = true ∧ hasS (names.take j) nm = false ∧ ∀ k, k < cs.length → B k j = true := by
  unfold lookL at h
  split at h
  · rename_i hin
    refine ⟨hin, fun j nm hj => ?_⟩
    have hE := looks_none h j (List.getElem?_eq_some_iff.1 hj).1
    rw [Nat.zero_add] at hE
    unfold objF at hE
    rw [hj] at hE
    simp only at hE
    split at hE
    · cases hE
    · rename_i hb
      have h2 : isNm nm = true ∧ hasS (names.take j) nm = false := by
        cases h3 : isNm nm <;> cases h4 : hasS (names.take j) nm <;> simp [h3, h4] at hb ⊢
      exact ⟨h2.1, h2.2, fun k hk => by have := first_none hE k hk; rwa [Nat.zero_add] at this⟩
  · cases h
theorem kind_none {α : Type} {l : List α} {f : α → List UInt8} {lo hi : Int} {cs : List Ck} {Q : Nat → α → Nat → Bool} (h : lookL (l.map f) lo hi cs (byB l Q) = none) :
    inR l.length lo hi = true ∧ ∀ (j : Nat) (x : α), l[j]? = some x → isNm (f x) = true ∧ hasS ((l.map f).take j) (f x) = false ∧ ∀ k, k < cs.length → Q j x k = true := by
  obtain ⟨h1, h2⟩ := lookL_none h
  rw [List.length_map] at h1
  refine ⟨h1, fun j x hj => ?_⟩
  obtain ⟨a, b, d⟩ := h2 j (f x) (by rw [List.getElem?_map, hj]; rfl)
  exact ⟨a, b, fun k hk => by rw [← byB_at (B := Q) hj]; exact d k hk⟩
theorem lookAll_none {l : List (List UInt8 × Option (Int × Int))} (h : lookAll l = none) : ∀ x ∈ l, x.2 = none := by
  induction l with
  | nil => intro x hx; cases hx
  | cons y r ih =>
    obtain ⟨wd, o⟩ := y
    rw [lookAll] at h
    cases o with
    | some p => obtain ⟨a, b⟩ := p; cases h
    | none =>
      intro x hx
      rcases List.mem_cons.1 hx with rfl | hx
      · rfl
      · exact ih h x hx
/-- What a configuration has that may be. -/
structure May (c : Cf) : Prop where
  m : inR c.modes.length 1 8 = true ∧ ∀ (j : Nat) (nm : List UInt8), c.modes[j]? = some nm → isNm nm = true ∧ hasS (c.modes.take j) nm = false
  r : inR c.ress.length 0 64 = true ∧ ∀ (j : Nat) (x : Rs), c.ress[j]? = some x → isNm x.name = true ∧ hasS ((c.ress.map fun x => x.name).take j) x.name = false ∧ ∀ k, k < 4 → resQ c j x k = true
  e : inR c.evs.length 0 256 = true ∧ ∀ (j : Nat) (x : Ev), c.evs[j]? = some x → isNm x.name = true ∧ hasS ((c.evs.map fun x => x.name).take j) x.name = false ∧ ∀ k, k < 1 → evQ c j x k = true
  t : inR c.tasks.length 1 256 = true ∧ ∀ (j : Nat) (x : Tk), c.tasks[j]? = some x → isNm x.name = true ∧ hasS ((c.tasks.map fun x => x.name).take j) x.name = false ∧ ∀ k, k < 6 → tkQ c j x k = true
  k : inR c.ctrs.length 0 16 = true ∧ ∀ (j : Nat) (x : Ct), c.ctrs[j]? = some x → isNm x.name = true ∧ hasS ((c.ctrs.map fun x => x.name).take j) x.name = false ∧ ∀ k, k < 1 → ctQ c j x k = true
  a : inR c.als.length 0 64 = true ∧ ∀ (j : Nat) (x : Al), c.als[j]? = some x → isNm x.name = true ∧ hasS ((c.als.map fun x => x.name).take j) x.name = false ∧ ∀ k, k < 8 → alQ c j x k = true
  i : inR c.isrs.length 0 32 = true ∧ ∀ (j : Nat) (x : Is), c.isrs[j]? = some x → isNm x.name = true ∧ hasS ((c.isrs.map fun x => x.name).take j) x.name = false ∧ ∀ k, k < 5 → isQ c j x k = true
  s : inR c.msgs.length 0 64 = true ∧ ∀ (j : Nat) (x : Ms), c.msgs[j]? = some x → isNm x.name = true ∧ hasS ((c.msgs.map fun x => x.name).take j) x.name = false ∧ ∀ k, k < 8 → msQ c j x k = true
theorem may_of {c : Cf} (h : allF c = none) : May c := by
  have H := lookAll_none h
  unfold tenR at H
  simp only [List.forall_mem_cons] at H
  obtain ⟨h0, h1, h2, h3, h4, h5, h6, h7, h8, h9, _⟩ := H
  have hm := lookL_none h2
  exact ⟨⟨hm.1, fun j nm hj => ⟨(hm.2 j nm hj).1, (hm.2 j nm hj).2.1⟩⟩, kind_none h3, kind_none h4, kind_none h5, kind_none h6, kind_none h7, kind_none h8, kind_none h9⟩
end Go.Proofs.YtmidaeljeoifdaaGreatDoor

namespace Go.Proofs.YtmidaeljeoifdaaGreatDoor
open Go.RowKit Go.Sort
set_option linter.unusedVariables false

/-! ### Class -/
end Go.Proofs.YtmidaeljeoifdaaGreatDoor

namespace Go.Proofs.YtmidaeljeoifdaaGreatDoor
open Go.RowKit
set_option linter.unusedVariables false

/-! ### The small configurations of heads -/
def tkS (nm : UInt8) : Tk := ⟨[nm], 1, false, 1, [], [], [], []⟩
def cfS (ts : List Tk) : Cf := ⟨[99], [111], false, false, false, false, false, false, false, false, [[109]], ts, [], [], [], [], [], []⟩
def vsS (bm : Nat) (t : Sl) : Vs := ⟨⟨some ⟨bm, 0, none⟩, 1, 1⟩, t, noS, noS, noS, noS, noS, noS⟩
def tkC (nm : UInt8) : List Value := [S [nm], I 1, .bool false, I 1, .slice none 0 0, .slice none 0 0, .slice none 0 0, .slice none 0 0]
theorem all1 : allF (cfS [tkS 116]) = none := by rfl
theorem lens (ts : List Tk) (h : ts.length ≤ 2) : LensOK (cfS ts) := ⟨by show ts.length ≤ _; omega, Nat.zero_le _, Nat.zero_le _, Nat.zero_le _, Nat.zero_le _, Nat.zero_le _, Nat.zero_le _⟩
theorem none_at {α : Type} {w : World} {k : Nat} {P : α → Nat → Value → Prop} : RowsAt w k P noS [] := ⟨rfl, Nat.le_refl _, Nat.zero_le _, fun j x hj => by simp at hj⟩
theorem ints0 {w : World} : IntsV w [] (.slice none 0 0) := ⟨noS, rfl, none_at⟩
theorem tk_cell {w : World} {nm : UInt8} {i : Nat} (hi : i < 8) {u : Value} (h : (tkC nm)[i]? = some u) : tkP w (tkS nm) i u := by
  have h8 : i = 0 ∨ i = 1 ∨ i = 2 ∨ i = 3 ∨ i = 4 ∨ i = 5 ∨ i = 6 ∨ i = 7 := by omega
  rcases h8 with rfl | rfl | rfl | rfl | rfl | rfl | rfl | rfl <;> (obtain rfl := Option.some.inj h; first | rfl | exact ints0)
theorem flat8 (l : List UInt8) (j : Nat) (x : UInt8) (hj : l[j]? = some x) (i : Nat) (hi : i < 8) : (l.flatMap tkC)[j * 8 + i]? = (tkC x)[i]? := by
  induction l generalizing j with
  | nil => simp at hj
  | cons y r ih =>
    have e1 : (y :: r).flatMap tkC = tkC y ++ r.flatMap tkC := rfl
    have h2 : (tkC y).length = 8 := rfl
    rw [e1]
    cases j with
    | zero =>
      obtain rfl : y = x := by simpa using hj
      rw [List.getElem?_append_left (by omega)]
      simp
    | succ j =>
      rw [List.getElem?_append_right (by omega), h2, show (j + 1) * 8 + i - 8 = j * 8 + i by omega]
      exact ih j (by simpa using hj)
theorem rows_tk {w : World} {g cap : Nat} {cur : Array Value} (hg : w.heap[g]? = some (.cells cur 58 (0, 0))) (l : List UInt8) (hc : l.length ≤ cap) (hm : cap ≤ maxLen) (htk : cur.toList.take (l.length * 8) = l.flatMap tkC) :
    RowsAt w 8 (tkP w) ⟨some ⟨g, 0, none⟩, l.length, cap⟩ (l.map tkS) := by
  refine ⟨by simp, hc, hm, fun j x hj => ⟨g, 0, rfl, heap_lt hg, fun i hi => ?_⟩⟩
  rw [List.getElem?_map] at hj
  obtain ⟨y, hy, rfl⟩ := Option.map_eq_some_iff.1 hj
  have hjl := (List.getElem?_eq_some_iff.1 hy).1
  have hf := flat8 l j y hy i hi
  rw [← htk, List.getElem?_take, if_pos (by omega), Array.getElem?_toList] at hf
  have hl : i < (tkC y).length := hi
  refine ⟨(tkC y)[i], ?_, tk_cell hi (List.getElem?_eq_getElem hl)⟩
  rw [Nat.zero_add, cell_of_row w g _ _ _ (0, 0) hg, hf]
  exact List.getElem?_eq_getElem hl
theorem small_at {w : World} {bm g cap : Nat} {cur : Array Value} (hbm : w.heap[bm]? = some (.cells #[S [109]] 9 (0, 0))) (hg : w.heap[g]? = some (.cells cur 58 (0, 0))) (l : List UInt8) (hc : l.length ≤ cap) (hm : cap ≤ maxLen) (htk : cur.toList.take (l.length * 8) = l.flatMap tkC) :
    CfAt w (cfS (l.map tkS)) (vsS bm ⟨some ⟨g, 0, none⟩, l.length, cap⟩) :=
  ⟨rows_str hbm, rows_tk hg l hc hm htk, none_at, none_at, none_at, none_at, none_at, none_at⟩
theorem res_cf {fn : Func} {n : Nat} (hf : fn.results = #[.cell n 47]) (tmps : Array Value) (b : Nat) (w : World) (C : Array Value) (hi18 : (Tryz.prog.info? 47).map (·.size) = some C.size)
    (h2 : tmps[n]? = some (.pointer (some ⟨b, 0, none⟩))) (hk : w.heap[b]? = some (.cells C 47 (0, 0))) : (results fn tmps).run Tryz.prog w = .ok (.agg C) w := by
  have hr := run_loadVar_row w b 47 47 C (0, 0) _ hk Tryz.underlying47 rfl hi18
  simp [results, hf, h2, asAddr, hr]
theorem h3_0 (w : World) (a b c : Obj) : (((w.alloc a).alloc b).alloc c).heap[w.heap.size]? = some a := by
  rw [heap_alloc_old ((w.alloc a).alloc b) c (by simp; omega)]
  exact heap_two0 w a b
theorem h3_2 (w : World) (a b c : Obj) : (((w.alloc a).alloc b).alloc c).heap[w.heap.size + 1 + 1]? = some c := by
  have := heap_alloc_new ((w.alloc a).alloc b) c
  rwa [show ((w.alloc a).alloc b).heap.size = w.heap.size + 1 + 1 by simp] at this
theorem below3 (w : World) (a b c : Obj) : Below w.heap.size w (((w.alloc a).alloc b).alloc c) := by
  have h1 := below_alloc w a
  have h2 := h1.trans ((below_alloc (w.alloc a) b).mono h1.size)
  exact h2.trans ((below_alloc ((w.alloc a).alloc b) c).mono h2.size)
set_option maxHeartbeats 2000000 in
set_option maxRecDepth 100000 in
theorem small_any (w : World) : Calls Tryz.prog 31 #[] w fun e w' => ∃ bm g, e = .returned (.agg (cfC (cfS [tkS 116]) (vsS bm ⟨some ⟨g, 0, none⟩, 1, 1⟩))) ∧ Below w.heap.size w w' ∧ w.heap.size ≤ g ∧ w'.heap[bm]? = some (.cells #[S [109]] 9 (0, 0)) ∧ w'.heap[g]? = some (.cells (tkC 116).toArray 58 (0, 0)) := by
  go_enter Tryz.func31, Tryz.ntmps31
  go_wp2
  refine bodyPost_ret (v := .agg (cfC (cfS [tkS 116]) (vsS (w.heap.size + 1) ⟨some ⟨w.heap.size + 1 + 1, 0, none⟩, 1, 1⟩))) (res_cf Tryz.results31 _ w.heap.size _ _ (by kernel_rfl) rfl (h3_0 _ _ _ _)) rfl ?_
  exact ⟨w.heap.size + 1, w.heap.size + 1 + 1, rfl, below3 _ _ _ _, by omega, heap_three _ _ _ _, h3_2 _ _ _ _⟩
end Go.Proofs.YtmidaeljeoifdaaGreatDoor

namespace Go.Proofs.YtmidaeljeoifdaaGreatDoor.Ce
open Go.RowKit
set_option linter.unusedVariables false

theorem ret_int {k : IntKind} {a b : Int} (h : a = b) : Ending.returned (.int k a) = .returned (.int k b) := by rw [h]
theorem ret_bool {a b : Bool} (h : a = b) : Ending.returned (.bool a) = .returned (.bool b) := by rw [h]
/-! ### Small words -/
def inR (v a b : Int) : Bool := decide (a ≤ v) && decide (v ≤ b)
def isId (v n : Int) : Bool := decide (0 ≤ v) && decide (v < n)
theorem ints_at {w : World} {s : Sl} {l : List Int} (h : RowsAt w 1 intP s l) {j : Nat} {x : Int} (hj : l[j]? = some x) : ∃ g off, s.a = some ⟨g, off, none⟩ ∧ g < w.heap.size ∧ w.cell? ⟨g, off + j, none⟩ = some (I x) := by
  obtain ⟨g, off, e, hg, hr⟩ := h.row j x hj
  obtain ⟨u, h1, h2⟩ := hr 0 (by omega)
  refine ⟨g, off, e, hg, ?_⟩
  rw [show off + j * 1 + 0 = off + j by omega] at h1
  rw [h1, h2]
/-- A list of ids below n that rises, all above a. -/
def risF (a : Int) (l : List Int) (n : Int) : Bool := match l with
  | [] => true
  | x :: r => isId x n && decide (a < x) && risF x r n
def rkind (c : Cf) (r : Int) : Int := match c.ress[r.toNat]? with | some x => x.kind | none => 0
def rlink (c : Cf) (r : Int) : Int := match c.ress[r.toNat]? with | some x => x.link | none => 0
/-- Going from a resource on, f steps at most. -/
def rootF (c : Cf) : Nat → Int → Int
  | 0, _ => -1
  | f + 1, r => if isId r c.ress.length = true then (if rkind c r = 2 then rootF c f (rlink c r) else r) else -1
theorem rootF_lt (c : Cf) : ∀ (f : Nat) (r : Int), rootF c f r < c.ress.length
  | 0, r => by rw [rootF]; omega
  | f + 1, r => by
    rw [rootF]
    split
    · rename_i h
      split
      · exact rootF_lt c f _
      · simp [isId] at h; exact h.2
    · omega
/-! ### Going from resource to resource: who has met as many as there are goes round -/
theorem pigeon : ∀ (n : Nat) (f : Nat → Nat), (∀ k, k ≤ n → f k < n) → ∃ i j, i < j ∧ j ≤ n ∧ f i = f j
  | 0, f, h => absurd (h 0 (Nat.le_refl 0)) (Nat.not_lt_zero _)
  | n + 1, f, h => by
    by_cases hv : ∃ i, i ≤ n ∧ f i = f (n + 1)
    · obtain ⟨i, hi, e⟩ := hv
      exact ⟨i, n + 1, by omega, Nat.le_refl _, e⟩
    · have hne : ∀ i, i ≤ n → f i ≠ f (n + 1) := fun i hi e => hv ⟨i, hi, e⟩
      have hvl := h (n + 1) (Nat.le_refl _)
      obtain ⟨i, j, hij, hjn, e⟩ := pigeon n (fun k => if f k = n then f (n + 1) else f k) (fun k hk => by
        have h1 := h k (by omega)
        have h2 := hne k hk
        split <;> omega)
      have h1 := hne i (by omega)
      have h2 := hne j hjn
      refine ⟨i, j, hij, by omega, ?_⟩
      split at e <;> split at e <;> omega
def goes (c : Cf) (r : Int) : Bool := isId r c.ress.length && rkind c r == 2
def iter (c : Cf) : Nat → Int → Int
  | 0, r => r
  | k + 1, r => iter c k (rlink c r)
theorem iter_add (c : Cf) (a b : Nat) (r : Int) : iter c (a + b) r = iter c b (iter c a r) := by
  induction a generalizing r with
  | zero => rw [Nat.zero_add]; rfl
  | succ a ih => rw [show a + 1 + b = (a + b) + 1 by omega, iter, iter, ih]
theorem rootF_all (c : Cf) : ∀ (f : Nat) (r : Int), (∀ k, k < f → goes c (iter c k r) = true) → rootF c f r = -1
  | 0, r, _ => rfl
  | f + 1, r, h => by
    have h0 : goes c r = true := h 0 (by omega)
    simp [goes] at h0
    rw [rootF, if_pos h0.1, if_pos h0.2]
    exact rootF_all c f _ (fun k hk => h (k + 1) (by omega))
theorem rootF_some (c : Cf) : ∀ (f g : Nat) (r : Int) (k : Nat), k < f → k < g → goes c (iter c k r) = false → rootF c f r = rootF c g r
  | 0, _, _, _, h, _, _ => absurd h (Nat.not_lt_zero _)
  | _, 0, _, _, _, h, _ => absurd h (Nat.not_lt_zero _)
  | f + 1, g + 1, r, k, hf, hg, hk => by
    rw [rootF, rootF]
    split
    · split
      · cases k with
        | zero =>
          rename_i h1 h2
          have : goes c r = false := hk
          simp [goes, h1, h2] at this
        | succ k => exact rootF_some c f g _ k (by omega) (by omega) hk
      · rfl
    · rfl
theorem rootF_more (c : Cf) (r : Int) : rootF c (c.ress.length + 1) r = rootF c c.ress.length r := by
  by_cases h : ∃ k, k < c.ress.length ∧ goes c (iter c k r) = false
  · obtain ⟨k, hk, hg⟩ := h
    exact rootF_some c _ _ r k (by omega) hk hg
  · have hall : ∀ k, k < c.ress.length → goes c (iter c k r) = true := fun k hk => by
      cases hg : goes c (iter c k r) with
      | true => rfl
      | false => exact absurd ⟨k, hk, hg⟩ h
    rw [rootF_all c c.ress.length r hall]
    by_cases hn : isId (iter c c.ress.length r) c.ress.length = true
    · have hid : ∀ k, k ≤ c.ress.length → isId (iter c k r) c.ress.length = true := fun k hk => by
        by_cases e : k < c.ress.length
        · have := hall k e
          simp [goes] at this
          exact this.1
        · obtain rfl : k = c.ress.length := by omega
          exact hn
      have hnn : ∀ k, k ≤ c.ress.length → 0 ≤ iter c k r ∧ iter c k r < c.ress.length := fun k hk => by
        have := hid k hk
        simpa [isId] using this
      obtain ⟨i, j, hij, hjn, e⟩ := pigeon c.ress.length (fun k => (iter c k r).toNat) (fun k hk => by have := hnn k hk; omega)
      have e2 : iter c i r = iter c j r := by
        have h1 := hnn i (by omega)
        have h2 := hnn j hjn
        omega
      have e3 : iter c (i + (c.ress.length - j)) r = iter c c.ress.length r := by
        rw [iter_add, e2, ← iter_add]
        congr 1
        omega
      have h4 := hall (i + (c.ress.length - j)) (by omega)
      refine rootF_all c _ r (fun k hk => ?_)
      by_cases ek : k < c.ress.length
      · exact hall k ek
      · obtain rfl : k = c.ress.length := by omega
        rw [← e3]
        exact h4
    · obtain ⟨m, hm⟩ : ∃ m, m = c.ress.length := ⟨_, rfl⟩
      have key : ∀ (f : Nat) (q : Int), (∀ k, k < f → goes c (iter c k q) = true) → isId (iter c f q) c.ress.length = false → rootF c (f + 1) q = -1 := by
        intro f
        induction f with
        | zero =>
          intro q _ hq
          have hq' : isId q c.ress.length = false := hq
          rw [rootF, if_neg (by rw [hq']; decide)]
        | succ f ih =>
          intro q hk hq
          have h0 : goes c q = true := hk 0 (by omega)
          simp [goes] at h0
          rw [rootF, if_pos h0.1, if_pos h0.2]
          exact ih _ (fun k hk2 => hk (k + 1) (by omega)) hq
      exact key _ r hall (by simpa using hn)
/-- How many internal ones are among some resources. -/
def intN (c : Cf) (l : List Int) : Nat := (l.filter (fun x => rkind c x == 3)).length
theorem ids_of_ris {a n : Int} {l : List Int} (h : risF a l n = true) : ∀ x ∈ l, isId x n = true := by
  induction l generalizing a with
  | nil => intro x hx; cases hx
  | cons y r ih =>
    rw [risF] at h
    simp at h
    intro x hx
    rcases List.mem_cons.1 hx with rfl | hx
    · exact h.1.1
    · exact ih h.2 x hx
theorem intN_snoc (c : Cf) (l : List Int) (j : Nat) (x : Int) (hx : l[j]? = some x) : intN c (l.take (j + 1)) = intN c (l.take j) + (if rkind c x == 3 then 1 else 0) := by
  unfold intN
  rw [List.take_add_one, hx, Option.toList_some, List.filter_append, List.length_append]
  congr 1
  simp only [List.filter_cons, List.filter_nil]
  split <;> simp
theorem below_set {B : Nat} {w W : World} (h : Below B w W) {b k : Nat} {v : Value} (hb : B ≤ b) (hs : B ≤ W.heap.size) : Below B w (W.setCell ⟨b, k, none⟩ v) := h.trans (below_of_grown (grown_set W b k v) hb hs)
theorem all_take {α : Type} (p : α → Bool) (l : List α) (j : Nat) (x : α) (hx : l[j]? = some x) : (l.take (j + 1)).all p = ((l.take j).all p && p x) := by
  rw [List.take_add_one, hx, Option.toList_some, List.all_append]
  simp
theorem all_short {α : Type} (p : α → Bool) (l : List α) (i j : Nat) (hij : j ≤ i) (h : (l.take j).all p = false) : (l.take i).all p = false := by
  rw [List.all_eq_false] at h ⊢
  obtain ⟨x, hx, hp⟩ := h
  refine ⟨x, ?_, hp⟩
  obtain ⟨k, hk⟩ := List.mem_iff_getElem?.1 hx
  rw [List.getElem?_take] at hk
  split at hk
  · exact List.mem_iff_getElem?.2 ⟨k, by rw [List.getElem?_take, if_pos (by omega)]; exact hk⟩
  · cases hk
theorem heap_two0 (w : World) (a b : Obj) : ((w.alloc a).alloc b).heap[w.heap.size]? = some a := by
  rw [heap_alloc_old (w.alloc a) b (by simp)]
  exact heap_alloc_new w a
theorem rkind_at {c : Cf} {j : Nat} {x : Rs} (h : c.ress[j]? = some x) : rkind c (j : Int) = x.kind := by simp [rkind, h]
theorem rlink_at {c : Cf} {j : Nat} {x : Rs} (h : c.ress[j]? = some x) : rlink c (j : Int) = x.link := by simp [rlink, h]
theorem isId_nat {j n : Nat} (h : j < n) : isId (j : Int) n = true := by simp [isId]; omega
def Ans (w : World) (b : Bool) (e : Ending) (w' : World) : Prop := e = .returned (.bool b) ∧ Below w.heap.size w w'
theorem heap_two (w : World) (a b : Obj) : ((w.alloc a).alloc b).heap[w.heap.size + 1]? = some b := by
  have := heap_alloc_new (w.alloc a) b
  rwa [show (w.alloc a).heap.size = w.heap.size + 1 by simp] at this
theorem heap_over (w : World) (o : Obj) {g : Nat} {x : Obj} (h : w.heap[g]? = some x) : (w.alloc o).heap[g]? = some x := by rw [heap_alloc_old w o (heap_lt h)]; exact h
end Go.Proofs.YtmidaeljeoifdaaGreatDoor.Ce

namespace Go.Proofs.YtmidaeljeoifdaaGreatDoor.Ce
open Go.RowKit
set_option linter.unusedVariables false

/-! ### The cells of an object -/
theorem rs_at {w : World} {c : Cf} {v : Vs} (h : CfAt w c v) {j : Nat} {x : Rs} (hj : c.ress[j]? = some x) : ∃ (g off : Nat), v.r.a = some ⟨g, off, none⟩ ∧ g < w.heap.size ∧ w.cell? ⟨g, off + j * 3, none⟩ = some (S x.name) ∧ w.cell? ⟨g, off + j * 3 + 1, none⟩ = some (I x.kind) ∧ w.cell? ⟨g, off + j * 3 + 2, none⟩ = some (I x.link) := by
  obtain ⟨g, off, e, hg, hr⟩ := h.r.row j x hj
  obtain ⟨u0, a0, b0⟩ := hr 0 (by omega)
  have e0 : u0 = S x.name := b0
  rw [e0] at a0
  obtain ⟨u1, a1, b1⟩ := hr 1 (by omega)
  have e1 : u1 = I x.kind := b1
  rw [e1] at a1
  obtain ⟨u2, a2, b2⟩ := hr 2 (by omega)
  have e2 : u2 = I x.link := b2
  rw [e2] at a2
  rw [Nat.add_zero] at a0
  exact ⟨g, off, e, hg, a0, a1, a2⟩
theorem ev_at {w : World} {c : Cf} {v : Vs} (h : CfAt w c v) {j : Nat} {x : Ev} (hj : c.evs[j]? = some x) : ∃ (g off : Nat), v.e.a = some ⟨g, off, none⟩ ∧ g < w.heap.size ∧ w.cell? ⟨g, off + j * 3, none⟩ = some (S x.name) ∧ w.cell? ⟨g, off + j * 3 + 1, none⟩ = some (.int .u32 (x.mask : Int)) ∧ w.cell? ⟨g, off + j * 3 + 2, none⟩ = some (.bool x.auto) := by
  obtain ⟨g, off, e, hg, hr⟩ := h.e.row j x hj
  obtain ⟨u0, a0, b0⟩ := hr 0 (by omega)
  have e0 : u0 = S x.name := b0
  rw [e0] at a0
  obtain ⟨u1, a1, b1⟩ := hr 1 (by omega)
  have e1 : u1 = .int .u32 (x.mask : Int) := b1
  rw [e1] at a1
  obtain ⟨u2, a2, b2⟩ := hr 2 (by omega)
  have e2 : u2 = .bool x.auto := b2
  rw [e2] at a2
  rw [Nat.add_zero] at a0
  exact ⟨g, off, e, hg, a0, a1, a2⟩
theorem ct_at {w : World} {c : Cf} {v : Vs} (h : CfAt w c v) {j : Nat} {x : Ct} (hj : c.ctrs[j]? = some x) : ∃ (g off : Nat), v.k.a = some ⟨g, off, none⟩ ∧ g < w.heap.size ∧ w.cell? ⟨g, off + j * 4, none⟩ = some (S x.name) ∧ w.cell? ⟨g, off + j * 4 + 1, none⟩ = some (.int .u32 (x.max : Int)) ∧ w.cell? ⟨g, off + j * 4 + 2, none⟩ = some (.int .u32 (x.base : Int)) ∧ w.cell? ⟨g, off + j * 4 + 3, none⟩ = some (.int .u32 (x.min : Int)) := by
  obtain ⟨g, off, e, hg, hr⟩ := h.k.row j x hj
  obtain ⟨u0, a0, b0⟩ := hr 0 (by omega)
  have e0 : u0 = S x.name := b0
  rw [e0] at a0
  obtain ⟨u1, a1, b1⟩ := hr 1 (by omega)
  have e1 : u1 = .int .u32 (x.max : Int) := b1
  rw [e1] at a1
  obtain ⟨u2, a2, b2⟩ := hr 2 (by omega)
  have e2 : u2 = .int .u32 (x.base : Int) := b2
  rw [e2] at a2
  obtain ⟨u3, a3, b3⟩ := hr 3 (by omega)
  have e3 : u3 = .int .u32 (x.min : Int) := b3
  rw [e3] at a3
  rw [Nat.add_zero] at a0
  exact ⟨g, off, e, hg, a0, a1, a2, a3⟩
theorem tk_at {w : World} {c : Cf} {v : Vs} (h : CfAt w c v) {j : Nat} {x : Tk} (hj : c.tasks[j]? = some x) : ∃ (g off : Nat) (s4 s5 s6 s7 : Sl), v.t.a = some ⟨g, off, none⟩ ∧ g < w.heap.size ∧ w.cell? ⟨g, off + j * 8, none⟩ = some (S x.name) ∧ w.cell? ⟨g, off + j * 8 + 1, none⟩ = some (I x.prio) ∧ w.cell? ⟨g, off + j * 8 + 2, none⟩ = some (.bool x.full) ∧ w.cell? ⟨g, off + j * 8 + 3, none⟩ = some (I x.act) ∧ w.cell? ⟨g, off + j * 8 + 4, none⟩ = some (.slice s4.a s4.n s4.c) ∧ w.cell? ⟨g, off + j * 8 + 5, none⟩ = some (.slice s5.a s5.n s5.c) ∧ w.cell? ⟨g, off + j * 8 + 6, none⟩ = some (.slice s6.a s6.n s6.c) ∧ w.cell? ⟨g, off + j * 8 + 7, none⟩ = some (.slice s7.a s7.n s7.c) ∧ RowsAt w 1 intP s4 x.auto ∧ RowsAt w 1 intP s5 x.res ∧ RowsAt w 1 intP s6 x.evs ∧ RowsAt w 1 intP s7 x.msgs := by
  obtain ⟨g, off, e, hg, hr⟩ := h.t.row j x hj
  obtain ⟨u0, a0, b0⟩ := hr 0 (by omega)
  have e0 : u0 = S x.name := b0
  rw [e0] at a0
  obtain ⟨u1, a1, b1⟩ := hr 1 (by omega)
  have e1 : u1 = I x.prio := b1
  rw [e1] at a1
  obtain ⟨u2, a2, b2⟩ := hr 2 (by omega)
  have e2 : u2 = .bool x.full := b2
  rw [e2] at a2
  obtain ⟨u3, a3, b3⟩ := hr 3 (by omega)
  have e3 : u3 = I x.act := b3
  rw [e3] at a3
  obtain ⟨u4, a4, b4⟩ := hr 4 (by omega)
  obtain ⟨s4, e4, r4⟩ := (show IntsV w x.auto u4 from b4)
  rw [e4] at a4
  obtain ⟨u5, a5, b5⟩ := hr 5 (by omega)
  obtain ⟨s5, e5, r5⟩ := (show IntsV w x.res u5 from b5)
  rw [e5] at a5
  obtain ⟨u6, a6, b6⟩ := hr 6 (by omega)
  obtain ⟨s6, e6, r6⟩ := (show IntsV w x.evs u6 from b6)
  rw [e6] at a6
  obtain ⟨u7, a7, b7⟩ := hr 7 (by omega)
  obtain ⟨s7, e7, r7⟩ := (show IntsV w x.msgs u7 from b7)
  rw [e7] at a7
  rw [Nat.add_zero] at a0
  exact ⟨g, off, s4, s5, s6, s7, e, hg, a0, a1, a2, a3, a4, a5, a6, a7, r4, r5, r6, r7⟩
theorem al_at {w : World} {c : Cf} {v : Vs} (h : CfAt w c v) {j : Nat} {x : Al} (hj : c.als[j]? = some x) : ∃ (g off : Nat) (s6 : Sl), v.a.a = some ⟨g, off, none⟩ ∧ g < w.heap.size ∧ w.cell? ⟨g, off + j * 9, none⟩ = some (S x.name) ∧ w.cell? ⟨g, off + j * 9 + 1, none⟩ = some (I x.ctr) ∧ w.cell? ⟨g, off + j * 9 + 2, none⟩ = some (I x.ac.kind) ∧ w.cell? ⟨g, off + j * 9 + 3, none⟩ = some (I x.ac.task) ∧ w.cell? ⟨g, off + j * 9 + 4, none⟩ = some (I x.ac.event) ∧ w.cell? ⟨g, off + j * 9 + 5, none⟩ = some (S x.ac.name) ∧ w.cell? ⟨g, off + j * 9 + 6, none⟩ = some (.slice s6.a s6.n s6.c) ∧ w.cell? ⟨g, off + j * 9 + 7, none⟩ = some (.int .u32 (x.time : Int)) ∧ w.cell? ⟨g, off + j * 9 + 8, none⟩ = some (.int .u32 (x.cycle : Int)) ∧ RowsAt w 1 intP s6 x.auto := by
  obtain ⟨g, off, e, hg, hr⟩ := h.a.row j x hj
  obtain ⟨u0, a0, b0⟩ := hr 0 (by omega)
  have e0 : u0 = S x.name := b0
  rw [e0] at a0
  obtain ⟨u1, a1, b1⟩ := hr 1 (by omega)
  have e1 : u1 = I x.ctr := b1
  rw [e1] at a1
  obtain ⟨u2, a2, b2⟩ := hr 2 (by omega)
  have e2 : u2 = I x.ac.kind := b2
  rw [e2] at a2
  obtain ⟨u3, a3, b3⟩ := hr 3 (by omega)
  have e3 : u3 = I x.ac.task := b3
  rw [e3] at a3
  obtain ⟨u4, a4, b4⟩ := hr 4 (by omega)
  have e4 : u4 = I x.ac.event := b4
  rw [e4] at a4
  obtain ⟨u5, a5, b5⟩ := hr 5 (by omega)
  have e5 : u5 = S x.ac.name := b5
  rw [e5] at a5
  obtain ⟨u6, a6, b6⟩ := hr 6 (by omega)
  obtain ⟨s6, e6, r6⟩ := (show IntsV w x.auto u6 from b6)
  rw [e6] at a6
  obtain ⟨u7, a7, b7⟩ := hr 7 (by omega)
  have e7 : u7 = .int .u32 (x.time : Int) := b7
  rw [e7] at a7
  obtain ⟨u8, a8, b8⟩ := hr 8 (by omega)
  have e8 : u8 = .int .u32 (x.cycle : Int) := b8
  rw [e8] at a8
  rw [Nat.add_zero] at a0
  exact ⟨g, off, s6, e, hg, a0, a1, a2, a3, a4, a5, a6, a7, a8, r6⟩
theorem is_at {w : World} {c : Cf} {v : Vs} (h : CfAt w c v) {j : Nat} {x : Is} (hj : c.isrs[j]? = some x) : ∃ (g off : Nat) (s3 s4 : Sl), v.i.a = some ⟨g, off, none⟩ ∧ g < w.heap.size ∧ w.cell? ⟨g, off + j * 5, none⟩ = some (S x.name) ∧ w.cell? ⟨g, off + j * 5 + 1, none⟩ = some (I x.cat) ∧ w.cell? ⟨g, off + j * 5 + 2, none⟩ = some (I x.prio) ∧ w.cell? ⟨g, off + j * 5 + 3, none⟩ = some (.slice s3.a s3.n s3.c) ∧ w.cell? ⟨g, off + j * 5 + 4, none⟩ = some (.slice s4.a s4.n s4.c) ∧ RowsAt w 1 intP s3 x.res ∧ RowsAt w 1 intP s4 x.msgs := by
  obtain ⟨g, off, e, hg, hr⟩ := h.i.row j x hj
  obtain ⟨u0, a0, b0⟩ := hr 0 (by omega)
  have e0 : u0 = S x.name := b0
  rw [e0] at a0
  obtain ⟨u1, a1, b1⟩ := hr 1 (by omega)
  have e1 : u1 = I x.cat := b1
  rw [e1] at a1
  obtain ⟨u2, a2, b2⟩ := hr 2 (by omega)
  have e2 : u2 = I x.prio := b2
  rw [e2] at a2
  obtain ⟨u3, a3, b3⟩ := hr 3 (by omega)
  obtain ⟨s3, e3, r3⟩ := (show IntsV w x.res u3 from b3)
  rw [e3] at a3
  obtain ⟨u4, a4, b4⟩ := hr 4 (by omega)
  obtain ⟨s4, e4, r4⟩ := (show IntsV w x.msgs u4 from b4)
  rw [e4] at a4
  rw [Nat.add_zero] at a0
  exact ⟨g, off, s3, s4, e, hg, a0, a1, a2, a3, a4, r3, r4⟩
theorem ms_at {w : World} {c : Cf} {v : Vs} (h : CfAt w c v) {j : Nat} {x : Ms} (hj : c.msgs[j]? = some x) : ∃ (g off : Nat), v.s.a = some ⟨g, off, none⟩ ∧ g < w.heap.size ∧ w.cell? ⟨g, off + j * 10, none⟩ = some (S x.name) ∧ w.cell? ⟨g, off + j * 10 + 1, none⟩ = some (I x.kind) ∧ w.cell? ⟨g, off + j * 10 + 2, none⟩ = some (I x.len) ∧ w.cell? ⟨g, off + j * 10 + 3, none⟩ = some (I x.frm) ∧ w.cell? ⟨g, off + j * 10 + 4, none⟩ = some (.int .u64 (x.init : Int)) ∧ w.cell? ⟨g, off + j * 10 + 5, none⟩ = some (I x.queue) ∧ w.cell? ⟨g, off + j * 10 + 6, none⟩ = some (I x.ac.kind) ∧ w.cell? ⟨g, off + j * 10 + 7, none⟩ = some (I x.ac.task) ∧ w.cell? ⟨g, off + j * 10 + 8, none⟩ = some (I x.ac.event) ∧ w.cell? ⟨g, off + j * 10 + 9, none⟩ = some (S x.ac.name) := by
  obtain ⟨g, off, e, hg, hr⟩ := h.s.row j x hj
  obtain ⟨u0, a0, b0⟩ := hr 0 (by omega)
  have e0 : u0 = S x.name := b0
  rw [e0] at a0
  obtain ⟨u1, a1, b1⟩ := hr 1 (by omega)
  have e1 : u1 = I x.kind := b1
  rw [e1] at a1
  obtain ⟨u2, a2, b2⟩ := hr 2 (by omega)
  have e2 : u2 = I x.len := b2
  rw [e2] at a2
  obtain ⟨u3, a3, b3⟩ := hr 3 (by omega)
  have e3 : u3 = I x.frm := b3
  rw [e3] at a3
  obtain ⟨u4, a4, b4⟩ := hr 4 (by omega)
  have e4 : u4 = .int .u64 (x.init : Int) := b4
  rw [e4] at a4
  obtain ⟨u5, a5, b5⟩ := hr 5 (by omega)
  have e5 : u5 = I x.queue := b5
  rw [e5] at a5
  obtain ⟨u6, a6, b6⟩ := hr 6 (by omega)
  have e6 : u6 = I x.ac.kind := b6
  rw [e6] at a6
  obtain ⟨u7, a7, b7⟩ := hr 7 (by omega)
  have e7 : u7 = I x.ac.task := b7
  rw [e7] at a7
  obtain ⟨u8, a8, b8⟩ := hr 8 (by omega)
  have e8 : u8 = I x.ac.event := b8
  rw [e8] at a8
  obtain ⟨u9, a9, b9⟩ := hr 9 (by omega)
  have e9 : u9 = S x.ac.name := b9
  rw [e9] at a9
  rw [Nat.add_zero] at a0
  exact ⟨g, off, e, hg, a0, a1, a2, a3, a4, a5, a6, a7, a8, a9⟩
end Go.Proofs.YtmidaeljeoifdaaGreatDoor.Ce

