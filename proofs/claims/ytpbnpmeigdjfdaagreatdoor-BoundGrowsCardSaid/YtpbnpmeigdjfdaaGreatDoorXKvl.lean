import Derived.Test.YtpbnpmeigdjfdaaGreatDoorXKrd
import Derived.Test.YtpbnpmeigdjfdaaGreatDoorXKve
import Derived.Test.YtpbnpmeigdjfdaaGreatDoorXKvd
import Derived.Test.YtpbnpmeigdjfdaaGreatDoorXKrg
import Derived.Laws.Tables
import Derived.Deep.DeepAppendWide
import Derived.Test.YtpbnpmeigdjfdaaGreatDoorXKrt
namespace Go.Proofs.YtpbnpmeigdjfdaaGreatDoor
open Go.RowKit
set_option linter.unusedSimpArgs false
set_option linter.unusedVariables false
set_option maxHeartbeats 16000000
set_option maxRecDepth 100000
end Go.Proofs.YtpbnpmeigdjfdaaGreatDoor
namespace Go.Proofs.YtpbnpmeigdjfdaaGreatDoor
set_option linter.unusedSimpArgs false
set_option linter.unusedVariables false
set_option maxHeartbeats 16000000
set_option maxRecDepth 100000
theorem first_none {cs : List Ck} {k : Nat} {B : Nat → Bool} (h : firstF cs k B = none) : ∀ i, i < cs.length → B (k + i) = true := by
 induction cs generalizing k with
 | nil => intro i hi; exact absurd hi (Nat.not_lt_zero _)
 | cons x r ih =>
  intro i hi
  rw [firstF] at h
  split at h
  ·rename_i hb
   cases i with
   | zero => exact hb
   | succ i =>
    have := ih h i (by simpa using hi)
    rwa [show k + (i + 1) = k + 1 + i by omega]
  ·cases h
theorem looks_none {E : Nat → Option Int} {m j : Nat} (h : looksF E m j = none) : ∀ i, i < m → E (j + i) = none := by
 induction m generalizing j with
 | zero => intro i hi; exact absurd hi (Nat.not_lt_zero _)
 | succ m ih =>
  intro i hi
  rw [looksF] at h
  split at h
  ·cases h
  ·rename_i he
   cases i with
   | zero => exact he
   | succ i =>
    have := ih h i (by omega)
    rwa [show j + (i + 1) = j + 1 + i by omega]
theorem lookL_none {names : List (List UInt8)} {lo hi : Int} {cs : List Ck} {B : Nat → Nat → Bool} (h : lookL names lo hi cs B = none) :
  inR names.length lo hi = true ∧ ∀ (j : Nat) (nm : List UInt8), names[j]? = some nm → isNm nm = true ∧ hasS (names.take j) nm = false ∧ ∀ k, k < cs.length → B k j = true := by
 unfold lookL at h
 split at h
 ·rename_i hin
  refine ⟨hin, fun j nm hj => ?_⟩
  have hE := looks_none h j (List.getElem?_eq_some_iff.1 hj).1
  rw [Nat.zero_add] at hE
  unfold objF at hE
  rw [hj] at hE
  simp only at hE
  split at hE
  ·cases hE
  ·rename_i hb
   have h2 : isNm nm = true ∧ hasS (names.take j) nm = false := by
    cases h3 : isNm nm <;> cases h4 : hasS (names.take j) nm <;> simp [h3, h4] at hb ⊢
   exact ⟨h2.1, h2.2, fun k hk => by have := first_none hE k hk; rwa [Nat.zero_add] at this⟩
 ·cases h
theorem kind_none {α : Type} {l : List α} {f : α → List UInt8} {lo hi : Int} {cs : List Ck} {Q : Nat → α → Nat → Bool} (h : lookL (l.map f) lo hi cs (byB l Q) = none) :
  inR l.length lo hi = true ∧ ∀ (j : Nat) (x : α), l[j]? = some x → isNm (f x) = true ∧ hasS ((l.map f).take j) (f x) = false ∧ ∀ k, k < cs.length → Q j x k = true := by
 obtain ⟨h1, h2⟩ := lookL_none h
 rw [List.length_map] at h1
 refine ⟨h1, fun j x hj => ?_⟩
 obtain ⟨a, b, d⟩ := h2 j (f x) (by rw [List.getElem?_map, hj]; rfl)
 exact ⟨a, b, fun k hk => by rw [← byB_at (B := Q) hj]; exact d k hk⟩
theorem lookAll_none {l : List (List UInt8 × Option (Int × Int))} (h : lookAll l = none) : ∀ x ∈ l, x.2 = none := by
 induction l with
 | nil => intro x hx; cases hx
 | cons y r ih =>
  obtain ⟨wd, o⟩ := y
  rw [lookAll] at h
  cases o with
  | some p => obtain ⟨a, b⟩ := p; cases h
  | none =>
   intro x hx
   rcases List.mem_cons.1 hx with rfl | hx
   ·rfl
   ·exact ih h x hx
structure May (c : Cf) : Prop where
 m : inR c.modes.length 1 8 = true ∧ ∀ (j : Nat) (nm : List UInt8), c.modes[j]? = some nm → isNm nm = true ∧ hasS (c.modes.take j) nm = false
 r : inR c.ress.length 0 64 = true ∧ ∀ (j : Nat) (x : Rs), c.ress[j]? = some x → isNm x.name = true ∧ hasS ((c.ress.map fun x => x.name).take j) x.name = false ∧ ∀ k, k < 4 → resQ c j x k = true
 e : inR c.evs.length 0 256 = true ∧ ∀ (j : Nat) (x : Ev), c.evs[j]? = some x → isNm x.name = true ∧ hasS ((c.evs.map fun x => x.name).take j) x.name = false ∧ ∀ k, k < 1 → evQ c j x k = true
 t : inR c.tasks.length 1 256 = true ∧ ∀ (j : Nat) (x : Tk), c.tasks[j]? = some x → isNm x.name = true ∧ hasS ((c.tasks.map fun x => x.name).take j) x.name = false ∧ ∀ k, k < 6 → tkQ c j x k = true
 k : inR c.ctrs.length 0 16 = true ∧ ∀ (j : Nat) (x : Ct), c.ctrs[j]? = some x → isNm x.name = true ∧ hasS ((c.ctrs.map fun x => x.name).take j) x.name = false ∧ ∀ k, k < 1 → ctQ c j x k = true
 a : inR c.als.length 0 64 = true ∧ ∀ (j : Nat) (x : Al), c.als[j]? = some x → isNm x.name = true ∧ hasS ((c.als.map fun x => x.name).take j) x.name = false ∧ ∀ k, k < 8 → alQ c j x k = true
 i : inR c.isrs.length 0 32 = true ∧ ∀ (j : Nat) (x : Is), c.isrs[j]? = some x → isNm x.name = true ∧ hasS ((c.isrs.map fun x => x.name).take j) x.name = false ∧ ∀ k, k < 5 → isQ c j x k = true
 s : inR c.msgs.length 0 64 = true ∧ ∀ (j : Nat) (x : Ms), c.msgs[j]? = some x → isNm x.name = true ∧ hasS ((c.msgs.map fun x => x.name).take j) x.name = false ∧ ∀ k, k < 8 → msQ c j x k = true
theorem may_of {c : Cf} (h : allF c = none) : May c := by
 have H := lookAll_none h
 unfold tenR at H
 simp only [List.forall_mem_cons] at H
 obtain ⟨h0, h1, h2, h3, h4, h5, h6, h7, h8, h9, _⟩ := H
 have hm := lookL_none h2
 exact ⟨⟨hm.1, fun j nm hj => ⟨(hm.2 j nm hj).1, (hm.2 j nm hj).2.1⟩⟩, kind_none h3, kind_none h4, kind_none h5, kind_none h6, kind_none h7, kind_none h8, kind_none h9⟩
end Go.Proofs.YtpbnpmeigdjfdaaGreatDoor
namespace Go.Proofs.YtpbnpmeigdjfdaaGreatDoor
open Go.RowKit Go.Sort
set_option linter.unusedSimpArgs false
set_option linter.unusedVariables false
set_option maxHeartbeats 16000000
set_option maxRecDepth 100000
end Go.Proofs.YtpbnpmeigdjfdaaGreatDoor
namespace Go.Proofs.YtpbnpmeigdjfdaaGreatDoor
open Go.RowKit
set_option linter.unusedSimpArgs false
set_option linter.unusedVariables false
set_option maxHeartbeats 16000000
set_option maxRecDepth 100000
def tkS (nm : UInt8) : Tk := ⟨[nm], 1, false, 1, [], [], [], []⟩
def cfS (ts : List Tk) : Cf := ⟨[99], [111], false, false, false, false, false, false, false, false, [[109]], ts, [], [], [], [], [], []⟩
def vsS (bm : Nat) (t : Sl) : Vs := ⟨⟨some ⟨bm, 0, none⟩, 1, 1⟩, t, noS, noS, noS, noS, noS, noS⟩
def tkC (nm : UInt8) : List Value := [S [nm], I 1, .bool false, I 1, .slice none 0 0, .slice none 0 0, .slice none 0 0, .slice none 0 0]
theorem lens (ts : List Tk) (h : ts.length ≤ 2) : LensOK (cfS ts) := ⟨by show ts.length ≤ _; omega, Nat.zero_le _, Nat.zero_le _, Nat.zero_le _, Nat.zero_le _, Nat.zero_le _, Nat.zero_le _⟩
theorem none_at {α : Type} {w : World} {k : Nat} {P : α → Nat → Value → Prop} : RowsAt w k P noS [] := ⟨rfl, Nat.le_refl _, Nat.zero_le _, fun j x hj => by simp at hj⟩
theorem ints0 {w : World} : IntsV w [] (.slice none 0 0) := ⟨noS, rfl, none_at⟩
theorem tk_cell {w : World} {nm : UInt8} {i : Nat} (hi : i < 8) {u : Value} (h : (tkC nm)[i]? = some u) : tkP w (tkS nm) i u := by
 have h8 : i = 0 ∨ i = 1 ∨ i = 2 ∨ i = 3 ∨ i = 4 ∨ i = 5 ∨ i = 6 ∨ i = 7 := by omega
 rcases h8 with rfl | rfl | rfl | rfl | rfl | rfl | rfl | rfl <;> (obtain rfl := Option.some.inj h; first | rfl | exact ints0)
theorem flat8 (l : List UInt8) (j : Nat) (x : UInt8) (hj : l[j]? = some x) (i : Nat) (hi : i < 8) : (l.flatMap tkC)[j * 8 + i]? = (tkC x)[i]? := by
 induction l generalizing j with
 | nil => simp at hj
 | cons y r ih =>
  have e1 : (y :: r).flatMap tkC = tkC y ++ r.flatMap tkC := rfl
  have h2 : (tkC y).length = 8 := rfl
  rw [e1]
  cases j with
  | zero =>
   obtain rfl : y = x := by simpa using hj
   rw [List.getElem?_append_left (by omega)]
   simp
  | succ j =>
   rw [List.getElem?_append_right (by omega), h2, show (j + 1) * 8 + i - 8 = j * 8 + i by omega]
   exact ih j (by simpa using hj)
theorem rows_tk {w : World} {g cap : Nat} {cur : Array Value} (hg : w.heap[g]? = some (.cells cur 79 (0, 0))) (l : List UInt8) (hc : l.length ≤ cap) (hm : cap ≤ maxLen) (htk : cur.toList.take (l.length * 8) = l.flatMap tkC) :
  RowsAt w 8 (tkP w) ⟨some ⟨g, 0, none⟩, l.length, cap⟩ (l.map tkS) := by
 refine ⟨by simp, hc, hm, fun j x hj => ⟨g, 0, rfl, heap_lt hg, fun i hi => ?_⟩⟩
 rw [List.getElem?_map] at hj
 obtain ⟨y, hy, rfl⟩ := Option.map_eq_some_iff.1 hj
 have hjl := (List.getElem?_eq_some_iff.1 hy).1
 have hf := flat8 l j y hy i hi
 rw [← htk, List.getElem?_take, if_pos (by omega), Array.getElem?_toList] at hf
 have hl : i < (tkC y).length := hi
 refine ⟨(tkC y)[i], ?_, tk_cell hi (List.getElem?_eq_getElem hl)⟩
 rw [Nat.zero_add, cell_of_row w g _ _ _ (0, 0) hg, hf]
 exact List.getElem?_eq_getElem hl
theorem small_at {w : World} {bm g cap : Nat} {cur : Array Value} (hbm : w.heap[bm]? = some (.cells #[S [109]] 9 (0, 0))) (hg : w.heap[g]? = some (.cells cur 79 (0, 0))) (l : List UInt8) (hc : l.length ≤ cap) (hm : cap ≤ maxLen) (htk : cur.toList.take (l.length * 8) = l.flatMap tkC) :
  CfAt w (cfS (l.map tkS)) (vsS bm ⟨some ⟨g, 0, none⟩, l.length, cap⟩) :=
 ⟨rows_str hbm, rows_tk hg l hc hm htk, none_at, none_at, none_at, none_at, none_at, none_at⟩
structure HS (w W : World) (bc bm g : Nat) (C cur : Array Value) : Prop where
 below : Below w.heap.size w W
 hc : W.heap[bc]? = some (.cells C 33 (0, 0))
 hm : W.heap[bm]? = some (.cells #[S [109]] 9 (0, 0))
 ht : W.heap[g]? = some (.cells cur 79 (0, 0))
 bge : w.heap.size ≤ bc
 gge : w.heap.size ≤ g
theorem HS.step {w W W' : World} {bc bm g : Nat} {C cur : Array Value} (h : HS w W bc bm g C cur) (hb : Below W.heap.size W W') : HS w W' bc bm g C cur :=
 ⟨h.below.trans (hb.mono h.below.size), (hb.block _ (heap_lt h.hc)).trans h.hc, (hb.block _ (heap_lt h.hm)).trans h.hm, (hb.block _ (heap_lt h.ht)).trans h.ht, h.bge, h.gge⟩
def cS (bm g cap : Nat) (l : List UInt8) : Array Value := cfC (cfS (l.map tkS)) (vsS bm ⟨some ⟨g, 0, none⟩, l.length, cap⟩)
theorem HS.check {w W : World} {bc bm g cap : Nat} {cur : Array Value} {l : List UInt8} (h : HS w W bc bm g (cS bm g cap l) cur) (hE : EnvE w) (hl : l.length ≤ 2) (hc : l.length ≤ cap) (hm : cap ≤ maxLen) (htk : cur.toList.take (l.length * 8) = l.flatMap tkC) (o : Option (Int × List UInt8 × Int)) (ho : allF (cfS (l.map tkS)) = o) :
  Calls Tryz.prog 25 #[.agg (cS bm g cap l)] W fun e w' => VdPost W o e w' := by
 rw [← ho]
 exact check_any W _ _ (small_at h.hm h.ht l hc hm htk) (lens _ (by simpa using hl)) (hE.below h.below)
theorem HS.start {w w1 : World} {bm g : Nat} (hb : Below w.heap.size w w1) (hg : w.heap.size ≤ g) (hm : w1.heap[bm]? = some (.cells #[S [109]] 9 (0, 0))) (ht : w1.heap[g]? = some (.cells (tkC 116).toArray 79 (0, 0))) :
  HS w (w1.alloc (.cells (cS bm g 1 [116]) 33)) w1.heap.size bm g (cS bm g 1 [116]) (tkC 116).toArray := by
 have ha := below_alloc w1 (.cells (cS bm g 1 [116]) 33)
 exact ⟨hb.trans (ha.mono hb.size), heap_alloc_new w1 _, (ha.block _ (heap_lt hm)).trans hm, (ha.block _ (heap_lt ht)).trans ht, hb.size, hg⟩
theorem HS.own {w W : World} {bc bm g : Nat} {C : Array Value} (h : HS w W bc bm g C (tkC 116).toArray) : W.ownsRow w.heap.size 79 8 (.slice (some ⟨g, 0, none⟩) 1 1) 1 (tkC 116) :=
 ⟨rfl, .inr ⟨g, 1, _, rfl, h.gge, h.ht, Nat.le_refl _, by unfold maxLen; omega, rfl, rfl⟩⟩
theorem HS.c11 {w W : World} {bc bm g g' cap : Nat} {cur : Array Value} {l : List UInt8} (h : HS w W bc bm g' (cS bm g cap l) cur) : W.cell? ⟨bc, 11, none⟩ = some (.slice (some ⟨g, 0, none⟩) l.length cap) ∧ W.frozen? ⟨bc, 11, none⟩ = false :=
 ⟨by rw [cell_of_row W bc 11 _ _ (0, 0) h.hc]; rfl, frozen_of_row W bc 11 _ _ h.hc⟩
end Go.Proofs.YtpbnpmeigdjfdaaGreatDoor
namespace Go.Proofs.YtpbnpmeigdjfdaaGreatDoor
set_option linter.unusedSimpArgs false
set_option linter.unusedVariables false
set_option maxHeartbeats 16000000
set_option maxRecDepth 100000
theorem pigeon : ∀ (n : Nat) (f : Nat → Nat), (∀ k, k ≤ n → f k < n) → ∃ i j, i < j ∧ j ≤ n ∧ f i = f j
 | 0, f, h => absurd (h 0 (Nat.le_refl 0)) (Nat.not_lt_zero _)
 | n + 1, f, h => by
  by_cases hv : ∃ i, i ≤ n ∧ f i = f (n + 1)
  ·obtain ⟨i, hi, e⟩ := hv
   exact ⟨i, n + 1, by omega, Nat.le_refl _, e⟩
  ·have hne : ∀ i, i ≤ n → f i ≠ f (n + 1) := fun i hi e => hv ⟨i, hi, e⟩
   have hvl := h (n + 1) (Nat.le_refl _)
   obtain ⟨i, j, hij, hjn, e⟩ := pigeon n (fun k => if f k = n then f (n + 1) else f k) (fun k hk => by
    have h1 := h k (by omega)
    have h2 := hne k hk
    split <;> omega)
   have h1 := hne i (by omega)
   have h2 := hne j hjn
   refine ⟨i, j, hij, by omega, ?_⟩
   split at e <;> split at e <;> omega
def goes (c : Cf) (r : Int) : Bool := isId r c.ress.length && rkind c r == 2
def iter (c : Cf) : Nat → Int → Int
 | 0, r => r
 | k + 1, r => iter c k (rlink c r)
theorem iter_add (c : Cf) (a b : Nat) (r : Int) : iter c (a + b) r = iter c b (iter c a r) := by
 induction a generalizing r with
 | zero => rw [Nat.zero_add]; rfl
 | succ a ih => rw [show a + 1 + b = (a + b) + 1 by omega, iter, iter, ih]
theorem rootF_all (c : Cf) : ∀ (f : Nat) (r : Int), (∀ k, k < f → goes c (iter c k r) = true) → rootF c f r = -1
 | 0, r, _ => rfl
 | f + 1, r, h => by
  have h0 : goes c r = true := h 0 (by omega)
  simp [goes] at h0
  rw [rootF, if_pos h0.1, if_pos h0.2]
  exact rootF_all c f _ (fun k hk => h (k + 1) (by omega))
theorem rootF_some (c : Cf) : ∀ (f g : Nat) (r : Int) (k : Nat), k < f → k < g → goes c (iter c k r) = false → rootF c f r = rootF c g r
 | 0, _, _, _, h, _, _ => absurd h (Nat.not_lt_zero _)
 | _, 0, _, _, _, h, _ => absurd h (Nat.not_lt_zero _)
 | f + 1, g + 1, r, k, hf, hg, hk => by
  rw [rootF, rootF]
  split
  ·split
   ·cases k with
    | zero =>
     rename_i h1 h2
     have : goes c r = false := hk
     simp [goes, h1, h2] at this
    | succ k => exact rootF_some c f g _ k (by omega) (by omega) hk
   ·rfl
  ·rfl
theorem rootF_more (c : Cf) (r : Int) : rootF c (c.ress.length + 1) r = rootF c c.ress.length r := by
 by_cases h : ∃ k, k < c.ress.length ∧ goes c (iter c k r) = false
 ·obtain ⟨k, hk, hg⟩ := h
  exact rootF_some c _ _ r k (by omega) hk hg
 ·have hall : ∀ k, k < c.ress.length → goes c (iter c k r) = true := fun k hk => by
   cases hg : goes c (iter c k r) with
   | true => rfl
   | false => exact absurd ⟨k, hk, hg⟩ h
  rw [rootF_all c c.ress.length r hall]
  by_cases hn : isId (iter c c.ress.length r) c.ress.length = true
  ·have hid : ∀ k, k ≤ c.ress.length → isId (iter c k r) c.ress.length = true := fun k hk => by
    by_cases e : k < c.ress.length
    ·have := hall k e
     simp [goes] at this
     exact this.1
    ·obtain rfl : k = c.ress.length := by omega
     exact hn
   have hnn : ∀ k, k ≤ c.ress.length → 0 ≤ iter c k r ∧ iter c k r < c.ress.length := fun k hk => by
    have := hid k hk
    simpa [isId] using this
   obtain ⟨i, j, hij, hjn, e⟩ := pigeon c.ress.length (fun k => (iter c k r).toNat) (fun k hk => by have := hnn k hk; omega)
   have e2 : iter c i r = iter c j r := by
    have h1 := hnn i (by omega)
    have h2 := hnn j hjn
    omega
   have e3 : iter c (i + (c.ress.length - j)) r = iter c c.ress.length r := by
    rw [iter_add, e2, ← iter_add]
    congr 1
    omega
   have h4 := hall (i + (c.ress.length - j)) (by omega)
   refine rootF_all c _ r (fun k hk => ?_)
   by_cases ek : k < c.ress.length
   ·exact hall k ek
   ·obtain rfl : k = c.ress.length := by omega
    rw [← e3]
    exact h4
  ·obtain ⟨m, hm⟩ : ∃ m, m = c.ress.length := ⟨_, rfl⟩
   have key : ∀ (f : Nat) (q : Int), (∀ k, k < f → goes c (iter c k q) = true) → isId (iter c f q) c.ress.length = false → rootF c (f + 1) q = -1 := by
    intro f
    induction f with
    | zero =>
     intro q _ hq
     have hq' : isId q c.ress.length = false := hq
     rw [rootF, if_neg (by rw [hq']; decide)]
    | succ f ih =>
     intro q hk hq
     have h0 : goes c q = true := hk 0 (by omega)
     simp [goes] at h0
     rw [rootF, if_pos h0.1, if_pos h0.2]
     exact ih _ (fun k hk2 => hk (k + 1) (by omega)) hq
   exact key _ r hall (by simpa using hn)
theorem rkind_at {c : Cf} {j : Nat} {x : Rs} (h : c.ress[j]? = some x) : rkind c (j : Int) = x.kind := by simp [rkind, h]
theorem rlink_at {c : Cf} {j : Nat} {x : Rs} (h : c.ress[j]? = some x) : rlink c (j : Int) = x.link := by simp [rlink, h]
theorem isId_nat {j n : Nat} (h : j < n) : isId (j : Int) n = true := by simp [isId]; omega
theorem first_code {cs : List Ck} {k : Nat} {B : Nat → Bool} {e : Int} (h : firstF cs k B = some e) (hc : ∀ x ∈ cs, x.code ≠ 0) : e ≠ 0 := by
 induction cs generalizing k with
 | nil => cases h
 | cons x r ih =>
  rw [firstF] at h
  split at h
  ·exact ih h (fun y hy => hc y (List.mem_cons_of_mem _ hy))
  ·cases h; exact hc x (List.mem_cons_self ..)
theorem looks_code {E : Nat → Option Int} {m j : Nat} {e i : Int} (h : looksF E m j = some (e, i)) (hE : ∀ j e, E j = some e → e ≠ 0) : e ≠ 0 := by
 induction m generalizing j with
 | zero => cases h
 | succ m ih =>
  rw [looksF] at h
  split at h
  ·rename_i c hc
   cases h
   exact hE j _ hc
  ·exact ih h
theorem lookL_code {names : List (List UInt8)} {lo hi : Int} {cs : List Ck} {B : Nat → Nat → Bool} {e i : Int} (hc : ∀ x ∈ cs, x.code ≠ 0) (h : lookL names lo hi cs B = some (e, i)) : e ≠ 0 := by
 unfold lookL at h
 split at h
 ·refine looks_code h (fun j e he => ?_)
  unfold objF at he
  split at he
  ·cases he
  ·split at he
   ·cases he; omega
   ·exact first_code he hc
 ·cases h; omega
theorem all_code {l : List (List UInt8 × Option (Int × Int))} {e i : Int} {wd : List UInt8} (h : lookAll l = some (e, wd, i)) (hc : ∀ x ∈ l, ∀ c j, x.2 = some (c, j) → c ≠ 0) : e ≠ 0 := by
 induction l with
 | nil => cases h
 | cons y r ih =>
  obtain ⟨w', o⟩ := y
  rw [lookAll] at h
  cases o with
  | some p =>
   obtain ⟨a, b⟩ := p
   cases h
   exact hc _ (List.mem_cons_self ..) _ _ rfl
  | none => exact ih h (fun x hx => hc x (List.mem_cons_of_mem _ hx))
theorem allF_code {c : Cf} {e i : Int} {wd : List UInt8} (h : allF c = some (e, wd, i)) : e ≠ 0 := by
 refine all_code h ?_
 unfold tenR
 simp only [List.forall_mem_cons]
 refine ⟨?_, ?_, ?_, ?_, ?_, ?_, ?_, ?_, ?_, ?_, fun x hx => by cases hx⟩ <;>
  (intro c j hc
   refine lookL_code ?_ hc
   simp [resourceChecksL, eventChecksL, taskChecksL, counterChecksL, alarmChecksL, isrChecksL, messageChecksL])
end Go.Proofs.YtpbnpmeigdjfdaaGreatDoor
