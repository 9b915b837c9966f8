import Derived.Test.YthhckhifaolmkaaGreatXUh
import Derived.Test.YthhckhifaolmkaaGreatXTca
import Derived.Deep.Cut
namespace Go.Proofs.YthhckhifaolmkaaGreat
open Go.RowKit Go.Shelf Go.Sort
open Go.Proofs.YthhckhifaolmkaaGreat.Cl (Fx Fz Ck Cb Alm psA dueA dueF U Q)
set_option linter.unusedVariables false
set_option linter.unusedSimpArgs false

/-! ### Alarms by their counters, on lists -/
def ctrN (tb : Tb) (j : Nat) : Nat := match tb.als[j]? with | some x => x.ctr.toNat | none => 0
/-- the alarms of a counter -/
def idxA (tb : Tb) (i : Nat) : List Nat := (List.range tb.als.length).filter (fun j => ctrN tb j == i)
/-- an alarm's place among those of its counter -/
def idxT (tb : Tb) (i k : Nat) : List Nat := (List.range k).filter (fun j => ctrN tb j == i)
def plN (tb : Tb) (j : Nat) : Nat := (idxT tb (ctrN tb j) j).length
def alC (tb : Tb) (a : Nat → Alm) (i : Nat) : List Alm := (idxA tb i).map a
def upN {α : Type} (a : Nat → α) (j : Nat) (x : α) : Nat → α := fun k => if k = j then x else a k
theorem upN_same {α : Type} (a : Nat → α) (j : Nat) (x : α) : upN a j x j = x := by simp [upN]
theorem upN_ne {α : Type} (a : Nat → α) {j k : Nat} (x : α) (h : k ≠ j) : upN a j x k = a k := by simp [upN, h]
theorem upN_self {α : Type} (a : Nat → α) (j : Nat) : upN a j (a j) = a := by funext k; unfold upN; split <;> simp_all
theorem idxT_all (tb : Tb) (i : Nat) : idxT tb i tb.als.length = idxA tb i := rfl
theorem idxT_zero (tb : Tb) (i : Nat) : idxT tb i 0 = [] := rfl
theorem idxT_succ (tb : Tb) (i k : Nat) : idxT tb i (k + 1) = idxT tb i k ++ (if ctrN tb k = i then [k] else []) := by
  unfold idxT
  rw [List.range_succ, List.filter_append]
  congr 1
  by_cases h : ctrN tb k = i <;> simp [h]
theorem idxA_cut (tb : Tb) {j : Nat} (hj : j < tb.als.length) : ∃ r, idxA tb (ctrN tb j) = idxT tb (ctrN tb j) j ++ j :: r := by
  have e : List.range tb.als.length = List.range j ++ (List.range (tb.als.length - j)).map (j + ·) := by
    rw [← List.range_add]; congr 1; omega
  obtain ⟨m, hm⟩ : ∃ m, tb.als.length - j = m + 1 := ⟨tb.als.length - j - 1, by omega⟩
  unfold idxA
  rw [e, List.filter_append, hm, List.range_succ_eq_map]
  simp only [List.map_cons, Nat.add_zero]
  rw [List.filter_cons_of_pos (by simp)]
  exact ⟨_, rfl⟩
theorem idxA_at (tb : Tb) {j : Nat} (hj : j < tb.als.length) : (idxA tb (ctrN tb j))[plN tb j]? = some j := by
  obtain ⟨r, hr⟩ := idxA_cut tb hj
  rw [hr]
  unfold plN
  rw [List.getElem?_append_right (Nat.le_refl _)]
  simp
theorem idxA_nodup (tb : Tb) (i : Nat) : (idxA tb i).Nodup := List.nodup_range.filter _
theorem idxA_mem {tb : Tb} {i j : Nat} : j ∈ idxA tb i ↔ j < tb.als.length ∧ ctrN tb j = i := by
  unfold idxA
  simp
theorem idxA_len (tb : Tb) (i : Nat) : (idxA tb i).length ≤ tb.als.length := by
  unfold idxA
  exact Nat.le_trans (List.length_filter_le _ _) (by simp)
theorem idxT_len (tb : Tb) (i k : Nat) : (idxT tb i k).length ≤ k := by
  unfold idxT
  exact Nat.le_trans (List.length_filter_le _ _) (by simp)
theorem alC_len (tb : Tb) (a : Nat → Alm) (i : Nat) : (alC tb a i).length = (idxA tb i).length := by simp [alC]
theorem plN_lt (tb : Tb) {j : Nat} (hj : j < tb.als.length) (a : Nat → Alm) : plN tb j < (alC tb a (ctrN tb j)).length := by
  rw [alC_len]
  exact (List.getElem?_eq_some_iff.1 (idxA_at tb hj)).1
theorem alC_at (tb : Tb) (a : Nat → Alm) {j : Nat} (hj : j < tb.als.length) : (alC tb a (ctrN tb j))[plN tb j]? = some (a j) := by
  unfold alC
  rw [List.getElem?_map, idxA_at tb hj]
  rfl
theorem map_set_nodup {α : Type} (a : Nat → α) (x : α) (j : Nat) : ∀ (l : List Nat) (p : Nat), l.Nodup → l[p]? = some j → (l.map a).set p x = l.map (upN a j x)
  | [], p, _, h => by simp at h
  | y :: l, 0, hn, h => by
    simp at h
    subst h
    simp only [List.map_cons, List.set_cons_zero, upN_same]
    congr 1
    apply List.map_congr_left
    intro k hk
    rw [upN_ne]
    rintro rfl
    exact (List.nodup_cons.1 hn).1 hk
  | y :: l, p + 1, hn, h => by
    simp only [List.map_cons, List.set_cons_succ]
    rw [map_set_nodup a x j l p (List.nodup_cons.1 hn).2 (by simpa using h), upN_ne]
    rintro rfl
    exact (List.nodup_cons.1 hn).1 (List.mem_of_getElem? (by simpa using h))
theorem alC_set (tb : Tb) (a : Nat → Alm) {j : Nat} (hj : j < tb.als.length) (x : Alm) : (alC tb a (ctrN tb j)).set (plN tb j) x = alC tb (upN a j x) (ctrN tb j) := map_set_nodup a x j _ _ (idxA_nodup tb _) (idxA_at tb hj)
theorem alC_other (tb : Tb) (a : Nat → Alm) {i j : Nat} (x : Alm) (h : ctrN tb j ≠ i) : alC tb (upN a j x) i = alC tb a i := by
  unfold alC
  apply List.map_congr_left
  intro k hk
  rw [upN_ne]
  rintro rfl
  exact h (idxA_mem.1 hk).2
/-- all alarms of a counter: one tick -/
def psF (tb : Tb) (a : Nat → Alm) (c : Nat) : Nat → Alm := fun j => if ctrN tb j = c then psA 1 (a j) else a j
theorem alC_ps (tb : Tb) (a : Nat → Alm) (c : Nat) : (alC tb a c).map (psA 1) = alC tb (psF tb a c) c := by
  unfold alC
  rw [List.map_map]
  apply List.map_congr_left
  intro j hj
  simp [psF, (idxA_mem.1 hj).2]
theorem alC_ps_other (tb : Tb) (a : Nat → Alm) {c i : Nat} (h : i ≠ c) : alC tb (psF tb a c) i = alC tb a i := by
  unfold alC
  apply List.map_congr_left
  intro j hj
  have := (idxA_mem.1 hj).2
  simp only [psF]
  rw [if_neg (by omega)]
/-- those that expire -/
def expL (tb : Tb) (a : Nat → Alm) (c : Nat) : List Nat := (idxA tb c).filter (fun j => dueA 1 (a j))
theorem due_map (a : Nat → Alm) : ∀ (l : List Nat) (o : Nat), dueF 1 o (l.map a) = ((List.range l.length).filter (fun p => dueA 1 (a (l.getD p 0)))).map (o + ·)
  | [], o => rfl
  | y :: l, o => by
    simp only [List.map_cons, dueF, List.length_cons, List.range_succ_eq_map, due_map a l (o + 1)]
    rw [List.filter_cons]
    simp only [List.getD_cons_zero]
    have e : List.filter (fun p => dueA 1 (a ((y :: l).getD p 0))) (List.map Nat.succ (List.range l.length)) = (List.filter (fun p => dueA 1 (a (l.getD p 0))) (List.range l.length)).map Nat.succ := by
      rw [List.filter_map]
      rfl
    rw [e]
    split
    · simp only [List.map_cons, Nat.add_zero, List.map_map]
      congr 1
      apply List.map_congr_left
      intro p _
      simp; omega
    · simp only [List.map_map]
      apply List.map_congr_left
      intro p _
      simp; omega
theorem map_getD (l : List Nat) (f : Nat → Bool) : ((List.range l.length).filter (fun p => f (l.getD p 0))).map (fun p => l.getD p 0) = l.filter f := by
  have h : (List.range l.length).map (fun p => l.getD p 0) = l := by
    apply List.ext_getElem?
    intro i
    rw [List.getElem?_map]
    by_cases hi : i < l.length
    · rw [List.getElem?_range hi]
      simp [List.getD_eq_getElem?_getD, List.getElem?_eq_getElem hi]
    · rw [List.getElem?_eq_none (by simpa using hi), List.getElem?_eq_none (by simpa using hi)]
      rfl
  conv => rhs; rw [← h, List.filter_map]
  rfl
theorem due_exp (tb : Tb) (a : Nat → Alm) (c : Nat) : (dueF 1 0 (alC tb a c)).map (fun p => (idxA tb c).getD p 0) = expL tb a c := by
  unfold alC expL
  rw [due_map, List.map_map]
  have : ((fun p => (idxA tb c).getD p 0) ∘ fun x => 0 + x) = fun p => (idxA tb c).getD p 0 := by funext p; simp
  rw [this]
  exact map_getD (idxA tb c) (fun j => dueA 1 (a j))
theorem due_lt {tb : Tb} {a : Nat → Alm} {c p : Nat} (h : p ∈ dueF 1 0 (alC tb a c)) : p < (idxA tb c).length := by
  unfold alC at h
  rw [due_map] at h
  simp only [List.mem_map, List.mem_filter, List.mem_range] at h
  omega
/-! ### Requests as bits -/
/-- is an ISR requested? -/
def hasQ (q : Nat → Nat) (i : Nat) : Bool := (q (i / 8)).testBit (i % 8)
def addQ (q : Nat → Nat) (i : Nat) : Nat → Nat := upN q (i / 8) (q (i / 8) ||| 2 ^ (i % 8))
def remQ (q : Nat → Nat) (i : Nat) : Nat → Nat := upN q (i / 8) (q (i / 8) &&& (255 - 2 ^ (i % 8)))
def OKq (q : Nat → Nat) : Prop := ∀ k, q k < 256
theorem t255 : ∀ m < 8, ∀ k, (255 - 2 ^ m).testBit k = (decide (k < 8) && decide (k ≠ m)) := by
  intro m hm k
  by_cases hk : k < 8
  · have : ∀ m < 8, ∀ k < 8, (255 - 2 ^ m).testBit k = (decide (k < 8) && decide (k ≠ m)) := by decide
    exact this m hm k hk
  · rw [Nat.testBit_lt_two_pow]
    · simp [hk]
    · calc 255 - 2 ^ m < 2 ^ 8 := Nat.lt_of_le_of_lt (Nat.sub_le _ _) (by decide)
        _ ≤ 2 ^ k := Nat.pow_le_pow_right (by omega) (by omega)
theorem has_add (q : Nat → Nat) (i k : Nat) : hasQ (addQ q i) k = (decide (k = i) || hasQ q k) := by
  unfold hasQ addQ upN
  by_cases h : k / 8 = i / 8
  · rw [if_pos h, h, Nat.testBit_or, Nat.testBit_two_pow]
    by_cases h2 : i % 8 = k % 8
    · have : k = i := by omega
      simp [this]
    · have : k ≠ i := by omega
      simp [this, h2]
  · have : k ≠ i := by rintro rfl; exact h rfl
    rw [if_neg h]
    simp [this]
theorem has_rem {q : Nat → Nat} (hq : OKq q) (i k : Nat) : hasQ (remQ q i) k = (decide (k ≠ i) && hasQ q k) := by
  unfold hasQ remQ upN
  by_cases h : k / 8 = i / 8
  · rw [if_pos h, h, Nat.testBit_and, t255 _ (by omega)]
    have h8 : k % 8 < 8 := by omega
    by_cases h2 : k % 8 = i % 8
    · have : k = i := by omega
      simp [this]
    · have : k ≠ i := by omega
      simp [this, h2, h8]
  · have : k ≠ i := by rintro rfl; exact h rfl
    rw [if_neg h]
    simp [this]
theorem add_ok {q : Nat → Nat} (hq : OKq q) (i : Nat) : OKq (addQ q i) := by
  intro k
  unfold addQ upN
  split
  · exact Nat.or_lt_two_pow (n := 8) (hq _) (Nat.pow_lt_pow_right (by omega) (by omega))
  · exact hq k
theorem rem_ok {q : Nat → Nat} (hq : OKq q) (i : Nat) : OKq (remQ q i) := by
  intro k
  unfold remQ upN
  split
  · exact Nat.lt_of_le_of_lt Nat.and_le_left (hq _)
  · exact hq k
end Go.Proofs.YthhckhifaolmkaaGreat

namespace Go.Proofs.YthhckhifaolmkaaGreat
open Go.RowKit Go.Shelf Go.Sort
open Go.Proofs.YthhckhifaolmkaaGreat.Cl (Fx Fz Ck Cb Alm psA dueA dueF U Q cP own_sl own_some own_below own_base inL ret_bool ret_int heap_lt)
set_option linter.unusedVariables false
set_option linter.unusedSimpArgs false

/-! ### Rows of k cells each, by a function -/
def flat (f : Nat → List Value) (n : Nat) : List Value := (List.range n).flatMap f
theorem flat_succ (f : Nat → List Value) (n : Nat) : flat f (n + 1) = flat f n ++ f n := by
  unfold flat
  rw [List.range_succ, List.flatMap_append]
  simp
theorem flat_len {f : Nat → List Value} {k : Nat} (hf : ∀ i, (f i).length = k) : ∀ n, (flat f n).length = n * k
  | 0 => by simp [flat]
  | n + 1 => by rw [flat_succ, List.length_append, flat_len hf n, hf, Nat.succ_mul]
theorem flat_at {f : Nat → List Value} {k : Nat} (hf : ∀ i, (f i).length = k) : ∀ {n i j : Nat}, i < n → j < k → (flat f n)[i * k + j]? = (f i)[j]?
  | 0, i, j, h, _ => by omega
  | n + 1, i, j, h, hj => by
    rw [flat_succ]
    by_cases e : i = n
    · subst e
      rw [List.getElem?_append_right (by rw [flat_len hf]; omega), flat_len hf]
      congr 1
      omega
    · have hi : i < n := by omega
      have : i * k + j < n * k := by
        have : (i + 1) * k ≤ n * k := Nat.mul_le_mul_right k hi
        rw [Nat.succ_mul] at this
        omega
      rw [List.getElem?_append_left (by rw [flat_len hf]; exact this)]
      exact flat_at hf hi hj
theorem flat_congr {f g : Nat → List Value} {n : Nat} (h : ∀ i, i < n → f i = g i) : flat f n = flat g n := by
  unfold flat
  induction n with
  | zero => rfl
  | succ n ih =>
    rw [List.range_succ, List.flatMap_append, List.flatMap_append, ih (fun i hi => h i (by omega))]
    simp [h n (by omega)]
/-! ### What tables that fit say of counters, alarms, ISRs -/
def alK (tb : Tb) (j : Nat) : AlR := tb.als.getD j ⟨0, ⟨0, 0, 0⟩, 0, 0, 0⟩
def ctK (tb : Tb) (i : Nat) : CtR := tb.ctrs.getD i ⟨0, 0, 0⟩
def isK (tb : Tb) (i : Nat) : IsR := tb.isrs.getD i ⟨0, 0, []⟩
structure OKb (tb : Tb) : Prop where
  modes : 1 ≤ tb.modes ∧ tb.modes ≤ 8
  nk : tb.ctrs.length ≤ 16
  na : tb.als.length ≤ 64
  ni : tb.isrs.length ≤ 32
  k : ∀ i, i < tb.ctrs.length → 1 ≤ (ctK tb i).max ∧ (ctK tb i).max ≤ 2147483647 ∧ (ctK tb i).base ≤ 2147483647 ∧ 1 ≤ (ctK tb i).min ∧ (ctK tb i).min ≤ (ctK tb i).max
  a : ∀ j, j < tb.als.length → (alK tb j).ctr = (ctrN tb j : Int) ∧ ctrN tb j < tb.ctrs.length ∧ (alK tb j).auto < 4294967296 ∧ (alK tb j).time < 4294967296 ∧ (alK tb j).cycle < 4294967296 ∧ ((alK tb j).auto ≠ 0 → 1 ≤ (alK tb j).time ∧ (alK tb j).time ≤ (ctK tb (ctrN tb j)).max ∧ (alK tb j).cycle ≤ (ctK tb (ctrN tb j)).max)
  i : ∀ j, j < tb.isrs.length → ((isK tb j).cat = 1 ∨ (isK tb j).cat = 2) ∧ 64 ≤ (isK tb j).prio ∧ (isK tb j).prio ≤ 127
/-! ### A board in memory -/
structure Pl where
  vc : Sl
  va : Sl
  vi : Sl
  cb : Nat → Nat
  cv : Nat → Value
  ca : Nat → Sl
structure Bs where
  v : Nat → Nat
  a : Nat → Alm
  q : Nat → Nat
abbrev B8 (n : Nat) : Value := .int .u8 (n : Int)
def bdC (tb : Tb) (p : Pl) (s : Bs) : Array Value := #[I tb.modes, slT p.vc, slT p.va, slT p.vi, B8 (s.q 0), B8 (s.q 1), B8 (s.q 2), B8 (s.q 3)]
def ctRw (tb : Tb) (p : Pl) (i : Nat) : List Value := [cP (p.cb i), U (ctK tb i).max, U (ctK tb i).base, U (ctK tb i).min, slT (p.ca i)]
def alRw (tb : Tb) (j : Nat) : List Value := [I (ctrN tb j), I (plN tb j), U (alK tb j).auto, U (alK tb j).time, U (alK tb j).cycle]
def isRw (tb : Tb) (i : Nat) : List Value := [I (isK tb i).cat, I (isK tb i).prio]
theorem ctRw_len (tb : Tb) (p : Pl) (i : Nat) : (ctRw tb p i).length = 5 := rfl
theorem alRw_len (tb : Tb) (i : Nat) : (alRw tb i).length = 5 := rfl
theorem isRw_len (tb : Tb) (i : Nat) : (isRw tb i).length = 2 := rfl
/-- A board: zn gives each block its kind: 1 the board, 2 its counters, 3 alarms, 4 ISRs, 5 numbers, 10 + i the clock of counter i. -/
structure Bo (w : World) (zn : Nat → Nat) (tb : Tb) (B : Nat) (p : Pl) (s : Bs) : Prop where
  o : w.heap[B]? = some (.cells (bdC tb p s) 61)
  c : w.ownsRow 0 85 5 (slT p.vc) tb.ctrs.length (flat (ctRw tb p) tb.ctrs.length)
  a : w.ownsRow 0 136 5 (slT p.va) tb.als.length (flat (alRw tb) tb.als.length)
  i : w.ownsRow 0 90 2 (slT p.vi) tb.isrs.length (flat (isRw tb) tb.isrs.length)
  k : ∀ i, i < tb.ctrs.length → Ck w (p.cb i) (p.cv i) (ctK tb i).max (ctK tb i).min (s.v i) (alC tb s.a i)
  n : ∀ i, i < tb.ctrs.length → w.ownsRow 0 3 1 (slT (p.ca i)) (idxA tb i).length (inL (idxA tb i))
  zB : zn B = 1
  zc : ∀ b, (slT p.vc).ownBlock = some b → zn b = 2
  za : ∀ b, (slT p.va).ownBlock = some b → zn b = 3
  zi : ∀ b, (slT p.vi).ownBlock = some b → zn b = 4
  zk : ∀ i, i < tb.ctrs.length → ∀ b, Cb (p.cb i) (p.cv i) b → zn b = 10 + i
  zm : ∀ i, i < tb.ctrs.length → ∀ b, (slT (p.ca i)).ownBlock = some b → zn b = 5
  zs : ∀ b, zn b ≠ 0 → b < w.heap.size
  ok : OKb tb
  q : OKq s.q
  l : ∀ j, j < tb.als.length → (s.a j).1 = 0 → (s.a j).2 = 0
/-- what a board's calls write -/
def Wr (zn : Nat → Nat) (b : Nat) : Prop := zn b = 1 ∨ 10 ≤ zn b
section
variable {w w' : World} {zn : Nat → Nat} {tb : Tb} {B : Nat} {p : Pl} {s : Bs}
theorem Bo.keep (h : Bo w zn tb B p s) {M : Nat → Prop} (hf : Fz M w w') (hM : ∀ b, zn b ≠ 0 → ¬ M b) : Bo w' zn tb B p s :=
  ⟨hf.heap h.o (hM _ (by rw [h.zB]; decide)), hf.own h.c (fun g e => hM g (by rw [h.zc g e]; decide)), hf.own h.a (fun g e => hM g (by rw [h.za g e]; decide)), hf.own h.i (fun g e => hM g (by rw [h.zi g e]; decide)),
    fun i hi => (h.k i hi).keptZ hf (fun b hb => hM b (by rw [h.zk i hi b hb]; omega)), fun i hi => hf.own (h.n i hi) (fun g e => hM g (by rw [h.zm i hi g e]; decide)),
    h.zB, h.zc, h.za, h.zi, h.zk, h.zm, fun b hb => Nat.lt_of_lt_of_le (h.zs b hb) hf.size, h.ok, h.q, h.l⟩
theorem Bo.below (h : Bo w zn tb B p s) (hb : Below w.heap.size w w') : Bo w' zn tb B p s := h.keep (M := fun _ => False) (Fz.of_below hb) (fun _ _ e => e)
/-- one counter's clock goes on -/
theorem Bo.setK (h : Bo w zn tb B p s) {i : Nat} (hi : i < tb.ctrs.length) (hf : Fz (Cb (p.cb i) (p.cv i)) w w') {V : Nat} {a : Nat → Alm} (hk : Ck w' (p.cb i) (p.cv i) (ctK tb i).max (ctK tb i).min V (alC tb a i))
    (ho : ∀ i', i' ≠ i → alC tb a i' = alC tb s.a i') (hl : ∀ j, j < tb.als.length → (a j).1 = 0 → (a j).2 = 0) : Bo w' zn tb B p ⟨upN s.v i V, a, s.q⟩ ∧ Fz (Wr zn) w w' := by
  have hn : ∀ b, zn b < 10 → ¬ Cb (p.cb i) (p.cv i) b := fun b hb e => by have := h.zk i hi b e; omega
  refine ⟨⟨hf.heap h.o (hn _ (by rw [h.zB]; decide)), hf.own h.c (fun g e => hn g (by rw [h.zc g e]; decide)), hf.own h.a (fun g e => hn g (by rw [h.za g e]; decide)), hf.own h.i (fun g e => hn g (by rw [h.zi g e]; decide)),
    fun i' hi' => ?_, fun i hi => hf.own (h.n i hi) (fun g e => hn g (by rw [h.zm i hi g e]; decide)), h.zB, h.zc, h.za, h.zi, h.zk, h.zm, fun b hb => Nat.lt_of_lt_of_le (h.zs b hb) hf.size, h.ok, h.q, hl⟩, hf.mono (fun b hb => .inr (by rw [h.zk i hi b hb]; omega))⟩
  by_cases e : i' = i
  · subst e
    simp only [upN_same]
    exact hk
  · simp only [upN_ne _ _ e, ho i' e]
    exact (h.k i' hi').keptZ hf (fun b hb e2 => by have := h.zk i' hi' b hb; have := h.zk i hi b e2; omega)
theorem Bo.cells (h : Bo w zn tb B p s) : w.cell? ⟨B, 0, none⟩ = some (I tb.modes) ∧ w.cell? ⟨B, 1, none⟩ = some (slT p.vc) ∧ w.cell? ⟨B, 2, none⟩ = some (slT p.va) ∧ w.cell? ⟨B, 3, none⟩ = some (slT p.vi) ∧ w.cell? ⟨B, 4, none⟩ = some (B8 (s.q 0)) ∧ w.cell? ⟨B, 5, none⟩ = some (B8 (s.q 1)) ∧ w.cell? ⟨B, 6, none⟩ = some (B8 (s.q 2)) ∧ w.cell? ⟨B, 7, none⟩ = some (B8 (s.q 3)) := by
  refine ⟨?_, ?_, ?_, ?_, ?_, ?_, ?_, ?_⟩ <;> (rw [cell_of_row w B _ _ _ (0, 0) h.o]; rfl)
theorem Bo.frz (h : Bo w zn tb B p s) (j : Nat) : w.frozen? ⟨B, j, none⟩ = false := frozen_of_row w B j _ _ h.o
/-- a counter's cells -/
theorem Bo.ct (h : Bo w zn tb B p s) {i : Nat} (hi : i < tb.ctrs.length) : ∃ g c, slT p.vc = .slice (some ⟨g, 0, none⟩) tb.ctrs.length c ∧ w.cell? ⟨g, i * 5, none⟩ = some (cP (p.cb i)) ∧ w.cell? ⟨g, i * 5 + 1, none⟩ = some (U (ctK tb i).max) ∧ w.cell? ⟨g, i * 5 + 2, none⟩ = some (U (ctK tb i).base) ∧ w.cell? ⟨g, i * 5 + 3, none⟩ = some (U (ctK tb i).min) ∧ w.cell? ⟨g, i * 5 + 4, none⟩ = some (slT (p.ca i)) := by
  obtain ⟨g, c, e⟩ := own_some h.c (by omega)
  have hc := h.c
  rw [e] at hc
  refine ⟨g, c, e, ?_, ?_, ?_, ?_, ?_⟩
  · rw [hc.cellAt _ (by omega)]; exact flat_at (ctRw_len tb p) (j := 0) hi (by omega)
  · rw [hc.cellAt _ (by omega)]; exact flat_at (ctRw_len tb p) (j := 1) hi (by omega)
  · rw [hc.cellAt _ (by omega)]; exact flat_at (ctRw_len tb p) (j := 2) hi (by omega)
  · rw [hc.cellAt _ (by omega)]; exact flat_at (ctRw_len tb p) (j := 3) hi (by omega)
  · rw [hc.cellAt _ (by omega)]; exact flat_at (ctRw_len tb p) (j := 4) hi (by omega)
theorem Bo.al (h : Bo w zn tb B p s) {j : Nat} (hj : j < tb.als.length) : ∃ g c, slT p.va = .slice (some ⟨g, 0, none⟩) tb.als.length c ∧ w.cell? ⟨g, j * 5, none⟩ = some (I (ctrN tb j)) ∧ w.cell? ⟨g, j * 5 + 1, none⟩ = some (I (plN tb j)) ∧ w.cell? ⟨g, j * 5 + 2, none⟩ = some (U (alK tb j).auto) ∧ w.cell? ⟨g, j * 5 + 3, none⟩ = some (U (alK tb j).time) ∧ w.cell? ⟨g, j * 5 + 4, none⟩ = some (U (alK tb j).cycle) := by
  obtain ⟨g, c, e⟩ := own_some h.a (by omega)
  have hc := h.a
  rw [e] at hc
  refine ⟨g, c, e, ?_, ?_, ?_, ?_, ?_⟩
  · rw [hc.cellAt _ (by omega)]; exact flat_at (alRw_len tb) (j := 0) hj (by omega)
  · rw [hc.cellAt _ (by omega)]; exact flat_at (alRw_len tb) (j := 1) hj (by omega)
  · rw [hc.cellAt _ (by omega)]; exact flat_at (alRw_len tb) (j := 2) hj (by omega)
  · rw [hc.cellAt _ (by omega)]; exact flat_at (alRw_len tb) (j := 3) hj (by omega)
  · rw [hc.cellAt _ (by omega)]; exact flat_at (alRw_len tb) (j := 4) hj (by omega)
theorem Bo.is (h : Bo w zn tb B p s) {j : Nat} (hj : j < tb.isrs.length) : ∃ g c, slT p.vi = .slice (some ⟨g, 0, none⟩) tb.isrs.length c ∧ w.cell? ⟨g, j * 2, none⟩ = some (I (isK tb j).cat) ∧ w.cell? ⟨g, j * 2 + 1, none⟩ = some (I (isK tb j).prio) := by
  obtain ⟨g, c, e⟩ := own_some h.i (by omega)
  have hc := h.i
  rw [e] at hc
  refine ⟨g, c, e, ?_, ?_⟩
  · rw [hc.cellAt _ (by omega)]; exact flat_at (isRw_len tb) (j := 0) hj (by omega)
  · rw [hc.cellAt _ (by omega)]; exact flat_at (isRw_len tb) (j := 1) hj (by omega)
/-! ### none, find -/
abbrev bP (B : Nat) : Value := .pointer (some ⟨B, 0, none⟩)
theorem bnone_any (h : Bo w zn tb B p s) : Calls Tryz.prog 28 #[bP B] w fun e w' => e = .returned (.bool false) ∧ w = w' := by
  obtain ⟨c0, -⟩ := h.cells
  have h0 : ¬ (tb.modes = 0) := by have := h.ok.modes; omega
  generalize tb.modes = m at *
  go_enter Tryz.func28, Tryz.ntmps28
  go_wp2
  go_ret
  exact ⟨ret_bool (beq_eq_false_iff_ne.2 h0), rfl⟩
theorem bnone_nil (w : World) : Calls Tryz.prog 28 #[.pointer none] w fun e w' => e = .returned (.bool true) ∧ w = w' := by
  go_enter Tryz.func28, Tryz.ntmps28
  go_wp2
  go_ret
  exact ⟨rfl, rfl⟩
theorem bnone_zero (w : World) (B : Nat) (c0 : w.cell? ⟨B, 0, none⟩ = some (I 0)) : Calls Tryz.prog 28 #[bP B] w fun e w' => e = .returned (.bool true) ∧ w = w' := by
  go_enter Tryz.func28, Tryz.ntmps28
  go_wp2
  go_ret
  exact ⟨rfl, rfl⟩
theorem res_find {fn : Func} (hf : fn.results = #[.cell 4 85, .tmp 5, .tmp 6]) (tmps : Array Value) (b : Nat) (x y : Value) (w : World) (v0 v1 v2 v3 v4 : Value)
    (h2 : tmps[4]? = some (.pointer (some ⟨b, 0, none⟩))) (h3 : tmps[5]? = some x) (h4 : tmps[6]? = some y) (hk : w.heap[b]? = some (.cells #[v0, v1, v2, v3, v4] 85 (0, 0))) :
    (results fn tmps).run Tryz.prog w = .ok (.tuple #[.agg #[v0, v1, v2, v3, v4], x, y]) w := by
  have a1 := fun i => cell_of_row w b i _ _ (0, 0) hk
  have z0 := a1 0; have z1 := a1 1; have z2 := a1 2; have z3 := a1 3; have z4 := a1 4
  simp at z0 z1 z2 z3 z4
  simp [results, hf, go_sem, h2, h3, h4, z0, z1, z2, z3, z4]
abbrev noC : Value := .agg #[.pointer none, U 0, U 0, U 0, .slice none 0 0]
theorem find_out (h : Bo w zn tb B p s) (t : Int) (ht : t < 0 ∨ (tb.als.length : Int) ≤ t) : Calls Tryz.prog 30 #[bP B, I t] w fun e w' => e = .returned (.tuple #[noC, I 0, I 3]) ∧ Below w.heap.size w w' := by
  have hb := below_alloc w (.cells #[.pointer none, .int .u32 0, .int .u32 0, .int .u32 0, .slice none 0 0] 85)
  have h1 := h.below hb
  obtain ⟨c0, c1, c2, c3, -⟩ := h1.cells
  obtain ⟨a, cc, hv⟩ := own_sl h.a
  rw [hv] at c2
  have hN := bnone_any h1
  have hV := heap_alloc_new w (.cells #[.pointer none, .int .u32 0, .int .u32 0, .int .u32 0, .slice none 0 0] 85)
  generalize tb.als.length = n at *
  clear h h1
  by_cases h0 : t < 0
  · clear ht
    go_enter Tryz.func30, Tryz.ntmps30
    go_wp2_with (first | (go_at_call 28; refine hN.mono ?_; rintro e w2 ⟨rfl, rfl⟩))
    refine bodyPost_ret (res_find Tryz.results30 _ w.heap.size _ _ _ _ _ _ _ _ rfl rfl rfl hV) rfl ?_
    exact ⟨rfl, hb⟩
  · have h1 : (n : Int) ≤ t := by omega
    clear ht
    go_enter Tryz.func30, Tryz.ntmps30
    go_wp2_with (first | (go_at_call 28; refine hN.mono ?_; rintro e w2 ⟨rfl, rfl⟩))
    refine bodyPost_ret (res_find Tryz.results30 _ w.heap.size _ _ _ _ _ _ _ _ rfl rfl rfl hV) rfl ?_
    exact ⟨rfl, hb⟩
/-- a counter as a value -/
abbrev ctV (tb : Tb) (p : Pl) (i : Nat) : Value := .agg #[cP (p.cb i), U (ctK tb i).max, U (ctK tb i).base, U (ctK tb i).min, slT (p.ca i)]
theorem two_at2 (w : World) (o : Obj) (a b c d e : Value) (t : TypeId) : ((w.alloc o).alloc (.cells #[a, b, c, d, e] t)).heap[w.heap.size + 1]? = some (.cells #[a, b, c, d, e] t) := by
  have := heap_alloc_new (w.alloc o) (.cells #[a, b, c, d, e] t)
  rwa [World.size_alloc] at this
theorem two_at1 (w : World) (o o2 : Obj) : ((w.alloc o).alloc o2).heap[w.heap.size]? = some o := by
  rw [heap_alloc_old _ _ (by simp)]
  exact heap_alloc_new w o
set_option maxRecDepth 100000 in
theorem find_ok (h : Bo w zn tb B p s) {j : Nat} (hj : j < tb.als.length) : Calls Tryz.prog 30 #[bP B, I j] w fun e w' => e = .returned (.tuple #[ctV tb p (ctrN tb j), I (plN tb j), I 0]) ∧ Below w.heap.size w w' := by
  have hi := (h.ok.a j hj).2.1
  have h1 := h.below (below_alloc w (.cells #[.pointer none, .int .u32 0, .int .u32 0, .int .u32 0, .slice none 0 0] 85))
  have hN := bnone_any h1
  obtain ⟨c0, c1, c2, c3, -⟩ := h1.cells
  obtain ⟨g, c, ev, d0, d1, d2, d3, d4⟩ := h1.al hj
  rw [ev] at c2
  have n0 : ¬ ((j : Int) < 0) := by omega
  have n1 : ¬ ((tb.als.length : Int) ≤ j) := by omega
  have n2 : (j : Int) < tb.als.length := by omega
  have n5 : (ctrN tb j : Int) < tb.ctrs.length := by omega
  have hbb : ∀ o o', Below w.heap.size w ((w.alloc o).alloc o') := fun o o' => (below_alloc w o).trans ((below_alloc _ _).mono (by simp))
  obtain ⟨g5, c5, e5, -⟩ := h.ct hi
  have HS : ∀ o, (fun w' : World => w'.cell? ⟨B, 1, none⟩ = some (.slice (some ⟨g5, 0, none⟩) tb.ctrs.length c5) ∧ w'.cell? ⟨w.heap.size + 1, 0, none⟩ = some (I (ctrN tb j)) ∧ w'.cell? ⟨w.heap.size + 1, 1, none⟩ = some (I (plN tb j)) ∧ w'.cell? ⟨g5, ctrN tb j * 5, none⟩ = some (cP (p.cb (ctrN tb j))) ∧ w'.cell? ⟨g5, ctrN tb j * 5 + 1, none⟩ = some (U (ctK tb (ctrN tb j)).max) ∧ w'.cell? ⟨g5, ctrN tb j * 5 + 2, none⟩ = some (U (ctK tb (ctrN tb j)).base) ∧ w'.cell? ⟨g5, ctrN tb j * 5 + 3, none⟩ = some (U (ctK tb (ctrN tb j)).min) ∧ w'.cell? ⟨g5, ctrN tb j * 5 + 4, none⟩ = some (slT (p.ca (ctrN tb j)))) ((w.alloc o).alloc (.cells #[I (ctrN tb j), I (plN tb j), U (alK tb j).auto, U (alK tb j).time, U (alK tb j).cycle] 136)) := fun o => by
    have h4 := h.below (hbb o (.cells #[I (ctrN tb j), I (plN tb j), U (alK tb j).auto, U (alK tb j).time, U (alK tb j).cycle] 136))
    obtain ⟨-, b1, -⟩ := h4.cells
    obtain ⟨g6, c6, e6, k0, k1, k2, k3, k4⟩ := h4.ct hi
    rw [e5] at e6
    cases e6
    rw [e5] at b1
    have hv := two_at2 w o (I (ctrN tb j)) (I (plN tb j)) (U (alK tb j).auto) (U (alK tb j).time) (U (alK tb j).cycle) 136
    exact ⟨b1, by rw [cell_of_row _ _ _ _ _ (0, 0) hv]; rfl, by rw [cell_of_row _ _ _ _ _ (0, 0) hv]; rfl, k0, k1, k2, k3, k4⟩
  generalize tb.als.length = n at *
  generalize tb.ctrs.length = nk at *
  go_enter Tryz.func30, Tryz.ntmps30
  go_upto_region 4 with (first | (go_at_call 28; refine hN.mono ?_; rintro e w2 ⟨rfl, rfl⟩))
  clear c0 c1 c2 c3 d0 d1 d2 d3 d4 hN h h1
  obtain ⟨b1, m0, m1, k0, k1, k2, k3, k4⟩ := HS (.cells #[.pointer none, .int .u32 0, .int .u32 0, .int .u32 0, .slice none 0 0] 85)
  go_region_held_law (fun w' => w'.cell? ⟨B, 1, none⟩ = some (.slice (some ⟨g5, 0, none⟩) nk c5) ∧ w'.cell? ⟨w.heap.size + 1, 0, none⟩ = some (I (ctrN tb j)) ∧ w'.cell? ⟨w.heap.size + 1, 1, none⟩ = some (I (plN tb j)) ∧ w'.cell? ⟨g5, ctrN tb j * 5, none⟩ = some (cP (p.cb (ctrN tb j))) ∧ w'.cell? ⟨g5, ctrN tb j * 5 + 1, none⟩ = some (U (ctK tb (ctrN tb j)).max) ∧ w'.cell? ⟨g5, ctrN tb j * 5 + 2, none⟩ = some (U (ctK tb (ctrN tb j)).base) ∧ w'.cell? ⟨g5, ctrN tb j * 5 + 3, none⟩ = some (U (ctK tb (ctrN tb j)).min) ∧ w'.cell? ⟨g5, ctrN tb j * 5 + 4, none⟩ = some (slT (p.ca (ctrN tb j)))) (first | exact HS _ | (go_keep; done)) (fail)
  all_goals
    go_wp2
    refine bodyPost_ret (res_find Tryz.results30 _ w.heap.size _ _ _ _ _ _ _ _ rfl rfl rfl (two_at1 w _ _)) rfl ?_
    exact ⟨rfl, (hbb _ _).drew⟩
end
end Go.Proofs.YthhckhifaolmkaaGreat

