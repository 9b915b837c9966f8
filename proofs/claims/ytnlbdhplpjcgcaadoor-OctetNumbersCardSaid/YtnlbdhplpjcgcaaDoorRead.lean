import Derived.Test.YtnlbdhplpjcgcaaDoorText
import Derived.Laws.AppendOwnNone
namespace Go.Proofs.YtnlbdhplpjcgcaaDoor
open Go.RowKit
set_option linter.unusedVariables false

/-- The reader at block r: its rest is the slice (a, n, cap), which reads as l and lies in a block ahead of r. -/
structure IsR (w : World) (base r : Nat) (a : Option Addr) (n cap : Nat) (l : List UInt8) : Prop where
  hheap : w.heap[r]? = some (.cells #[.bool true, .slice a n cap] 51 (0, 0))
  hbase : base ≤ r
  hrd : Rd w a n cap l
  hlt : ∀ b off, a = some ⟨b, off, none⟩ → 0 < n → b < r

theorem IsR.c0 {w : World} {base r : Nat} {a : Option Addr} {n cap : Nat} {l : List UInt8} (h : IsR w base r a n cap l) : w.cell? ⟨r, 0, none⟩ = some (.bool true) := by
  rw [cell_of_row w r 0 _ 51 (0, 0) h.hheap]; rfl
theorem IsR.c1 {w : World} {base r : Nat} {a : Option Addr} {n cap : Nat} {l : List UInt8} (h : IsR w base r a n cap l) : w.cell? ⟨r, 1, none⟩ = some (.slice a n cap) := by
  rw [cell_of_row w r 1 _ 51 (0, 0) h.hheap]; rfl
theorem IsR.f1 {w : World} {base r : Nat} {a : Option Addr} {n cap : Nat} {l : List UInt8} (h : IsR w base r a n cap l) : w.frozen? ⟨r, 1, none⟩ = false :=
  frozen_of_row w r 1 _ 51 h.hheap
theorem IsR.rlt {w : World} {base r : Nat} {a : Option Addr} {n cap : Nat} {l : List UInt8} (h : IsR w base r a n cap l) : r < w.heap.size := by
  rcases Nat.lt_or_ge r w.heap.size with h' | h'
  · exact h'
  · have := h.hheap; rw [Array.getElem?_eq_none h'] at this; cases this
theorem IsR.below {w w' : World} {base r : Nat} {a : Option Addr} {n cap : Nat} {l : List UInt8} (h : IsR w base r a n cap l) (hb : Below w.heap.size w w') : IsR w' base r a n cap l :=
  ⟨(hb.block r h.rlt).trans h.hheap, h.hbase, h.hrd.below hb, h.hlt⟩

/-- What is appended to nil lies in a row of its own. -/
theorem new_reader_end {w w1 : World} {v : Value} {n : Nat} {l : List UInt8} (ho : w1.ownsRow w.heap.size 5 1 v n (l.map B)) (hb : Below w.heap.size w w1) (hs : n ≤ 140737488351232) :
    ∃ a cap, v = .slice a n cap ∧ IsR (w1.alloc (.cells #[.bool true, v] 51)) w.heap.size w1.heap.size a n cap l ∧ Below w.heap.size w (w1.alloc (.cells #[.bool true, v] 51)) := by
  obtain ⟨a, cap, rfl⟩ := owns_shape ho
  have hrd := rd_of_owns ho hs
  have hba : Below w1.heap.size w1 (w1.alloc (.cells #[.bool true, .slice a n cap] 51)) := (Below.refl _ _).alloc (Nat.le_refl _) _
  refine ⟨a, cap, rfl, ⟨heap_alloc_new w1 _, hb.size, hrd.below hba, fun b off e hp => ?_⟩, hb.alloc hb.size _⟩
  obtain ⟨b', off', e', hlt', _⟩ := hrd.hcell hp
  rw [e] at e'
  simp only [Option.some.injEq, Addr.mk.injEq] at e'
  omega

theorem Rd.news {w : World} {ad : Addr} {n c : Nat} {l : List UInt8} (ha : Rd w (some ad) n c l) : ∀ j u, (l.map B)[j]? = some u → w.cell? (ad.add j) = some u := by
  intro j u hj
  rw [List.getElem?_map] at hj
  cases hx : l[j]? with
  | none => rw [hx] at hj; cases hj
  | some x =>
    rw [hx] at hj
    have hj' : B x = u := by simpa using hj
    subst hj'
    have hlt := (List.getElem?_eq_some_iff.mp hx).1
    have hl := ha.hlen
    obtain ⟨b, off, e, _, hc⟩ := ha.hcell (by omega)
    simp only [Option.some.injEq] at e
    subst e
    have := hc j x hx
    by_cases h0 : j = 0
    · subst h0; simpa [Addr.add, B] using this
    · simpa [Addr.add, B, h0] using this
theorem one_cells (l : List UInt8) : ∀ u ∈ l.map B, u.oneCell' = true := by
  intro u hu; simp only [List.mem_map] at hu; obtain ⟨x, _, rfl⟩ := hu; rfl

set_option maxHeartbeats 1000000 in
theorem newReader_any (a : Option Addr) (n c : Nat) (l : List UInt8) (w : World) (ha : Rd w a n c l) :
    Calls Tryd.prog 14 #[.slice a n c] w fun e w' => ∃ r a' cap', e = .returned (.pointer (some ⟨r, 0, none⟩)) ∧ IsR w' w.heap.size r a' n cap' l ∧ Below w.heap.size w w' := by
  obtain ⟨i0, hi, hz0, hz1, hz2⟩ := info_parts Tryd.info5
  have hs1 := ha.hsmall
  have hl1 := ha.hlen
  cases a with
  | none =>
    obtain ⟨rfl, rfl⟩ := ha.hnil rfl
    have hl0 : l = [] := List.eq_nil_of_length_eq_zero hl1
    subst hl0
    go_enter Tryd.func14, Tryd.ntmps14
    go_wp2_with (at_builtin; refine wpList_append_own_none rfl _ (.tmp 3) 35 rfl w.heap.size 5 i0 1 Tryd.underlying35 hi _ _ _ rfl (World.ownsRow_nil _ _ _ _) rfl ?_)
    go_ret
    obtain ⟨a, cap, e, h1, h2⟩ := new_reader_end (w := w) (w1 := w) (v := .slice none 0 0) (n := 0) (l := []) (World.ownsRow_nil _ _ _ _) (Below.refl _ _) (by omega)
    exact ⟨_, a, cap, rfl, h1, h2⟩
  | some ad =>
    go_enter Tryd.func14, Tryd.ntmps14
    go_wp2_with (at_builtin; refine wpList_append_own _ rfl _ (.tmp 3) 35 rfl w.heap.size 5 i0 (.int .u8 0) 1 1 Tryd.underlying35 hi hz0 hz1 hz2 rfl (by decide) _ _ _ rfl (World.ownsRow_nil _ _ _ _) ad n c (l.map B) rfl ?c0 ?c1 ?c2 ?c3 ?c4 ?c5 ?_)
    case c0 => simp [hl1]
    case c1 => exact ha.news
    case c2 => exact one_cells l
    case c3 => unfold maxLen; omega
    case c4 => omega
    case c5 => exact Nat.le_refl _
    intro v2 w2 hown2 hg2 _
    have hb2 : Below w.heap.size w w2 := (Below.refl _ _).grown hg2 (Nat.le_refl _) (fun k h => by cases h)
    obtain ⟨a, cap, rfl, h1, h2⟩ := new_reader_end hown2 hb2 hs1
    clear hown2 hg2 hb2
    go_wp2
    go_ret
    exact ⟨_, a, cap, rfl, h1, h2⟩

/-! ### The reader's calls -/
set_option maxHeartbeats 400000 in
theorem rnumber_nil (n : Int) (w : World) : Calls Tryd.prog 15 #[.pointer none, .int .i64 n] w fun e w' => e = .returned (.tuple #[.int .u64 0, .int .i64 1]) ∧ w = w' := by
  go_enter Tryd.func15, Tryd.ntmps15
  go_wp2_with (go_at_call 23; refine (none_nil _).mono ?_; rintro e w' ⟨rfl, rfl⟩)
  go_ret2
  exact ⟨rfl, rfl⟩
set_option maxHeartbeats 400000 in
theorem rnumber_none (b o : Nat) (n : Int) (w : World) (hc : w.cell? ⟨b, o, none⟩ = some (.bool false)) : Calls Tryd.prog 15 #[.pointer (some ⟨b, o, none⟩), .int .i64 n] w fun e w' => e = .returned (.tuple #[.int .u64 0, .int .i64 1]) ∧ w = w' := by
  go_enter Tryd.func15, Tryd.ntmps15
  go_wp2_with (go_at_call 23; refine (none_any _ _ false _ hc).mono ?_; rintro e w' ⟨rfl, rfl⟩)
  go_ret2
  exact ⟨rfl, rfl⟩
set_option maxHeartbeats 400000 in
theorem rleft_nil (w : World) : Calls Tryd.prog 17 #[.pointer none] w fun e w' => e = .returned (.int .i64 0) ∧ w = w' := by
  go_enter Tryd.func17, Tryd.ntmps17
  go_wp2_with (go_at_call 23; refine (none_nil _).mono ?_; rintro e w' ⟨rfl, rfl⟩)
  go_ret
  exact ⟨rfl, rfl⟩
set_option maxHeartbeats 400000 in
theorem rleft_none (b o : Nat) (w : World) (hc : w.cell? ⟨b, o, none⟩ = some (.bool false)) : Calls Tryd.prog 17 #[.pointer (some ⟨b, o, none⟩)] w fun e w' => e = .returned (.int .i64 0) ∧ w = w' := by
  go_enter Tryd.func17, Tryd.ntmps17
  go_wp2_with (go_at_call 23; refine (none_any _ _ false _ hc).mono ?_; rintro e w' ⟨rfl, rfl⟩)
  go_ret
  exact ⟨rfl, rfl⟩
end Go.Proofs.YtnlbdhplpjcgcaaDoor
