import Derived.Test.YtncgdbjjlhohiabRdsG
namespace Go.Proofs.Ytncgdbjjlhohiab
open Go.RowKit
set_option linter.unusedVariables false

/-- The reader's bytes lie in a block of its own: none ahead of base. -/
def Hi (base : Nat) (a : Option Addr) (n : Nat) : Prop := ∀ b off, a = some ⟨b, off, none⟩ → 0 < n → base ≤ b
theorem new_reader_lo {w w1 : World} {v : Value} {n : Nat} {l : List UInt8} (ho : w1.ownsRow w.heap.size 5 1 v n (l.map B)) (hb : Below w.heap.size w w1) (hs : n ≤ 140737488351232) :
    ∃ a cap, v = .slice a n cap ∧ IsR (w1.alloc (.cells #[.bool true, v] 72)) w.heap.size w1.heap.size a n cap l ∧ Hi w.heap.size a n ∧ Below w.heap.size w (w1.alloc (.cells #[.bool true, v] 72)) := by
  obtain ⟨a, cap, rfl, h1, h2⟩ := new_reader_end ho hb hs
  refine ⟨a, cap, rfl, h1, fun b off e hp => ?_, h2⟩
  exact (ho.lt b (by rw [e]; rfl)).1
set_option maxHeartbeats 1000000 in
theorem newReader_lo (a : Option Addr) (n c : Nat) (l : List UInt8) (w : World) (ha : Rd w a n c l) :
    Calls Try.prog 18 #[.slice a n c] w fun e w' => ∃ r a' cap', e = .returned (.pointer (some ⟨r, 0, none⟩)) ∧ IsR w' w.heap.size r a' n cap' l ∧ Hi w.heap.size a' n ∧ Below w.heap.size w w' := by
  obtain ⟨i0, hi, hz0, hz1, hz2⟩ := info_parts Try.info5
  have hs1 := ha.hsmall
  have hl1 := ha.hlen
  cases a with
  | none =>
    obtain ⟨rfl, rfl⟩ := ha.hnil rfl
    have hl0 : l = [] := List.eq_nil_of_length_eq_zero hl1
    subst hl0
    go_enter Try.func18, Try.ntmps18
    go_wp2_with (at_builtin; refine wpList_append_own_none rfl _ (.tmp 3) 30 rfl w.heap.size 5 i0 1 Try.underlying30 hi _ _ _ rfl (World.ownsRow_nil _ _ _ _) rfl ?_)
    go_ret
    obtain ⟨a, cap, e, h1, h3, h2⟩ := new_reader_lo (w := w) (w1 := w) (v := .slice none 0 0) (n := 0) (l := []) (World.ownsRow_nil _ _ _ _) (Below.refl _ _) (by omega)
    exact ⟨_, a, cap, rfl, h1, h3, h2⟩
  | some ad =>
    go_enter Try.func18, Try.ntmps18
    go_wp2_with (at_builtin; refine wpList_append_own _ rfl _ (.tmp 3) 30 rfl w.heap.size 5 i0 (.int .u8 0) 1 1 Try.underlying30 hi hz0 hz1 hz2 rfl (by decide) _ _ _ rfl (World.ownsRow_nil _ _ _ _) ad n c (l.map B) rfl ?c0 ?c1 ?c2 ?c3 ?c4 ?c5 ?_)
    case c0 => simp [hl1]
    case c1 => exact ha.news
    case c2 => exact one_cells l
    case c3 => unfold maxLen; omega
    case c4 => omega
    case c5 => exact Nat.le_refl _
    intro v2 w2 hown2 hg2 _
    have hb2 : Below w.heap.size w w2 := (Below.refl _ _).grown hg2 (Nat.le_refl _) (fun k h => by cases h)
    obtain ⟨a, cap, rfl, h1, h3, h2⟩ := new_reader_lo hown2 hb2 hs1
    clear hown2 hg2 hb2
    go_wp2
    go_ret
    exact ⟨_, a, cap, rfl, h1, h3, h2⟩
/-- A block below the reader's bytes is changed. -/
theorem isR_low {w w' : World} {base r k n cap : Nat} {a : Option Addr} {l : List UInt8} (h : IsR w base r a n cap l) (hi : Hi base a n) (hg : w.grownBy w' (some k)) (hk : k < base) : IsR w' base r a n cap l := by
  have hr := h.rlt
  have hb := h.hbase
  refine ⟨(hg.block r hr (by simp; omega)).trans h.hheap, h.hbase, ⟨h.hrd.hlen, h.hrd.hle, h.hrd.hsmall, h.hrd.hnil, fun hp => ?_⟩, h.hlt⟩
  obtain ⟨b, off, e, hb, hc⟩ := h.hrd.hcell hp
  have := hi b off e hp
  exact ⟨b, off, e, Nat.lt_of_lt_of_le hb hg.size, fun i x hx => (World.cell?_of_block (w := w) (a := ⟨b, off + i, none⟩) (hg.block b hb (by simp; omega))).trans (hc i x hx)⟩

/-- A call of the script. -/
structure Cl where
  kind : Int
  n : Int
def Cl.cells (p : Cl) : List Value := [.int .i64 p.kind, .int .i64 p.n]
structure RdC (w : World) (a : Option Addr) (len cap : Nat) (ps : List Cl) : Prop where
  hlen : ps.length = len
  hn : ∀ p ∈ ps, -9223372036854775808 ≤ p.n ∧ p.n ≤ 9223372036854775807
  hcell : 0 < len → ∃ b off, a = some ⟨b, off, none⟩ ∧ b < w.heap.size ∧ ∀ i p, ps[i]? = some p → ∀ t x, p.cells[t]? = some x → w.cell? ⟨b, off + i * 2 + t, none⟩ = some x
theorem RdC.below {w w' : World} {a : Option Addr} {len cap : Nat} {ps : List Cl} (h : RdC w a len cap ps) (hb : Below w.heap.size w w') : RdC w' a len cap ps := by
  refine ⟨h.hlen, h.hn, fun hp => ?_⟩
  obtain ⟨b, off, e, hlt, hc⟩ := h.hcell hp
  exact ⟨b, off, e, Nat.lt_of_lt_of_le hlt hb.size, fun i p hi t x hx => (hb.cell (p := ⟨b, off + i * 2 + t, none⟩) hlt).trans (hc i p hi t x hx)⟩

end Go.Proofs.Ytncgdbjjlhohiab
