import Derived.Test.YtiggbnkmggbpiaaGreatDoorLsa
namespace Go.Proofs.YtiggbnkmggbpiaaGreatDoor
open Go.RowKit
set_option linter.unusedVariables false

/-- A slice of bytes that lies somewhere. -/
structure MkR (w : World) (am : Option Addr) (m : Nat) (f : Nat → Nat) : Prop where
  at_ : ∀ i, i < m → ∃ g off, am = some ⟨g, off, none⟩ ∧ g < w.heap.size ∧ w.cell? ⟨g, off + i, none⟩ = some (.int .u8 (f i : Int))
  lt : ∀ i, i < m → f i < 256
def preB (m : Nat) (f : Nat → Nat) (i : Nat) : List UInt8 := if i < m then btw (f i) else []
theorem sil_pre (m : Nat) (f : Nat → Nat) (i : Nat) : Sil (preB m f i) := by
  unfold preB
  split
  · exact sil_btw _
  · exact sil_nil
theorem btw_len (k : Nat) : (btw k).length ≤ 8 := by
  unfold btw
  split <;> decide
theorem pre_len (m : Nat) (f : Nat → Nat) (i : Nat) : (preB m f i).length ≤ 8 := by
  unfold preB
  split
  · exact btw_len _
  · simp
theorem silT_last (t : List UInt8) (pre : Nat → List UInt8) (i : Nat) (x : Tk × Nat) : silT t pre i [x] = pre i ++ t.drop x.2 := rfl
theorem silT_more (t : List UInt8) (pre : Nat → List UInt8) (i : Nat) (x y : Tk × Nat) (r : List (Tk × Nat)) : silT t pre i (x :: y :: r) = pre i ++ ((t.drop x.2).take (y.2 - x.2) ++ 10 :: silT t pre (i + 1) (y :: r)) := rfl
/-- What holds between two rounds: the text so far, and where the next token begins. -/
structure SilI (t : List UInt8) (pre : Nat → List UInt8) (ts : List (Tk × Nat)) (j : Nat) (out : List UInt8) (en : Nat) : Prop where
  all : silT t pre 0 ts = out ++ silT t pre j (ts.drop j)
  beg : ∀ k o, ts[j]? = some (k, o) → en ≤ o
  len : out.length ≤ 9 * j + en
theorem drop_at {α : Type} {l : List α} {j : Nat} {x : α} (h : l[j]? = some x) : l.drop j = x :: l.drop (j + 1) := by
  obtain ⟨q1, q2⟩ := List.getElem?_eq_some_iff.1 h
  rw [List.drop_eq_getElem_cons q1, q2]
theorem SilI.more {t : List UInt8} {m : Nat} {f : Nat → Nat} {ts : List (Tk × Nat)} {j : Nat} {out : List UInt8} {en : Nat} (h : SilI t (preB m f) ts j out en) {k k' : Tk} {o o' : Nat} (h1 : ts[j]? = some (k, o)) (h2 : ts[j + 1]? = some (k', o')) (hlt : o < o') (hle : o' ≤ t.length) :
    SilI t (preB m f) ts (j + 1) (out ++ preB m f j ++ (t.drop o).take (o' - o) ++ [10]) o' := by
  refine ⟨?_, fun k2 o2 e => ?_, ?_⟩
  · rw [h.all, drop_at h1, drop_at h2, silT_more]
    simp
  · rw [h2] at e; cases e; omega
  · have h3 := h.len
    have h4 := h.beg k o h1
    have h5 := pre_len m f j
    simp
    omega
theorem SilI.last {t : List UInt8} {m : Nat} {f : Nat → Nat} {ts : List (Tk × Nat)} {j : Nat} {out : List UInt8} {en : Nat} (h : SilI t (preB m f) ts j out en) {k : Tk} (h1 : ts[j]? = some (k, t.length)) (h2 : ts.length = j + 1) :
    SilI t (preB m f) ts (j + 1) (out ++ preB m f j) t.length := by
  refine ⟨?_, fun k2 o2 e => ?_, ?_⟩
  · rw [h.all, drop_at h1, List.drop_eq_nil_of_le (by omega), silT_last]
    simp [silT]
  · rw [List.getElem?_eq_none (by omega)] at e; cases e
  · have h3 := h.len
    have h4 := h.beg k t.length h1
    have h5 := pre_len m f j
    simp
    omega
theorem slice_run (s : ByteArray) (o e : Nat) (h : o ≤ e) (he : e ≤ s.size) (w : World) : (Instr.slice 9 (.string s) (some (.int .i64 (o : Int))) (some (.int .i64 (e : Int))) none).run Tryz.prog w = .ok (.string ⟨((s.data.toList.drop o).take (e - o)).toArray⟩) w := by
  have h1 : s.extract o e = ⟨((s.data.toList.drop o).take (e - o)).toArray⟩ := (same_bytes _ _ (by rw [Lib.extract_data])).symm
  have h2 : (0 : Int) ≤ o ∧ (o : Int) ≤ e ∧ (e : Int) ≤ s.size := by omega
  have h3 : (e : Int).toNat = e := by omega
  simp [go_sem, h2, h3, h1]
end Go.Proofs.YtiggbnkmggbpiaaGreatDoor
