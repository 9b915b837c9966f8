import Derived.Test.YtlbgppijeoonjaaGreatDoorTreX
namespace Go.Proofs.YtlbgppijeoonjaaGreatDoor
open Go.RowKit
set_option linter.unusedVariables false

/-! ### SameAttr, SameAttrs -/
/-- The same attributes, but for their spots where sp is false. -/
inductive SmA (sp : Bool) : List At → List At → Prop
  | nil : SmA sp [] []
  | cons {name : List UInt8} {o l c o' l' c' : Int} {v : Vl} {br : Bool} {ps ps' us us' : List At} {nd : Bool} {nt : List UInt8} : (sp = true → o = o' ∧ l = l' ∧ c = c') → SmA sp ps ps' → SmA sp us us' → SmA sp (.mk name o l c v br ps nd nt :: us) (.mk name o' l' c' v br ps' nd nt :: us')
theorem rowsA_at (qs : List (At × Value)) (j : Nat) (q : At × Value) (hq : qs[j]? = some q) (i : Nat) (hi : i < 12) : (rowsA qs)[j * 12 + i]? = (atC q.1 q.2)[i]? := by
  induction qs generalizing j with
  | nil => simp at hq
  | cons p ps ih =>
    have hs : (atC p.1 p.2).toList.length = 12 := by obtain ⟨a, b⟩ := p; cases a; rfl
    cases j with
    | zero =>
      obtain rfl : p = q := by simpa using hq
      show ((atC p.1 p.2).toList ++ rowsA ps)[0 * 12 + i]? = _
      rw [List.getElem?_append_left (by rw [hs]; omega), Nat.zero_mul, Nat.zero_add, Array.getElem?_toList]
    | succ j =>
      show ((atC p.1 p.2).toList ++ rowsA ps)[(j + 1) * 12 + i]? = _
      rw [List.getElem?_append_right (by rw [hs]; omega), hs, show (j + 1) * 12 + i - 12 = j * 12 + i from by omega]
      exact ih j (by simpa using hq)
set_option maxHeartbeats 4000000 in
set_option maxRecDepth 100000 in
theorem sameAttr_of (w W : World) (hb : Below w.heap.size w W) (sp : Bool) (name : List UInt8) (o l c o' l' c' : Int) (vk : Int) (vt : List UInt8) (vn : Nat) (vh br nd : Bool) (nt : List UInt8) (pa : Option Addr) (pn pc : Nat) (pa' : Option Addr) (pn' pc' : Nat) (hs : sp = true → o = o' ∧ l = l' ∧ c = c')
    (hcall : ∀ W, Below w.heap.size w W → Calls Tryz.prog 28 #[.slice pa pn pc, .slice pa' pn' pc', .bool sp] W fun e w' => e = .returned (.bool true) ∧ Below w.heap.size w w') :
    Calls Tryz.prog 11 #[.agg #[.string ⟨name.toArray⟩, .int .i64 o, .int .i64 l, .int .i64 c, .int .i64 vk, .string ⟨vt.toArray⟩, .int .u32 (vn : Int), .bool vh, .bool br, .slice pa pn pc, .bool nd, .string ⟨nt.toArray⟩], .agg #[.string ⟨name.toArray⟩, .int .i64 o', .int .i64 l', .int .i64 c', .int .i64 vk, .string ⟨vt.toArray⟩, .int .u32 (vn : Int), .bool vh, .bool br, .slice pa' pn' pc', .bool nd, .string ⟨nt.toArray⟩], .bool sp] W fun e w' => e = .returned (.bool true) ∧ Below w.heap.size w w' := by
  have hsz := hb.size
  cases sp with
  | true =>
    obtain ⟨rfl, rfl, rfl⟩ := hs rfl
    go_enter Tryz.func11, Tryz.ntmps11
    go_wp2_with (go_at_call 28; refine (hcall _ ((hb.alloc hb.size _).alloc (by simp; omega) _)).mono ?_; rintro e w' ⟨rfl, hb'⟩)
    go_ret
    exact ⟨rfl, hb'⟩
  | false =>
    go_enter Tryz.func11, Tryz.ntmps11
    go_wp2_with (go_at_call 28; refine (hcall _ ((hb.alloc hb.size _).alloc (by simp; omega) _)).mono ?_; rintro e w' ⟨rfl, hb'⟩)
    go_ret
    exact ⟨rfl, hb'⟩
end Go.Proofs.YtlbgppijeoonjaaGreatDoor
