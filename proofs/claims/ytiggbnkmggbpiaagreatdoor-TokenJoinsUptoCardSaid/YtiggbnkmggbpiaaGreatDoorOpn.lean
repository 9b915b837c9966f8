import Derived.Test.YtiggbnkmggbpiaaGreatDoorWrp
import Derived.Deep.Strs
namespace Go.Proofs.YtiggbnkmggbpiaaGreatDoor
open Go.RowKit Go.ChangeShapes Go.WideShapes Go.ChangeAt
set_option linter.unusedVariables false

def tokD {H : Type} (x : Tz) (o l c : Int) : DataW H := .agg [.lit (.int .i64 x.kind), .agg [.lit (.int .i64 o), .lit (.int .i64 l), .lit (.int .i64 c)], .lit (.string x.text), .lit (.int .u32 (x.val : Int)), .lit (.bool x.hex)]
structure TokWf (x : Tz) (o l c : Int) : Prop where
  w0 : (Lit.int .i64 x.kind).wf = true
  w1 : (Lit.int .i64 o).wf = true
  w2 : (Lit.int .i64 l).wf = true
  w3 : (Lit.int .i64 c).wf = true
  w4 : x.text.length ≤ maxLen
  w5 : (Lit.int .u32 (x.val : Int)).wf = true
theorem array7 {α : Type} {cs : Array α} (h : cs.size = 7) : ∃ c0 c1 c2 c3 c4 c5 c6, cs = #[c0, c1, c2, c3, c4, c5, c6] := by
  obtain ⟨l⟩ := cs
  match l, h with
  | [c0, c1, c2, c3, c4, c5, c6], _ => exact ⟨c0, c1, c2, c3, c4, c5, c6, rfl⟩
theorem cT : Tryz.prog.cellsOf 36 = 7 := by kernel_rfl
theorem cS : Tryz.prog.cellsOf 25 = 3 := by kernel_rfl
theorem cK : Tryz.prog.cellsOf 33 = 1 := by kernel_rfl
theorem cI : Tryz.prog.cellsOf 3 = 1 := by kernel_rfl
theorem cG : Tryz.prog.cellsOf 9 = 1 := by kernel_rfl
theorem cU : Tryz.prog.cellsOf 34 = 1 := by kernel_rfl
theorem cB : Tryz.prog.cellsOf 4 = 1 := by kernel_rfl
theorem trod_tok {H : Type} {enc : TypeId × Value → H} {w : World} {base : Nat} {spare : Nat → Bool} {held : Bool} {fuel : Nat} {c0 c1 c2 c3 c4 c5 c6 : Value} {y : DataW H × List MemPlace}
    (h : DataW.trod enc Tryz.prog w base spare held fuel 36 [c0, c1, c2, c3, c4, c5, c6] = some y) :
    ∃ x o l c, [c0, c1, c2, c3, c4, c5, c6] = (tzC x o l c).toList ∧ y = (tokD x o l c, []) ∧ TokWf x o l c := by
  obtain ⟨xs, n, _, hx, hl, hlen, hfs⟩ := DataW.trod_struct Tryz.underlying36 h
  match xs, hlen with
  | [y0, y1, y2, y3, y4], _ =>
    have h0 := hfs 0 _ rfl
    have h1 := hfs 1 _ rfl
    have h2 := hfs 2 _ rfl
    have h3 := hfs 3 _ rfl
    have h4 := hfs 4 _ rfl
    simp [cK, cS, cG, cU, cB] at h0 h1 h2 h3 h4
    obtain ⟨k, e0, b0, w0⟩ := DataW.trod_int Tryz.underlying33 h0
    obtain ⟨s0, s1, s2, m, es, _, g0, g1, g2⟩ := Go.Deep.trod_struct3 Tryz.underlying25 h1
    simp [cI] at g0 g1 g2
    obtain ⟨o, q0, r0, u0⟩ := DataW.trod_int Tryz.underlying3 g0
    obtain ⟨l, q1, r1, u1⟩ := DataW.trod_int Tryz.underlying3 g1
    obtain ⟨c, q2, r2, u2⟩ := DataW.trod_int Tryz.underlying3 g2
    obtain ⟨t, e2, b2, w2⟩ := DataW.trod_string Tryz.underlying9 h2
    obtain ⟨v, e3, b3, w3⟩ := DataW.trod_int Tryz.underlying34 h3
    obtain ⟨b, e4, b4⟩ := DataW.trod_bool Tryz.underlying4 h4
    have hb3 := bounds_u32 w3
    obtain ⟨vn, rfl⟩ := Int.eq_ofNat_of_zero_le hb3.1
    simp at e0 q0 q1 q2 e2 e3 e4
    subst e0 q0 q1 q2 e2 e3 e4
    refine ⟨⟨k, t.data.toList, vn, b⟩, o, l, c, ?_, ?_, ⟨w0, u0, u1, u2, ?_, w3⟩⟩
    · simp [tzC]
    · rw [hx, b0, es, r0, r1, r2, b2, b3, b4]; rfl
    · rw [len_all]; exact w2
theorem tok_trod {H : Type} {enc : TypeId × Value → H} {w : World} {base : Nat} {spare : Nat → Bool} {held : Bool} {x : Tz} {o l c : Int} (h : TokWf x o l c) :
    DataW.trod enc Tryz.prog w base spare held 3 36 (tzC x o l c).toList = some (tokD x o l c, []) := by
  have hs : DataW.trod enc Tryz.prog w base spare held 2 25 [.int .i64 o, .int .i64 l, .int .i64 c] = some (.agg [.lit (.int .i64 o), .lit (.int .i64 l), .lit (.int .i64 c)], []) := by
    have := Go.Deep.trod_struct3_mk (enc := enc) (w := w) (base := base) (spare := spare) (held := held) (n := 1) (cs := [.int .i64 o, .int .i64 l, .int .i64 c]) Tryz.underlying25 (by rw [cS]; rfl)
      (by simp [cI]; exact trod_int_mk 0 Tryz.underlying3 h.w1) (by simp [cI]; exact trod_int_mk 0 Tryz.underlying3 h.w2) (by simp [cI]; exact trod_int_mk 0 Tryz.underlying3 h.w3)
    exact this
  have h0 : DataW.trod enc Tryz.prog w base spare held 2 33 [.int .i64 x.kind] = some (.lit (.int .i64 x.kind), []) := trod_int_mk 1 Tryz.underlying33 h.w0
  have h3 : DataW.trod enc Tryz.prog w base spare held 2 34 [.int .u32 (x.val : Int)] = some (.lit (.int .u32 (x.val : Int)), []) := trod_int_mk 1 Tryz.underlying34 h.w5
  have h2 : DataW.trod enc Tryz.prog w base spare held 2 9 [.string ⟨x.text.toArray⟩] = some (.lit (.string x.text), []) := by
    have hz : (⟨x.text.toArray⟩ : ByteArray).size ≤ maxLen := by show x.text.toArray.size ≤ _; rw [List.size_toArray]; exact h.w4
    simp [DataW.trod, Tryz.underlying9]
    exact h.w4
  have h4 : DataW.trod enc Tryz.prog w base spare held 2 4 [.bool x.hex] = some (.lit (.bool x.hex), []) := by simp [DataW.trod, Tryz.underlying4]
  have := trod_struct_mk (enc := enc) (w := w) (base := base) (spare := spare) (held := held) (n := 2) (cs := (tzC x o l c).toList) (xs := [(.lit (.int .i64 x.kind), []), (.agg [.lit (.int .i64 o), .lit (.int .i64 l), .lit (.int .i64 c)], []), (.lit (.string x.text), []), (.lit (.int .u32 (x.val : Int)), []), (.lit (.bool x.hex), [])]) Tryz.underlying36 (by rw [cT]; rfl)
    (by simp [tzC, cK, cS, cG, cU, cB, h0, hs, h2, h3, h4])
  exact this
set_option maxRecDepth 100000 in
theorem open_tok {H : Type} {enc : TypeId × Value → H} {w : World} {base : Nat} {spare : Nat → Bool} {held : Bool} {r : Reach} {b0 : Nat} {v : Value} {d : DataW H} {p : List MemPlace}
    (hv : Value.okWide Tryz.prog w r b0 36 v) (h : DataW.Trod enc Tryz.prog w base spare held 36 v d p) :
    ∃ x o l c, v = tzV x o l c ∧ d = tokD x o l c ∧ p = [] ∧ TokWf x o l c := by
  obtain ⟨cs, rfl, hsz⟩ := okWide_struct Tryz.underlying36 hv
  rw [cT] at hsz
  obtain ⟨c0, c1, c2, c3, c4, c5, c6, rfl⟩ := array7 hsz
  obtain ⟨fuel, hf⟩ := h
  obtain ⟨x, o, l, c, e1, e2, e3⟩ := trod_tok hf
  simp only [Prod.mk.injEq] at e2
  refine ⟨x, o, l, c, ?_, e2.1, e2.2, e3⟩
  unfold tzV
  congr 1
  exact Array.toList_inj.1 e1
theorem shut_tok {H : Type} {enc : TypeId × Value → H} {w : World} {base : Nat} {spare : Nat → Bool} {held : Bool} {x : Tz} {o l c : Int} (h : TokWf x o l c) :
    DataW.Trod enc Tryz.prog w base spare held 36 (tzV x o l c) (tokD x o l c) [] := ⟨3, tok_trod h⟩
theorem sized_tok {H : Type} {ts : List TypeId} {ds : List (DataW H)} (h : (DataW.weightsEach Tryz.prog ts ds).all (· ≤ reachBytes) = true) {j : Nat} {x : Tz} {o l c : Int} (ht : ts[j]? = some 36) (hd : ds[j]? = some (tokD x o l c)) : x.text.length ≤ reachBytes := by
  have := List.all_eq_true.1 h _ (DataW.weights_mem_each ht hd x.text.length (by simp [tokD, DataW.weights, DataW.weightsEach, Tryz.underlying36, Tryz.underlying25]))
  simpa using this
end Go.Proofs.YtiggbnkmggbpiaaGreatDoor
