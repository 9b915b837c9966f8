import Derived.Test.YtiggbnkmggbpiaaGreatDoorLaX
import Derived.SizedLaws
import Derived.HandedShaped
import Derived.Handed
import Derived.Deep.Strs
import Derived.Deep.Slices
import Derived.JoinedCond
namespace Go.Proofs.YtiggbnkmggbpiaaGreatDoor
open Go.RowKit Go.ChangeShapes Go.WideShapes Go.ChangeAt
set_option linter.unusedVariables false

theorem own : ownKnob Tryz.prog.godebug = none := by kernel_rfl
/-- A world in which errors.errorType is laid. -/
noncomputable def witH (os : Os) : World :=
  let w0 := World.holding Tryz.prog os ⟨#[], #[], []⟩
  { w0 with heap := w0.heap.modify 3 fun
      | .cells _ t frozen => .cells #[.iface 117 (.agg #[.pointer (some ⟨16, 52, none⟩)])] t frozen
      | o => o }
abbrev laidP : List (String × DataW Unit) := laidT.filter fun x => x.2.handleName?.isNone
/-- .. and all the others. -/
noncomputable def witW (os : Os) : World := (witH os).layVars Tryz.prog laidP
theorem witW_os (os : Os) : (witW os).os = os := World.layVars_os _ _ _
set_option maxRecDepth 100000 in
theorem wit_plain (os : Os) : laidMet Tryz.prog laidP (witW os) := by
  have e1 : (laidP.filter fun x => (laidP.map (·.1)).contains x.1) = laidP := List.filter_eq_self.2 fun x hx => List.contains_iff_mem.2 (List.mem_map.2 ⟨x, hx, rfl⟩)
  have e2 : (laidP.filter fun x => !(laidP.map (·.1)).contains x.1) = [] := List.filter_eq_nil_iff.2 fun x hx => by rw [List.contains_iff_mem.2 (List.mem_map.2 ⟨x, hx, rfl⟩)]; simp
  exact laidMet_layVars (w0 := witH os) (laidP.map (·.1)) [] (by rw [e1]; rfl) (by rw [e1]; kernel_rfl) (by rw [e1]; kernel_rfl) (by rw [e2]; exact LaidIn.none)
theorem wit_met (os : Os) (args : Array Value) : laidMetH Tryz.prog laidT ((witW os).forCall (fun _ _ => 0) ⟨#[], args, []⟩).memory :=
  (laidMetH_of_parts (wit_plain os) (by kernel_rfl)).of_heap (by simp [World.memory, World.forCall, Input.heap])
theorem wit_shaped (os : Os) (args : Array Value) : ((witW os).forCall (fun _ _ => 0) ⟨#[], args, []⟩).Shaped Tryz.checked.prog := World.shaped_of_ZipB (by kernel_rfl) (by kernel_rfl)
end Go.Proofs.YtiggbnkmggbpiaaGreatDoor
namespace Go.Proofs.YtiggbnkmggbpiaaGreatDoor
open Go.RowKit Go.ChangeShapes Go.WideShapes Go.ChangeAt
set_option linter.unusedVariables false

/-- A row's claim out of a contract that leans on what lies in the variables and on the world's shape. -/
theorem lift_laid {H : Type} {enc : TypeId × Value → H} {C : Checked} {os : Os} {f : FuncId} {fn : Func} {s : ChangeSpec} {X : World → Prop} (hX : ∀ w w' : World, w.heap = w'.heap → X w → X w')
    (hown : ownKnob C.prog.godebug = none) (started : os.Started) (hi : C.prog.inits.idxOf? f = none) (hf : C.prog.funcs[f]? = some fn)
    (wit : ∃ (w : World) (tape : Tape) (i : Input), w.os = os ∧ (w.forCall tape i).Shaped C.prog ∧ i.vars = [] ∧ Input.okWide C.prog (w.forCall tape i) .any w.heap.size f i ∧
      ((s.pre enc C.prog fn [] false (w.forCall tape i).memory i.args ∧ X (w.forCall tape i).memory) ∧ sizedMet enc C.prog fn (OpenSpec.ofChange s) false (w.forCall tape i).memory i.args) ∧ ({} : Assume).holds C.prog (lone (Frame.enter C.prog f i.args .normal) [] (w.forCall tape i)))
    (con : ∀ (W : World) (base : Nat) (args : Array Value) (ds gs : List (DataW H)) (before : List MemPlace),
      (∀ (j : Nat) t v, fn.params[j]? = some t → args[j]? = some v → Value.okWide C.prog W .any base t v) →
      DataW.Whole enc C.prog fn.params.toList s.vars false W args.toList ds gs before →
      (DataW.weightsEach C.prog (fn.params.toList ++ s.plain.varTypes C.prog) (ds ++ gs)).all (· ≤ reachBytes) = true → X W → W.ShapedOpen C.prog →
      Calls C.prog f args W fun e W' => ∃ v, e = .returned v ∧ s.post enc C.prog fn false true false false W args v W') :
    ReturnsInHanded {} C os f .any (fun w args => (s.pre enc C.prog fn [] false w args ∧ X w) ∧ sizedMet enc C.prog fn (OpenSpec.ofChange s) false w args) (s.post enc C.prog fn false true false false) := by
  refine returnsInHanded_of_calls hown started hi wit ?_
  intro w tape i _ shape _ ok pre _
  obtain ⟨⟨⟨ds, gs, before, whole, _⟩, laid⟩, size⟩ := pre
  obtain ⟨_, _, _, fn1, h1, _, _, _, _, vals⟩ := ok
  cases Option.some.inj (h1.symm.trans hf)
  refine (con (w.forCall tape i) w.heap.size i.args ds gs before vals (DataW.Whole.of_heap (w' := w.forCall tape i) (by rfl) whole) (size.weights whole) (hX _ _ (by rfl) laid) shape).mono ?_
  rintro e W1 ⟨v, rfl, post⟩
  exact ChangeSpec.post_blind post
end Go.Proofs.YtiggbnkmggbpiaaGreatDoor
namespace Go.Proofs.YtiggbnkmggbpiaaGreatDoor
open Go.RowKit Go.ChangeShapes Go.WideShapes Go.ChangeAt
set_option linter.unusedVariables false

def tokD {H : Type} (x : Tz) (o l c : Int) : DataW H := .agg [.lit (.int .i64 x.kind), .agg [.lit (.int .i64 o), .lit (.int .i64 l), .lit (.int .i64 c)], .lit (.string x.text), .lit (.int .u32 (x.val : Int)), .lit (.bool x.hex)]
structure TokWf (x : Tz) (o l c : Int) : Prop where
  w0 : (Lit.int .i64 x.kind).wf = true
  w1 : (Lit.int .i64 o).wf = true
  w2 : (Lit.int .i64 l).wf = true
  w3 : (Lit.int .i64 c).wf = true
  w4 : x.text.length ≤ maxLen
  w5 : (Lit.int .u32 (x.val : Int)).wf = true
theorem array7 {α : Type} {cs : Array α} (h : cs.size = 7) : ∃ c0 c1 c2 c3 c4 c5 c6, cs = #[c0, c1, c2, c3, c4, c5, c6] := by
  obtain ⟨l⟩ := cs
  match l, h with
  | [c0, c1, c2, c3, c4, c5, c6], _ => exact ⟨c0, c1, c2, c3, c4, c5, c6, rfl⟩
theorem cT : Tryz.prog.cellsOf 36 = 7 := by kernel_rfl
theorem cS : Tryz.prog.cellsOf 25 = 3 := by kernel_rfl
theorem cK : Tryz.prog.cellsOf 33 = 1 := by kernel_rfl
theorem cI : Tryz.prog.cellsOf 3 = 1 := by kernel_rfl
theorem cG : Tryz.prog.cellsOf 9 = 1 := by kernel_rfl
theorem cU : Tryz.prog.cellsOf 34 = 1 := by kernel_rfl
theorem cB : Tryz.prog.cellsOf 4 = 1 := by kernel_rfl
theorem trod_tok {H : Type} {enc : TypeId × Value → H} {w : World} {base : Nat} {spare : Nat → Bool} {held : Bool} {fuel : Nat} {c0 c1 c2 c3 c4 c5 c6 : Value} {y : DataW H × List MemPlace}
    (h : DataW.trod enc Tryz.prog w base spare held fuel 36 [c0, c1, c2, c3, c4, c5, c6] = some y) :
    ∃ x o l c, [c0, c1, c2, c3, c4, c5, c6] = (tzC x o l c).toList ∧ y = (tokD x o l c, []) ∧ TokWf x o l c := by
  obtain ⟨xs, n, _, hx, hl, hlen, hfs⟩ := DataW.trod_struct Tryz.underlying36 h
  match xs, hlen with
  | [y0, y1, y2, y3, y4], _ =>
    have h0 := hfs 0 _ rfl
    have h1 := hfs 1 _ rfl
    have h2 := hfs 2 _ rfl
    have h3 := hfs 3 _ rfl
    have h4 := hfs 4 _ rfl
    simp [cK, cS, cG, cU, cB] at h0 h1 h2 h3 h4
    obtain ⟨k, e0, b0, w0⟩ := DataW.trod_int Tryz.underlying33 h0
    obtain ⟨s0, s1, s2, m, es, _, g0, g1, g2⟩ := Go.Deep.trod_struct3 Tryz.underlying25 h1
    simp [cI] at g0 g1 g2
    obtain ⟨o, q0, r0, u0⟩ := DataW.trod_int Tryz.underlying3 g0
    obtain ⟨l, q1, r1, u1⟩ := DataW.trod_int Tryz.underlying3 g1
    obtain ⟨c, q2, r2, u2⟩ := DataW.trod_int Tryz.underlying3 g2
    obtain ⟨t, e2, b2, w2⟩ := DataW.trod_string Tryz.underlying9 h2
    obtain ⟨v, e3, b3, w3⟩ := DataW.trod_int Tryz.underlying34 h3
    obtain ⟨b, e4, b4⟩ := DataW.trod_bool Tryz.underlying4 h4
    have hb3 := bounds_u32 w3
    obtain ⟨vn, rfl⟩ := Int.eq_ofNat_of_zero_le hb3.1
    simp at e0 q0 q1 q2 e2 e3 e4
    subst e0 q0 q1 q2 e2 e3 e4
    refine ⟨⟨k, t.data.toList, vn, b⟩, o, l, c, ?_, ?_, ⟨w0, u0, u1, u2, ?_, w3⟩⟩
    · simp [tzC]
    · rw [hx, b0, es, r0, r1, r2, b2, b3, b4]; rfl
    · rw [len_all]; exact w2
theorem tok_trod {H : Type} {enc : TypeId × Value → H} {w : World} {base : Nat} {spare : Nat → Bool} {held : Bool} {x : Tz} {o l c : Int} (h : TokWf x o l c) :
    DataW.trod enc Tryz.prog w base spare held 3 36 (tzC x o l c).toList = some (tokD x o l c, []) := by
  have hs : DataW.trod enc Tryz.prog w base spare held 2 25 [.int .i64 o, .int .i64 l, .int .i64 c] = some (.agg [.lit (.int .i64 o), .lit (.int .i64 l), .lit (.int .i64 c)], []) := by
    have := Go.Deep.trod_struct3_mk (enc := enc) (w := w) (base := base) (spare := spare) (held := held) (n := 1) (cs := [.int .i64 o, .int .i64 l, .int .i64 c]) Tryz.underlying25 (by rw [cS]; rfl)
      (by simp [cI]; exact trod_int_mk 0 Tryz.underlying3 h.w1) (by simp [cI]; exact trod_int_mk 0 Tryz.underlying3 h.w2) (by simp [cI]; exact trod_int_mk 0 Tryz.underlying3 h.w3)
    exact this
  have h0 : DataW.trod enc Tryz.prog w base spare held 2 33 [.int .i64 x.kind] = some (.lit (.int .i64 x.kind), []) := trod_int_mk 1 Tryz.underlying33 h.w0
  have h3 : DataW.trod enc Tryz.prog w base spare held 2 34 [.int .u32 (x.val : Int)] = some (.lit (.int .u32 (x.val : Int)), []) := trod_int_mk 1 Tryz.underlying34 h.w5
  have h2 : DataW.trod enc Tryz.prog w base spare held 2 9 [.string ⟨x.text.toArray⟩] = some (.lit (.string x.text), []) := by
    have hz : (⟨x.text.toArray⟩ : ByteArray).size ≤ maxLen := by show x.text.toArray.size ≤ _; rw [List.size_toArray]; exact h.w4
    simp [DataW.trod, Tryz.underlying9]
    exact h.w4
  have h4 : DataW.trod enc Tryz.prog w base spare held 2 4 [.bool x.hex] = some (.lit (.bool x.hex), []) := by simp [DataW.trod, Tryz.underlying4]
  have := trod_struct_mk (enc := enc) (w := w) (base := base) (spare := spare) (held := held) (n := 2) (cs := (tzC x o l c).toList) (xs := [(.lit (.int .i64 x.kind), []), (.agg [.lit (.int .i64 o), .lit (.int .i64 l), .lit (.int .i64 c)], []), (.lit (.string x.text), []), (.lit (.int .u32 (x.val : Int)), []), (.lit (.bool x.hex), [])]) Tryz.underlying36 (by rw [cT]; rfl)
    (by simp [tzC, cK, cS, cG, cU, cB, h0, hs, h2, h3, h4])
  exact this
set_option maxRecDepth 100000 in
theorem open_tok {H : Type} {enc : TypeId × Value → H} {w : World} {base : Nat} {spare : Nat → Bool} {held : Bool} {r : Reach} {b0 : Nat} {v : Value} {d : DataW H} {p : List MemPlace}
    (hv : Value.okWide Tryz.prog w r b0 36 v) (h : DataW.Trod enc Tryz.prog w base spare held 36 v d p) :
    ∃ x o l c, v = tzV x o l c ∧ d = tokD x o l c ∧ p = [] ∧ TokWf x o l c := by
  obtain ⟨cs, rfl, hsz⟩ := okWide_struct Tryz.underlying36 hv
  rw [cT] at hsz
  obtain ⟨c0, c1, c2, c3, c4, c5, c6, rfl⟩ := array7 hsz
  obtain ⟨fuel, hf⟩ := h
  obtain ⟨x, o, l, c, e1, e2, e3⟩ := trod_tok hf
  simp only [Prod.mk.injEq] at e2
  refine ⟨x, o, l, c, ?_, e2.1, e2.2, e3⟩
  unfold tzV
  congr 1
  exact Array.toList_inj.1 e1
theorem shut_tok {H : Type} {enc : TypeId × Value → H} {w : World} {base : Nat} {spare : Nat → Bool} {held : Bool} {x : Tz} {o l c : Int} (h : TokWf x o l c) :
    DataW.Trod enc Tryz.prog w base spare held 36 (tzV x o l c) (tokD x o l c) [] := ⟨3, tok_trod h⟩
theorem sized_tok {H : Type} {ts : List TypeId} {ds : List (DataW H)} (h : (DataW.weightsEach Tryz.prog ts ds).all (· ≤ reachBytes) = true) {j : Nat} {x : Tz} {o l c : Int} (ht : ts[j]? = some 36) (hd : ds[j]? = some (tokD x o l c)) : x.text.length ≤ reachBytes := by
  have := List.all_eq_true.1 h _ (DataW.weights_mem_each ht hd x.text.length (by simp [tokD, DataW.weights, DataW.weightsEach, Tryz.underlying36, Tryz.underlying25]))
  simpa using this
end Go.Proofs.YtiggbnkmggbpiaaGreatDoor
namespace Go.Proofs.YtiggbnkmggbpiaaGreatDoor
open Go.RowKit Go.ChangeShapes Go.WideShapes Go.ChangeAt Go.Deep
set_option linter.unusedVariables false

/-- A row's claim within a size, out of a contract that leans on what lies in the variables and on the world's shape. -/
theorem lift_cond {H : Type} {enc : TypeId × Value → H} {C : Checked} {os : Os} {f : FuncId} {fn : Func} {s : OpenSpec} {k : (H : Type) → List (DataW H) → Bool} (hk : s.cond = some k) {F : Stop.Interp} {X : World → Prop} (hX : ∀ w w' : World, w.heap = w'.heap → X w → X w')
    (hown : ownKnob C.prog.godebug = none) (started : os.Started) (hi : C.prog.inits.idxOf? f = none) (hf : C.prog.funcs[f]? = some fn)
    (wit : ∃ (w : World) (tape : Tape) (i : Input), w.os = os ∧ (w.forCall tape i).Shaped C.prog ∧ i.vars = [] ∧ Input.okWide C.prog (w.forCall tape i) .any w.heap.size f i ∧
      ((s.pre enc C.prog fn [] false (w.forCall tape i).memory i.args ∧ X (w.forCall tape i).memory) ∧ sizedMet enc C.prog fn s false (w.forCall tape i).memory i.args) ∧ ({} : Assume).holds C.prog (lone (Frame.enter C.prog f i.args .normal) [] (w.forCall tape i)))
    (con : ∀ (W : World) (base : Nat) (args : Array Value) (ds gs : List (DataW H)) (before : List MemPlace),
      (∀ (j : Nat) t v, fn.params[j]? = some t → args[j]? = some v → Value.okWide C.prog W .any base t v) →
      DataW.Whole enc C.prog fn.params.toList s.vars false W args.toList ds gs before → k H (ds ++ gs) = true → X W → W.ShapedOpen C.prog →
      Calls C.prog f args W fun e W' => ∃ v, e = .returned v ∧ (s.at F).post enc C.prog fn false true false false W args v W') :
    ReturnsInHanded {} C os f .any (fun w args => (s.pre enc C.prog fn [] false w args ∧ X w) ∧ sizedMet enc C.prog fn s false w args) ((s.at F).post enc C.prog fn false true false false) := by
  refine returnsInHanded_of_calls hown started hi wit ?_
  intro w tape i _ shape _ ok pre _
  obtain ⟨⟨pre1, laid⟩, size⟩ := pre
  obtain ⟨ds, gs, before, whole, _, small⟩ := (OpenSpec.pre_some hk [] false _ _).1 pre1
  obtain ⟨_, _, _, fn1, h1, _, _, _, _, vals⟩ := ok
  cases Option.some.inj (h1.symm.trans hf)
  refine (con (w.forCall tape i) w.heap.size i.args ds gs before vals (DataW.Whole.of_heap (w' := w.forCall tape i) (by rfl) whole) small (hX _ _ (by rfl) laid) shape).mono ?_
  rintro e W1 ⟨v, rfl, post⟩
  exact ChangeSpec.post_blind post
theorem wit_cond {H : Type} {enc : TypeId × Value → H} {C : Checked} {os : Os} {f : FuncId} {fn : Func} {s : OpenSpec} {k : (H : Type) → List (DataW H) → Bool} (hk : s.cond = some k) {X : World → Prop} (w0 : World) (args : Array Value) (fuel : Nat) (hos : w0.os = os)
    (hsh : (w0.forCall (fun _ _ => 0) ⟨#[], args, []⟩).Shaped C.prog) (hok : Input.okWideB C.prog (w0.forCall (fun _ _ => 0) ⟨#[], args, []⟩) f ⟨#[], args, []⟩ = true)
    {x : List (DataW H) × List (DataW H) × List MemPlace} (hx : DataW.whole enc C.prog (w0.forCall (fun _ _ => 0) ⟨#[], args, []⟩).memory fn.params.toList s.vars false args.toList fuel = some x) (hkk : k H (x.1 ++ x.2.1) = true)
    (hsz : s.bare.sizedB enc C.prog fn false (w0.forCall (fun _ _ => 0) ⟨#[], args, []⟩).memory args fuel = true) (hl : X (w0.forCall (fun _ _ => 0) ⟨#[], args, []⟩).memory) :
    ∃ (w : World) (tape : Tape) (i : Input), w.os = os ∧ (w.forCall tape i).Shaped C.prog ∧ i.vars = [] ∧ Input.okWide C.prog (w.forCall tape i) .any w.heap.size f i ∧
      ((s.pre enc C.prog fn [] false (w.forCall tape i).memory i.args ∧ X (w.forCall tape i).memory) ∧ sizedMet enc C.prog fn s false (w.forCall tape i).memory i.args) ∧ ({} : Assume).holds C.prog (lone (Frame.enter C.prog f i.args .normal) [] (w.forCall tape i)) :=
  ⟨w0, fun _ _ => 0, ⟨#[], args, []⟩, hos, hsh, (Input.okWide_of_okWideB (base := 0) hok).1, (Input.okWide_of_okWideB hok).2,
    ⟨⟨(OpenSpec.pre_some hk [] false _ _).2 ⟨x.1, x.2.1, x.2.2, DataW.Whole_of_whole hx, rfl, hkk⟩, hl⟩, sizedMet_of_sizedB hsz⟩, by
    simp only [Assume.holds]
    exact ⟨by simp, by simp, fun _ => Modest.zero, by simp, by simp⟩⟩
/-! ### Sizes -/
theorem bulk_pos {H : Type} (d : DataW H) : 1 ≤ Rows.uptoBulk d := by
  cases d with
  | lit l => cases l <;> simp [Rows.uptoBulk]
  | nil => simp [Rows.uptoBulk]
  | ptr d => simp [Rows.uptoBulk]
  | slice elems spare => simp [Rows.uptoBulk]
  | agg parts => simp [Rows.uptoBulk]
  | iface t d => simp [Rows.uptoBulk]
  | map entries => simp [Rows.uptoBulk]
  | held h => simp [Rows.uptoBulk]
theorem bulk_length {H : Type} (l : List (DataW H)) : l.length ≤ Rows.uptoBulkAll l := by
  induction l with
  | nil => simp
  | cons d l ih => have := bulk_pos d; simp only [Rows.uptoBulkAll, List.length_cons]; omega
theorem bulk_part {H : Type} {d : DataW H} {l : List (DataW H)} (h : d ∈ l) : Rows.uptoBulk d ≤ Rows.uptoBulkAll l := by
  induction l with
  | nil => cases h
  | cons x r ih =>
    simp only [Rows.uptoBulkAll]
    cases List.mem_cons.1 h with
    | inl e => subst e; omega
    | inr e => have := ih e; omega
theorem bulk_tok {H : Type} (x : Tz) (o l c : Int) : x.text.length ≤ Rows.uptoBulk (tokD x o l c : DataW H) := by
  simp only [tokD, Rows.uptoBulk, Rows.uptoBulkAll]
  omega
theorem list7 {α : Type} {l : List α} (h : l.length = 7) : ∃ c0 c1 c2 c3 c4 c5 c6, l = [c0, c1, c2, c3, c4, c5, c6] := by
  match l, h with
  | [c0, c1, c2, c3, c4, c5, c6], _ => exact ⟨c0, c1, c2, c3, c4, c5, c6, rfl⟩
theorem tps_range (L : Nat → Tp) (n j : Nat) (u : Value) (h : (tpsL ((List.range n).map L))[j]? = some u) : ∃ i t, i < n ∧ t < 7 ∧ j = i * 7 + t ∧ (tpL (L i))[t]? = some u := by
  have hlen : ∀ xs : List Tp, (tpsL xs).length = xs.length * 7 := by
    intro xs
    induction xs with
    | nil => rfl
    | cons x xs ih =>
      have : tpsL (x :: xs) = tpL x ++ tpsL xs := rfl
      rw [this, List.length_append, ih]
      have h7 : (tpL x).length = 7 := rfl
      rw [h7]
      simp
      omega
  have hj : j < n * 7 := by
    have := (List.getElem?_eq_some_iff.1 h).1
    rw [hlen] at this
    simpa using this
  refine ⟨j / 7, j % 7, by omega, by omega, by omega, ?_⟩
  have := tps_at ((List.range n).map L) (j / 7) (L (j / 7)) (by
    rw [List.getElem?_map, List.getElem?_range (by omega)]; rfl) (j % 7) (by omega)
  rw [show j / 7 * 7 + j % 7 = j by omega] at this
  rw [← this]
  exact h
theorem toks_open {H : Type} {enc : TypeId × Value → H} {W : World} {a : Option Addr} {len cap : Nat} {d : DataW H} {p : List MemPlace}
    (h : DataW.Trod enc Tryz.prog W 0 (fun _ => true) true 22 (.slice a len cap) d p) (hs : Rows.uptoBulk d ≤ 1048576) :
    ∃ xs : List Tp, RowT W (.slice a len cap) xs ∧ xs.length ≤ 1048576 ∧ ∀ x ∈ xs, TzOk x.z := by
  obtain ⟨fuel, hf⟩ := h
  rcases open_slice Tryz.underlying22 hf with ⟨hcs, _⟩ | ⟨x, len', cap', m, n, D, Pl, hcs, _, hl, hm, hmm, hx, hV⟩
  · simp [Value.cells] at hcs
    obtain ⟨rfl, rfl, rfl⟩ := hcs
    exact ⟨[], .nil, by simp, fun x hx => by cases hx⟩
  · simp [Value.cells] at hcs
    obtain ⟨rfl, rfl, rfl⟩ := hcs
    simp only [if_true] at hmm
    subst hmm
    rw [cT] at hV
    have hd : d = .slice ((List.range len).map D) ((List.range (m - len)).map fun j => D (len + j)) := congrArg Prod.fst hx
    have hb : Rows.uptoBulkAll ((List.range len).map D) + 1 ≤ Rows.uptoBulk d := by
      rw [hd]; simp only [Rows.uptoBulk]; omega
    have hlen := bulk_length ((List.range len).map D)
    rw [List.length_map, List.length_range] at hlen
    have inh : Inhabited Tp := ⟨⟨⟨0, [], 0, false⟩, 0, 0, 0⟩⟩
    obtain ⟨L, hL⟩ := choose_lt (α := Tp) (n := len) (p := fun i q => W.cells? 0 (x.add (i * 7)) 7 = some (tpL q) ∧ TzOk q.z) (fun i hi => by
      have hbi : Rows.uptoBulk (D i) ≤ Rows.uptoBulkAll ((List.range len).map D) := bulk_part (List.mem_map.mpr ⟨i, List.mem_range.mpr hi, rfl⟩)
      obtain ⟨cs', h1, h2⟩ := hV i (by omega)
      obtain ⟨_, hcl, _⟩ := World.cells?_some h1
      obtain ⟨c0, c1, c2, c3, c4, c5, c6, rfl⟩ := list7 hcl
      obtain ⟨z, o, l, c, e1, e2, wf⟩ := trod_tok h2
      have e3 : D i = tokD z o l c := congrArg Prod.fst e2
      have e4 := bulk_tok (H := H) z o l c
      rw [← e3] at e4
      refine ⟨⟨z, o, l, c⟩, ?_, ?_, ?_⟩
      · rw [h1, e1]; rfl
      · have := bounds_u32 wf.w5
        show z.val < _
        omega
      · show z.text.length < _
        omega)
    refine ⟨(List.range len).map L, ?_, by simp; omega, fun q hq => ?_⟩
    · obtain ⟨b, off, spot⟩ := x
      by_cases hp : 0 < len
      · obtain ⟨_, hcl, hc0⟩ := World.cells?_some (hL 0 hp).1
        have hspot : spot = none := by
          have := hc0 0 (by omega)
          have := World.cell?_spot (this.trans rfl)
          simpa [Addr.add] using this
        subst hspot
        have hbw : b < W.heap.size := by
          have := World.cells?_block (hL 0 hp).1 (by omega)
          simpa [Addr.add] using this
        have hr : RowT W (.slice (some ⟨b, off, none⟩) ((List.range len).map L).length m) ((List.range len).map L) := by
          refine .some hbw (fun j u hj => ?_) (by simp; omega)
          obtain ⟨i, t, hi, ht, rfl, hu⟩ := tps_range L len j u hj
          obtain ⟨_, _, hck⟩ := World.cells?_some (hL i hi).1
          have := hck t ht
          rw [hu, Deep.add_add] at this
          have e : ((⟨b, off, none⟩ : Addr).add (i * 7 + t)) = ⟨b, off + (i * 7 + t), none⟩ := by
            unfold Addr.add
            by_cases h0 : i * 7 + t = 0
            · rw [if_pos h0]; congr 1; omega
            · rw [if_neg h0]
          rw [← e]; exact this
        simpa using hr
      · have h0 : len = 0 := by omega
        subst h0
        exact .nil
    · obtain ⟨i, hi, rfl⟩ := List.mem_map.mp hq
      exact (hL i (List.mem_range.mp hi)).2
end Go.Proofs.YtiggbnkmggbpiaaGreatDoor
