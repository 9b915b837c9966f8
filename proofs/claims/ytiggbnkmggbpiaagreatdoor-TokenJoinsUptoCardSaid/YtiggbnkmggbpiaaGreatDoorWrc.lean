import Derived.Test.YtiggbnkmggbpiaaGreatDoorOpn
import Derived.Deep.Slices
import Derived.JoinedCond
namespace Go.Proofs.YtiggbnkmggbpiaaGreatDoor
open Go.RowKit Go.ChangeShapes Go.WideShapes Go.ChangeAt Go.Deep
set_option linter.unusedVariables false

/-- A row's claim within a size, out of a contract that leans on what lies in the variables and on the world's shape. -/
theorem lift_cond {H : Type} {enc : TypeId × Value → H} {C : Checked} {os : Os} {f : FuncId} {fn : Func} {s : OpenSpec} {k : (H : Type) → List (DataW H) → Bool} (hk : s.cond = some k) {F : Stop.Interp} {X : World → Prop} (hX : ∀ w w' : World, w.heap = w'.heap → X w → X w')
    (hown : ownKnob C.prog.godebug = none) (started : os.Started) (hi : C.prog.inits.idxOf? f = none) (hf : C.prog.funcs[f]? = some fn)
    (wit : ∃ (w : World) (tape : Tape) (i : Input), w.os = os ∧ (w.forCall tape i).Shaped C.prog ∧ i.vars = [] ∧ Input.okWide C.prog (w.forCall tape i) .any w.heap.size f i ∧
      ((s.pre enc C.prog fn [] false (w.forCall tape i).memory i.args ∧ X (w.forCall tape i).memory) ∧ sizedMet enc C.prog fn s false (w.forCall tape i).memory i.args) ∧ ({} : Assume).holds C.prog (lone (Frame.enter C.prog f i.args .normal) [] (w.forCall tape i)))
    (con : ∀ (W : World) (base : Nat) (args : Array Value) (ds gs : List (DataW H)) (before : List MemPlace),
      (∀ (j : Nat) t v, fn.params[j]? = some t → args[j]? = some v → Value.okWide C.prog W .any base t v) →
      DataW.Whole enc C.prog fn.params.toList s.vars false W args.toList ds gs before → k H (ds ++ gs) = true → X W → W.ShapedOpen C.prog →
      Calls C.prog f args W fun e W' => ∃ v, e = .returned v ∧ (s.at F).post enc C.prog fn false true false false W args v W') :
    ReturnsInHanded {} C os f .any (fun w args => (s.pre enc C.prog fn [] false w args ∧ X w) ∧ sizedMet enc C.prog fn s false w args) ((s.at F).post enc C.prog fn false true false false) := by
  refine returnsInHanded_of_calls hown started hi wit ?_
  intro w tape i _ shape _ ok pre _
  obtain ⟨⟨pre1, laid⟩, size⟩ := pre
  obtain ⟨ds, gs, before, whole, _, small⟩ := (OpenSpec.pre_some hk [] false _ _).1 pre1
  obtain ⟨_, _, _, fn1, h1, _, _, _, _, vals⟩ := ok
  cases Option.some.inj (h1.symm.trans hf)
  refine (con (w.forCall tape i) w.heap.size i.args ds gs before vals (DataW.Whole.of_heap (w' := w.forCall tape i) (by rfl) whole) small (hX _ _ (by rfl) laid) shape).mono ?_
  rintro e W1 ⟨v, rfl, post⟩
  exact ChangeSpec.post_blind post
theorem wit_cond {H : Type} {enc : TypeId × Value → H} {C : Checked} {os : Os} {f : FuncId} {fn : Func} {s : OpenSpec} {k : (H : Type) → List (DataW H) → Bool} (hk : s.cond = some k) {X : World → Prop} (w0 : World) (args : Array Value) (fuel : Nat) (hos : w0.os = os)
    (hsh : (w0.forCall (fun _ _ => 0) ⟨#[], args, []⟩).Shaped C.prog) (hok : Input.okWideB C.prog (w0.forCall (fun _ _ => 0) ⟨#[], args, []⟩) f ⟨#[], args, []⟩ = true)
    {x : List (DataW H) × List (DataW H) × List MemPlace} (hx : DataW.whole enc C.prog (w0.forCall (fun _ _ => 0) ⟨#[], args, []⟩).memory fn.params.toList s.vars false args.toList fuel = some x) (hkk : k H (x.1 ++ x.2.1) = true)
    (hsz : s.bare.sizedB enc C.prog fn false (w0.forCall (fun _ _ => 0) ⟨#[], args, []⟩).memory args fuel = true) (hl : X (w0.forCall (fun _ _ => 0) ⟨#[], args, []⟩).memory) :
    ∃ (w : World) (tape : Tape) (i : Input), w.os = os ∧ (w.forCall tape i).Shaped C.prog ∧ i.vars = [] ∧ Input.okWide C.prog (w.forCall tape i) .any w.heap.size f i ∧
      ((s.pre enc C.prog fn [] false (w.forCall tape i).memory i.args ∧ X (w.forCall tape i).memory) ∧ sizedMet enc C.prog fn s false (w.forCall tape i).memory i.args) ∧ ({} : Assume).holds C.prog (lone (Frame.enter C.prog f i.args .normal) [] (w.forCall tape i)) :=
  ⟨w0, fun _ _ => 0, ⟨#[], args, []⟩, hos, hsh, (Input.okWide_of_okWideB (base := 0) hok).1, (Input.okWide_of_okWideB hok).2,
    ⟨⟨(OpenSpec.pre_some hk [] false _ _).2 ⟨x.1, x.2.1, x.2.2, DataW.Whole_of_whole hx, rfl, hkk⟩, hl⟩, sizedMet_of_sizedB hsz⟩, by
    simp only [Assume.holds]
    exact ⟨by simp, by simp, fun _ => Modest.zero, by simp, by simp⟩⟩
/-! ### Sizes -/
theorem bulk_pos {H : Type} (d : DataW H) : 1 ≤ Rows.uptoBulk d := by
  cases d with
  | lit l => cases l <;> simp [Rows.uptoBulk]
  | nil => simp [Rows.uptoBulk]
  | ptr d => simp [Rows.uptoBulk]
  | slice elems spare => simp [Rows.uptoBulk]
  | agg parts => simp [Rows.uptoBulk]
  | iface t d => simp [Rows.uptoBulk]
  | map entries => simp [Rows.uptoBulk]
  | held h => simp [Rows.uptoBulk]
theorem bulk_length {H : Type} (l : List (DataW H)) : l.length ≤ Rows.uptoBulkAll l := by
  induction l with
  | nil => simp
  | cons d l ih => have := bulk_pos d; simp only [Rows.uptoBulkAll, List.length_cons]; omega
theorem bulk_part {H : Type} {d : DataW H} {l : List (DataW H)} (h : d ∈ l) : Rows.uptoBulk d ≤ Rows.uptoBulkAll l := by
  induction l with
  | nil => cases h
  | cons x r ih =>
    simp only [Rows.uptoBulkAll]
    cases List.mem_cons.1 h with
    | inl e => subst e; omega
    | inr e => have := ih e; omega
theorem bulk_tok {H : Type} (x : Tz) (o l c : Int) : x.text.length ≤ Rows.uptoBulk (tokD x o l c : DataW H) := by
  simp only [tokD, Rows.uptoBulk, Rows.uptoBulkAll]
  omega
theorem list7 {α : Type} {l : List α} (h : l.length = 7) : ∃ c0 c1 c2 c3 c4 c5 c6, l = [c0, c1, c2, c3, c4, c5, c6] := by
  match l, h with
  | [c0, c1, c2, c3, c4, c5, c6], _ => exact ⟨c0, c1, c2, c3, c4, c5, c6, rfl⟩
theorem tps_range (L : Nat → Tp) (n j : Nat) (u : Value) (h : (tpsL ((List.range n).map L))[j]? = some u) : ∃ i t, i < n ∧ t < 7 ∧ j = i * 7 + t ∧ (tpL (L i))[t]? = some u := by
  have hlen : ∀ xs : List Tp, (tpsL xs).length = xs.length * 7 := by
    intro xs
    induction xs with
    | nil => rfl
    | cons x xs ih =>
      have : tpsL (x :: xs) = tpL x ++ tpsL xs := rfl
      rw [this, List.length_append, ih]
      have h7 : (tpL x).length = 7 := rfl
      rw [h7]
      simp
      omega
  have hj : j < n * 7 := by
    have := (List.getElem?_eq_some_iff.1 h).1
    rw [hlen] at this
    simpa using this
  refine ⟨j / 7, j % 7, by omega, by omega, by omega, ?_⟩
  have := tps_at ((List.range n).map L) (j / 7) (L (j / 7)) (by
    rw [List.getElem?_map, List.getElem?_range (by omega)]; rfl) (j % 7) (by omega)
  rw [show j / 7 * 7 + j % 7 = j by omega] at this
  rw [← this]
  exact h
theorem toks_open {H : Type} {enc : TypeId × Value → H} {W : World} {a : Option Addr} {len cap : Nat} {d : DataW H} {p : List MemPlace}
    (h : DataW.Trod enc Tryz.prog W 0 (fun _ => true) true 22 (.slice a len cap) d p) (hs : Rows.uptoBulk d ≤ 1048576) :
    ∃ xs : List Tp, RowT W (.slice a len cap) xs ∧ xs.length ≤ 1048576 ∧ ∀ x ∈ xs, TzOk x.z := by
  obtain ⟨fuel, hf⟩ := h
  rcases open_slice Tryz.underlying22 hf with ⟨hcs, _⟩ | ⟨x, len', cap', m, n, D, Pl, hcs, _, hl, hm, hmm, hx, hV⟩
  · simp [Value.cells] at hcs
    obtain ⟨rfl, rfl, rfl⟩ := hcs
    exact ⟨[], .nil, by simp, fun x hx => by cases hx⟩
  · simp [Value.cells] at hcs
    obtain ⟨rfl, rfl, rfl⟩ := hcs
    simp only [if_true] at hmm
    subst hmm
    rw [cT] at hV
    have hd : d = .slice ((List.range len).map D) ((List.range (m - len)).map fun j => D (len + j)) := congrArg Prod.fst hx
    have hb : Rows.uptoBulkAll ((List.range len).map D) + 1 ≤ Rows.uptoBulk d := by
      rw [hd]; simp only [Rows.uptoBulk]; omega
    have hlen := bulk_length ((List.range len).map D)
    rw [List.length_map, List.length_range] at hlen
    have inh : Inhabited Tp := ⟨⟨⟨0, [], 0, false⟩, 0, 0, 0⟩⟩
    obtain ⟨L, hL⟩ := choose_lt (α := Tp) (n := len) (p := fun i q => W.cells? 0 (x.add (i * 7)) 7 = some (tpL q) ∧ TzOk q.z) (fun i hi => by
      have hbi : Rows.uptoBulk (D i) ≤ Rows.uptoBulkAll ((List.range len).map D) := bulk_part (List.mem_map.mpr ⟨i, List.mem_range.mpr hi, rfl⟩)
      obtain ⟨cs', h1, h2⟩ := hV i (by omega)
      obtain ⟨_, hcl, _⟩ := World.cells?_some h1
      obtain ⟨c0, c1, c2, c3, c4, c5, c6, rfl⟩ := list7 hcl
      obtain ⟨z, o, l, c, e1, e2, wf⟩ := trod_tok h2
      have e3 : D i = tokD z o l c := congrArg Prod.fst e2
      have e4 := bulk_tok (H := H) z o l c
      rw [← e3] at e4
      refine ⟨⟨z, o, l, c⟩, ?_, ?_, ?_⟩
      · rw [h1, e1]; rfl
      · have := bounds_u32 wf.w5
        show z.val < _
        omega
      · show z.text.length < _
        omega)
    refine ⟨(List.range len).map L, ?_, by simp; omega, fun q hq => ?_⟩
    · obtain ⟨b, off, spot⟩ := x
      by_cases hp : 0 < len
      · obtain ⟨_, hcl, hc0⟩ := World.cells?_some (hL 0 hp).1
        have hspot : spot = none := by
          have := hc0 0 (by omega)
          have := World.cell?_spot (this.trans rfl)
          simpa [Addr.add] using this
        subst hspot
        have hbw : b < W.heap.size := by
          have := World.cells?_block (hL 0 hp).1 (by omega)
          simpa [Addr.add] using this
        have hr : RowT W (.slice (some ⟨b, off, none⟩) ((List.range len).map L).length m) ((List.range len).map L) := by
          refine .some hbw (fun j u hj => ?_) (by simp; omega)
          obtain ⟨i, t, hi, ht, rfl, hu⟩ := tps_range L len j u hj
          obtain ⟨_, _, hck⟩ := World.cells?_some (hL i hi).1
          have := hck t ht
          rw [hu, Deep.add_add] at this
          have e : ((⟨b, off, none⟩ : Addr).add (i * 7 + t)) = ⟨b, off + (i * 7 + t), none⟩ := by
            unfold Addr.add
            by_cases h0 : i * 7 + t = 0
            · rw [if_pos h0]; congr 1; omega
            · rw [if_neg h0]
          rw [← e]; exact this
        simpa using hr
      · have h0 : len = 0 := by omega
        subst h0
        exact .nil
    · obtain ⟨i, hi, rfl⟩ := List.mem_map.mp hq
      exact (hL i (List.mem_range.mp hi)).2
end Go.Proofs.YtiggbnkmggbpiaaGreatDoor
