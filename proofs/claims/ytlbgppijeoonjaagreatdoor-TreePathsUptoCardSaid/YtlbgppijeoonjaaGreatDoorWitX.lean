import Derived.Test.YtlbgppijeoonjaaGreatDoorRows
import Derived.Test.YtlbgppijeoonjaaGreatDoorTpX
import Derived.ProofKit
import Derived.OpenShut
import Derived.LaidMore
import Derived.LaidSub
import Derived.Lay
import Derived.LaidHandle
import Derived.Shelf.Vars
import Derived.Stop.Joined
import Derived.Stop.LaidTwo
import Derived.LaidLaws
import Derived.ChangeSame
import Derived.SizedLaws
import Derived.HandedShaped
import Derived.Handed
import Derived.Deep.Slices
import Derived.JoinedCond
namespace Go.Proofs.YtlbgppijeoonjaaGreatDoor
open Go.RowKit Go.ChangeShapes Go.WideShapes Go.ChangeAt
set_option linter.unusedVariables false

abbrev laidT : List (String × DataW Unit) := Rows.treeParsesRow.laid
theorem star_err : "*" ++ "errors.errorString" = "*errors.errorString" := by decide
theorem row_err (u : TypeId) (h : Tryz.prog.typeName? 3 u = some "*errors.errorString") : u = 224 :=
  typeName_ptr_named (nm := "errors.errorString") (by rw [star_err]; kernel_rfl) (by kernel_rfl) (by decide) u (by rw [star_err]; exact h)
abbrev senD (x : List UInt8) : DataW Unit := .iface "*errors.errorString" (.ptr (.agg [.lit (.string x)]))
/-- An error of the package: where it lies. -/
structure ErrP (W : World) (g : Nat) (a : Addr) : Prop where
  cell : W.cell? ⟨g, 0, none⟩ = some (.iface 224 (.pointer (some a)))
  lies : ∃ c t, W.heap[a.block]? = some (.cells c t (0, 0))
theorem ErrP.uniq {W : World} {g : Nat} {a b : Addr} (h : ErrP W g a) (h' : ErrP W g b) : a = b := by
  have := h.cell.symm.trans h'.cell
  simpa using this
theorem err_pair {W : World} (h : laidMetH Tryz.prog laidT W) (n0 n1 : String) (x0 x1 : List UInt8) (g0 g1 : Nat)
    (e : (laidT.filter fun x => x.1 == n0 || x.1 == n1) = [(n0, senD x0), (n1, senD x1)])
    (hg0 : Tryz.prog.globalNamed n0 = some g0) (ht0 : (Tryz.prog.globals[g0]?).map (·.type) = some 112) (hg1 : Tryz.prog.globalNamed n1 = some g1) (ht1 : (Tryz.prog.globals[g1]?).map (·.type) = some 112) :
    ∃ a0 a1, ErrP W g0 a0 ∧ ErrP W g1 a1 ∧ a0 ≠ a1 := by
  have h1 := h.filter (fun x => x.1 == n0 || x.1 == n1)
  rw [e, MakeChecks.laidMetH_plain _ _ _ (by rfl)] at h1
  obtain ⟨a0, a1, s0, s1, c0, c1, t0, t1, v0, v1, _, _, _, _, _, _, hne, l0, l1⟩ := laid_sentinels2 h1 hg0 ht0 hg1 ht1 Tryz.underlying112 row_err Tryz.underlying224 Tryz.underlying226 rfl rfl Tryz.underlying9 (by kernel_rfl) (by kernel_rfl)
  exact ⟨a0, a1, ⟨by simpa using World.var?_cell hg0 v0 0, c0, t0, l0⟩, ⟨by simpa using World.var?_cell hg1 v1 0, c1, t1, l1⟩, hne⟩
theorem pair_20_23 {W : World} (h : laidMetH Tryz.prog laidT W) : ∃ a0 a1, ErrP W 6 a0 ∧ ErrP W 2 a1 ∧ a0 ≠ a1 :=
  err_pair h "tappet/token.errByte" "tappet/token.errComment" _ _ _ _ rfl (by kernel_rfl) (by kernel_rfl) (by kernel_rfl) (by kernel_rfl)
theorem pair_20_24 {W : World} (h : laidMetH Tryz.prog laidT W) : ∃ a0 a1, ErrP W 6 a0 ∧ ErrP W 0 a1 ∧ a0 ≠ a1 :=
  err_pair h "tappet/token.errByte" "tappet/token.errLong" _ _ _ _ rfl (by kernel_rfl) (by kernel_rfl) (by kernel_rfl) (by kernel_rfl)
theorem pair_20_21 {W : World} (h : laidMetH Tryz.prog laidT W) : ∃ a0 a1, ErrP W 6 a0 ∧ ErrP W 3 a1 ∧ a0 ≠ a1 :=
  err_pair h "tappet/token.errByte" "tappet/token.errNumber" _ _ _ _ rfl (by kernel_rfl) (by kernel_rfl) (by kernel_rfl) (by kernel_rfl)
theorem pair_20_22 {W : World} (h : laidMetH Tryz.prog laidT W) : ∃ a0 a1, ErrP W 6 a0 ∧ ErrP W 4 a1 ∧ a0 ≠ a1 :=
  err_pair h "tappet/token.errByte" "tappet/token.errString" _ _ _ _ rfl (by kernel_rfl) (by kernel_rfl) (by kernel_rfl) (by kernel_rfl)
theorem pair_23_24 {W : World} (h : laidMetH Tryz.prog laidT W) : ∃ a0 a1, ErrP W 2 a0 ∧ ErrP W 0 a1 ∧ a0 ≠ a1 :=
  err_pair h "tappet/token.errComment" "tappet/token.errLong" _ _ _ _ rfl (by kernel_rfl) (by kernel_rfl) (by kernel_rfl) (by kernel_rfl)
theorem pair_23_21 {W : World} (h : laidMetH Tryz.prog laidT W) : ∃ a0 a1, ErrP W 2 a0 ∧ ErrP W 3 a1 ∧ a0 ≠ a1 :=
  err_pair h "tappet/token.errComment" "tappet/token.errNumber" _ _ _ _ rfl (by kernel_rfl) (by kernel_rfl) (by kernel_rfl) (by kernel_rfl)
theorem pair_23_22 {W : World} (h : laidMetH Tryz.prog laidT W) : ∃ a0 a1, ErrP W 2 a0 ∧ ErrP W 4 a1 ∧ a0 ≠ a1 :=
  err_pair h "tappet/token.errComment" "tappet/token.errString" _ _ _ _ rfl (by kernel_rfl) (by kernel_rfl) (by kernel_rfl) (by kernel_rfl)
theorem pair_24_21 {W : World} (h : laidMetH Tryz.prog laidT W) : ∃ a0 a1, ErrP W 0 a0 ∧ ErrP W 3 a1 ∧ a0 ≠ a1 :=
  err_pair h "tappet/token.errLong" "tappet/token.errNumber" _ _ _ _ rfl (by kernel_rfl) (by kernel_rfl) (by kernel_rfl) (by kernel_rfl)
theorem pair_24_22 {W : World} (h : laidMetH Tryz.prog laidT W) : ∃ a0 a1, ErrP W 0 a0 ∧ ErrP W 4 a1 ∧ a0 ≠ a1 :=
  err_pair h "tappet/token.errLong" "tappet/token.errString" _ _ _ _ rfl (by kernel_rfl) (by kernel_rfl) (by kernel_rfl) (by kernel_rfl)
theorem pair_21_22 {W : World} (h : laidMetH Tryz.prog laidT W) : ∃ a0 a1, ErrP W 3 a0 ∧ ErrP W 4 a1 ∧ a0 ≠ a1 :=
  err_pair h "tappet/token.errNumber" "tappet/token.errString" _ _ _ _ rfl (by kernel_rfl) (by kernel_rfl) (by kernel_rfl) (by kernel_rfl)
theorem pair_std {W : World} (h : laidMetH Tryz.prog laidT W) : ∃ a0 a1, ErrP W 11 a0 ∧ ErrP W 10 a1 ∧ a0 ≠ a1 :=
  err_pair h "strconv.ErrRange" "strconv.ErrSyntax" _ _ _ _ rfl (by kernel_rfl) (by kernel_rfl) (by kernel_rfl) (by kernel_rfl)
theorem et_one : ((List.range Tryz.prog.types.size).filter fun t => Tryz.prog.rowNamed t [101, 114, 114, 111, 114]) = [112] := by kernel_rfl
theorem et_of {W : World} (h : laidMetH Tryz.prog laidT W) : W.cell? ⟨1, 0, none⟩ = some (.iface 164 (.agg #[.pointer (some ⟨15, 112, none⟩)])) := by
  have h1 := h.filter (fun x => x.1 == "errors.errorType")
  have e : (laidT.filter fun x => x.1 == "errors.errorType") = [("errors.errorType", Rows.laid_errors_errorType)] := by rfl
  rw [e] at h1
  have h' : laidMet Tryz.prog [] W ∧ handlesMet Tryz.prog [("errors.errorType", Rows.laid_errors_errorType)] W := h1
  obtain ⟨name, u, ty, e1, e2, e3, e4, e5⟩ := h'.2 _ (List.mem_singleton.2 rfl)
  have en : name = [101, 114, 114, 111, 114] := (Option.some.inj e1).symm
  subst en
  obtain rfl := Option.some.inj ((show (Tryz.prog.cutTypes.find? (·.1 == "internal/reflectlite.rtype")).map (·.2) = some 164 by kernel_rfl).symm.trans e2)
  have hm : ty ∈ (List.range Tryz.prog.types.size).filter fun t => Tryz.prog.rowNamed t [101, 114, 114, 111, 114] := List.mem_filter.2 ⟨List.mem_range.2 e3, e4⟩
  rw [et_one] at hm
  obtain rfl := List.mem_singleton.1 hm
  have hh : typeHandle Tryz.prog 112 = .pointer (some ⟨15, 112, none⟩) := by kernel_rfl
  rw [hh] at e5
  simpa using World.var?_cell (show Tryz.prog.globalNamed "errors.errorType" = some 1 by kernel_rfl) e5 0
theorem max_of {W : World} (h : W.ShapedOpen Tryz.prog) : ∃ m, W.cell? ⟨7, 0, none⟩ = some (.int .i64 m) :=
  cell_of_shapedOpen_int (zero := #[.int .i64 0]) (t := 3) h (of_decide_eq_true (by kernel_rfl)) (by kernel_rfl) rfl (by kernel_rfl) (by kernel_rfl) Tryz.underlying3
end Go.Proofs.YtlbgppijeoonjaaGreatDoor

namespace Go.Proofs.YtlbgppijeoonjaaGreatDoor
open Go.RowKit Go.ChangeShapes Go.WideShapes Go.ChangeAt
set_option linter.unusedVariables false

def marksZ : List (Int × Int) := [(123, 4), (125, 5), (61, 6), (59, 7), (58, 8)]
theorem marks_dat : (Rows.laid_tappet_token_marks : DataW Unit) = .agg (marksZ.map fun z => .agg [.lit (.int .u8 z.1), .lit (.int .i64 z.2)]) := by rfl
theorem marks_of {W : World} (h : laidMetH Tryz.prog laidT W) (i : Nat) (hi : i < 5) : W.cell? ⟨5, i * 2, none⟩ = some (.int .u8 (marksZ.getD i (0, 0)).1) ∧ W.cell? ⟨5, i * 2 + 1, none⟩ = some (.int .i64 (marksZ.getD i (0, 0)).2) := by
  have h1 := h.filter (fun x => x.1 == "tappet/token.marks")
  have e : (laidT.filter fun x => x.1 == "tappet/token.marks") = [("tappet/token.marks", .agg (marksZ.map fun z => .agg [.lit (.int .u8 z.1), .lit (.int .i64 z.2)]))] := by rw [← marks_dat]; rfl
  rw [e, MakeChecks.laidMetH_plain _ _ _ (by rfl)] at h1
  obtain ⟨ps, ⟨g, t, cs, fuel, p, q, hg, ht, hv, hd, _, _⟩, _⟩ := h1
  obtain rfl := Option.some.inj ((show Tryz.prog.globalNamed "tappet/token.marks" = some 5 by kernel_rfl).symm.trans hg)
  obtain rfl := Option.some.inj ((show (Tryz.prog.globals[5]?).map (·.type) = some 188 by kernel_rfl).symm.trans ht)
  obtain ⟨xs, m, _, ex, _, hl, hel⟩ := DataW.trod_array Tryz.underlying188 hd
  have c2 : Tryz.prog.cellsOf 187 = 2 := by kernel_rfl
  have c5 : Tryz.prog.cellsOf 5 = 1 := by kernel_rfl
  have c33 : Tryz.prog.cellsOf 55 = 1 := by kernel_rfl
  have hE := hel i hi
  rw [c2, List.getElem?_eq_getElem (by omega)] at hE
  obtain ⟨y0, y1, n, e1, _, h0, h1⟩ := trod_struct2 Tryz.underlying187 hE
  simp only [c5, c33] at h0 h1
  obtain ⟨z0, a0, b0, _⟩ := DataW.trod_int Tryz.underlying5 h0
  obtain ⟨z1, a1, b1, _⟩ := DataW.trod_int Tryz.underlying55 h1
  have e3 : (xs.map (·.1)) = marksZ.map fun z => (.agg [.lit (.int .u8 z.1), .lit (.int .i64 z.2)] : DataW Unit) := (DataW.agg.inj (Prod.mk.inj ex).1).symm
  have hlen : marksZ.length = 5 := rfl
  have e4 : (xs.map (·.1))[i]? = (marksZ.map fun z => (.agg [.lit (.int .u8 z.1), .lit (.int .i64 z.2)] : DataW Unit))[i]? := by rw [e3]
  rw [List.getElem?_map, List.getElem?_map, List.getElem?_eq_getElem (by omega : i < xs.length), List.getElem?_eq_getElem (by omega : i < marksZ.length), e1, b0, b1] at e4
  simp only [Option.map_some, Option.some.injEq, DataW.agg.injEq, List.cons.injEq, DataW.lit.injEq, Lit.int.injEq, true_and, and_true] at e4
  have hget : marksZ.getD i (0, 0) = marksZ[i] := by rw [List.getD, List.getElem?_eq_getElem (by omega : i < marksZ.length)]; rfl
  have q0 : z0 = (marksZ.getD i (0, 0)).1 := by rw [hget]; exact e4.1
  have q1 : z1 = (marksZ.getD i (0, 0)).2 := by rw [hget]; exact e4.2
  rw [← q0, ← q1, World.var?_cell hg hv, World.var?_cell hg hv]
  constructor
  · have := congrArg (·[0]?) a0
    simpa [List.getElem?_take, List.getElem?_drop] using this
  · have := congrArg (·[0]?) a1
    simpa [List.getElem?_take, List.getElem?_drop] using this
/-- All that the package's functions ask of the world. -/
structure EnvW (p : Nat → Addr) (W : World) : Prop where
  e : Env W.heap.size p W
  f : EnvF W.heap.size p W
theorem env_of {W : World} (h : laidMetH Tryz.prog laidT W) (hs : W.ShapedOpen Tryz.prog) : ∃ p, EnvW p W := by
  obtain ⟨a20, a23, E20, E23, n2023⟩ := pair_20_23 h
  obtain ⟨a21, a22, E21, E22, n2122⟩ := pair_21_22 h
  obtain ⟨x0, a24, F0, E24, n2024⟩ := pair_20_24 h
  obtain rfl := E20.uniq F0
  have n2021 : a20 ≠ a21 := by
    obtain ⟨x0, x1, F0, F1, hn⟩ := pair_20_21 h
    rw [E20.uniq F0, E21.uniq F1]; exact hn
  have n2022 : a20 ≠ a22 := by
    obtain ⟨x0, x1, F0, F1, hn⟩ := pair_20_22 h
    rw [E20.uniq F0, E22.uniq F1]; exact hn
  have n2324 : a23 ≠ a24 := by
    obtain ⟨x0, x1, F0, F1, hn⟩ := pair_23_24 h
    rw [E23.uniq F0, E24.uniq F1]; exact hn
  have n2321 : a23 ≠ a21 := by
    obtain ⟨x0, x1, F0, F1, hn⟩ := pair_23_21 h
    rw [E23.uniq F0, E21.uniq F1]; exact hn
  have n2322 : a23 ≠ a22 := by
    obtain ⟨x0, x1, F0, F1, hn⟩ := pair_23_22 h
    rw [E23.uniq F0, E22.uniq F1]; exact hn
  have n2421 : a24 ≠ a21 := by
    obtain ⟨x0, x1, F0, F1, hn⟩ := pair_24_21 h
    rw [E24.uniq F0, E21.uniq F1]; exact hn
  have n2422 : a24 ≠ a22 := by
    obtain ⟨x0, x1, F0, F1, hn⟩ := pair_24_22 h
    rw [E24.uniq F0, E22.uniq F1]; exact hn
  obtain ⟨sr, ss, ER, ES, _⟩ := pair_std h
  have m0 := marks_of h 0 (by decide)
  have m1 := marks_of h 1 (by decide)
  have m2 := marks_of h 2 (by decide)
  have m3 := marks_of h 3 (by decide)
  have m4 := marks_of h 4 (by decide)
  have hlt : ∀ {a : Addr} {g : Nat}, ErrP W g a → a.block < W.heap.size := fun hE => by
    obtain ⟨c, t, hh⟩ := hE.lies
    exact heap_lt hh
  have h16 : 16 ≤ W.heap.size := by
    obtain ⟨o, o₀, hh, _⟩ := hs.2 15 (of_decide_eq_true (by kernel_rfl)) (of_decide_eq_true (by kernel_rfl))
    have := heap_lt hh
    omega
  refine ⟨fun c => if c = 21 then a21 else if c = 22 then a22 else if c = 23 then a23 else if c = 24 then a24 else a20, ⟨Nat.le_refl _, h16, E24.cell, E23.cell, E22.cell, E21.cell, E20.cell, max_of hs, ⟨_, _, ES.cell⟩, ⟨_, _, ER.cell⟩, m0.1, m0.2, m1.1, m1.2, m2.1, m2.2, m3.1, m3.2, m4.1, m4.2, fun c => ?_, fun c d h1 h2 h3 h4 he => ?_⟩, ⟨et_of h, fun c => ?_⟩⟩
  · split
    · exact hlt E21
    · split
      · exact hlt E22
      · split
        · exact hlt E23
        · split
          · exact hlt E24
          · exact hlt E20
  · have hc : c = 20 ∨ c = 21 ∨ c = 22 ∨ c = 23 ∨ c = 24 := by omega
    have hd : d = 20 ∨ d = 21 ∨ d = 22 ∨ d = 23 ∨ d = 24 := by omega
    rcases hc with rfl | rfl | rfl | rfl | rfl <;> rcases hd with rfl | rfl | rfl | rfl | rfl <;> first
      | rfl
      | (exfalso
         simp at he
         first
          | exact n2023 he
          | exact n2023 he.symm
          | exact n2024 he
          | exact n2024 he.symm
          | exact n2021 he
          | exact n2021 he.symm
          | exact n2022 he
          | exact n2022 he.symm
          | exact n2324 he
          | exact n2324 he.symm
          | exact n2321 he
          | exact n2321 he.symm
          | exact n2322 he
          | exact n2322 he.symm
          | exact n2421 he
          | exact n2421 he.symm
          | exact n2422 he
          | exact n2422 he.symm
          | exact n2122 he
          | exact n2122 he.symm)
  · split
    · exact E21.lies
    · split
      · exact E22.lies
      · split
        · exact E23.lies
        · split
          · exact E24.lies
          · exact E20.lies
end Go.Proofs.YtlbgppijeoonjaaGreatDoor

namespace Go.Proofs.YtlbgppijeoonjaaGreatDoor
open Go.RowKit Go.ChangeShapes Go.WideShapes Go.ChangeAt
set_option linter.unusedVariables false

theorem own : ownKnob Tryz.prog.godebug = none := by kernel_rfl
/-- A world in which errors.errorType is laid. -/
noncomputable def witH (os : Os) : World :=
  let w0 := World.holding Tryz.prog os ⟨#[], #[], []⟩
  { w0 with heap := w0.heap.modify 1 fun
      | .cells _ t frozen => .cells #[.iface 164 (.agg #[.pointer (some ⟨15, 112, none⟩)])] t frozen
      | o => o }
abbrev laidP : List (String × DataW Unit) := laidT.filter fun x => x.2.handleName?.isNone
/-- .. and all the others. -/
noncomputable def witW (os : Os) : World := (witH os).layVars Tryz.prog laidP
theorem witW_os (os : Os) : (witW os).os = os := World.layVars_os _ _ _
set_option maxRecDepth 100000 in
theorem wit_plain (os : Os) : laidMet Tryz.prog laidP (witW os) := by
  have e1 : (laidP.filter fun x => (laidP.map (·.1)).contains x.1) = laidP := List.filter_eq_self.2 fun x hx => List.contains_iff_mem.2 (List.mem_map.2 ⟨x, hx, rfl⟩)
  have e2 : (laidP.filter fun x => !(laidP.map (·.1)).contains x.1) = [] := List.filter_eq_nil_iff.2 fun x hx => by rw [List.contains_iff_mem.2 (List.mem_map.2 ⟨x, hx, rfl⟩)]; simp
  exact laidMet_layVars (w0 := witH os) (laidP.map (·.1)) [] (by rw [e1]; rfl) (by rw [e1]; kernel_rfl) (by rw [e1]; kernel_rfl) (by rw [e2]; exact LaidIn.none)
theorem wit_met (os : Os) (args : Array Value) : laidMetH Tryz.prog laidT ((witW os).forCall (fun _ _ => 0) ⟨#[], args, []⟩).memory :=
  (laidMetH_of_parts (wit_plain os) (by kernel_rfl)).of_heap (by simp [World.memory, World.forCall, Input.heap])
theorem wit_shaped (os : Os) (args : Array Value) : ((witW os).forCall (fun _ _ => 0) ⟨#[], args, []⟩).Shaped Tryz.checked.prog := World.shaped_of_ZipB (by kernel_rfl) (by kernel_rfl)
end Go.Proofs.YtlbgppijeoonjaaGreatDoor

namespace Go.Proofs.YtlbgppijeoonjaaGreatDoor
open Go.RowKit Go.ChangeShapes Go.WideShapes Go.ChangeAt
set_option linter.unusedVariables false

/-- A row's claim out of a contract that leans on what lies in the variables and on the world's shape. -/
theorem lift_laid {H : Type} {enc : TypeId × Value → H} {C : Checked} {os : Os} {f : FuncId} {fn : Func} {s : ChangeSpec} {X : World → Prop} (hX : ∀ w w' : World, w.heap = w'.heap → X w → X w')
    (hown : ownKnob C.prog.godebug = none) (started : os.Started) (hi : C.prog.inits.idxOf? f = none) (hf : C.prog.funcs[f]? = some fn)
    (wit : ∃ (w : World) (tape : Tape) (i : Input), w.os = os ∧ (w.forCall tape i).Shaped C.prog ∧ i.vars = [] ∧ Input.okWide C.prog (w.forCall tape i) .any w.heap.size f i ∧
      ((s.pre enc C.prog fn [] false (w.forCall tape i).memory i.args ∧ X (w.forCall tape i).memory) ∧ sizedMet enc C.prog fn (OpenSpec.ofChange s) false (w.forCall tape i).memory i.args) ∧ ({} : Assume).holds C.prog (lone (Frame.enter C.prog f i.args .normal) [] (w.forCall tape i)))
    (con : ∀ (W : World) (base : Nat) (args : Array Value) (ds gs : List (DataW H)) (before : List MemPlace),
      (∀ (j : Nat) t v, fn.params[j]? = some t → args[j]? = some v → Value.okWide C.prog W .any base t v) →
      DataW.Whole enc C.prog fn.params.toList s.vars false W args.toList ds gs before →
      (DataW.weightsEach C.prog (fn.params.toList ++ s.plain.varTypes C.prog) (ds ++ gs)).all (· ≤ reachBytes) = true → X W → W.ShapedOpen C.prog →
      Calls C.prog f args W fun e W' => ∃ v, e = .returned v ∧ s.post enc C.prog fn false true false false W args v W') :
    ReturnsInHanded {} C os f .any (fun w args => (s.pre enc C.prog fn [] false w args ∧ X w) ∧ sizedMet enc C.prog fn (OpenSpec.ofChange s) false w args) (s.post enc C.prog fn false true false false) := by
  refine returnsInHanded_of_calls hown started hi wit ?_
  intro w tape i _ shape _ ok pre _
  obtain ⟨⟨⟨ds, gs, before, whole, _⟩, laid⟩, size⟩ := pre
  obtain ⟨_, _, _, fn1, h1, _, _, _, _, vals⟩ := ok
  cases Option.some.inj (h1.symm.trans hf)
  refine (con (w.forCall tape i) w.heap.size i.args ds gs before vals (DataW.Whole.of_heap (w' := w.forCall tape i) (by rfl) whole) (size.weights whole) (hX _ _ (by rfl) laid) shape).mono ?_
  rintro e W1 ⟨v, rfl, post⟩
  exact ChangeSpec.post_blind post
end Go.Proofs.YtlbgppijeoonjaaGreatDoor

namespace Go.Proofs.YtlbgppijeoonjaaGreatDoor
open Go.RowKit Go.ChangeShapes Go.WideShapes Go.ChangeAt Go.Deep
set_option linter.unusedVariables false

/-- A row's claim within a size, out of a contract that leans on what lies in the variables and on the world's shape. -/
theorem lift_cond {H : Type} {enc : TypeId × Value → H} {C : Checked} {os : Os} {f : FuncId} {fn : Func} {s : OpenSpec} {k : (H : Type) → List (DataW H) → Bool} (hk : s.cond = some k) {F : Stop.Interp} {X : World → Prop} (hX : ∀ w w' : World, w.heap = w'.heap → X w → X w')
    (hown : ownKnob C.prog.godebug = none) (started : os.Started) (hi : C.prog.inits.idxOf? f = none) (hf : C.prog.funcs[f]? = some fn)
    (wit : ∃ (w : World) (tape : Tape) (i : Input), w.os = os ∧ (w.forCall tape i).Shaped C.prog ∧ i.vars = [] ∧ Input.okWide C.prog (w.forCall tape i) .any w.heap.size f i ∧
      ((s.pre enc C.prog fn [] false (w.forCall tape i).memory i.args ∧ X (w.forCall tape i).memory) ∧ sizedMet enc C.prog fn s false (w.forCall tape i).memory i.args) ∧ ({} : Assume).holds C.prog (lone (Frame.enter C.prog f i.args .normal) [] (w.forCall tape i)))
    (con : ∀ (W : World) (base : Nat) (args : Array Value) (ds gs : List (DataW H)) (before : List MemPlace),
      (∀ (j : Nat) t v, fn.params[j]? = some t → args[j]? = some v → Value.okWide C.prog W .any base t v) →
      DataW.Whole enc C.prog fn.params.toList s.vars false W args.toList ds gs before → k H (ds ++ gs) = true → X W → W.ShapedOpen C.prog →
      Calls C.prog f args W fun e W' => ∃ v, e = .returned v ∧ (s.at F).post enc C.prog fn false true false false W args v W') :
    ReturnsInHanded {} C os f .any (fun w args => (s.pre enc C.prog fn [] false w args ∧ X w) ∧ sizedMet enc C.prog fn s false w args) ((s.at F).post enc C.prog fn false true false false) := by
  refine returnsInHanded_of_calls hown started hi wit ?_
  intro w tape i _ shape _ ok pre _
  obtain ⟨⟨pre1, laid⟩, size⟩ := pre
  obtain ⟨ds, gs, before, whole, _, small⟩ := (OpenSpec.pre_some hk [] false _ _).1 pre1
  obtain ⟨_, _, _, fn1, h1, _, _, _, _, vals⟩ := ok
  cases Option.some.inj (h1.symm.trans hf)
  refine (con (w.forCall tape i) w.heap.size i.args ds gs before vals (DataW.Whole.of_heap (w' := w.forCall tape i) (by rfl) whole) small (hX _ _ (by rfl) laid) shape).mono ?_
  rintro e W1 ⟨v, rfl, post⟩
  exact ChangeSpec.post_blind post
theorem wit_cond {H : Type} {enc : TypeId × Value → H} {C : Checked} {os : Os} {f : FuncId} {fn : Func} {s : OpenSpec} {k : (H : Type) → List (DataW H) → Bool} (hk : s.cond = some k) {X : World → Prop} (w0 : World) (args : Array Value) (fuel : Nat) (hos : w0.os = os)
    (hsh : (w0.forCall (fun _ _ => 0) ⟨#[], args, []⟩).Shaped C.prog) (hok : Input.okWideB C.prog (w0.forCall (fun _ _ => 0) ⟨#[], args, []⟩) f ⟨#[], args, []⟩ = true)
    {x : List (DataW H) × List (DataW H) × List MemPlace} (hx : DataW.whole enc C.prog (w0.forCall (fun _ _ => 0) ⟨#[], args, []⟩).memory fn.params.toList s.vars false args.toList fuel = some x) (hkk : k H (x.1 ++ x.2.1) = true)
    (hsz : s.bare.sizedB enc C.prog fn false (w0.forCall (fun _ _ => 0) ⟨#[], args, []⟩).memory args fuel = true) (hl : X (w0.forCall (fun _ _ => 0) ⟨#[], args, []⟩).memory) :
    ∃ (w : World) (tape : Tape) (i : Input), w.os = os ∧ (w.forCall tape i).Shaped C.prog ∧ i.vars = [] ∧ Input.okWide C.prog (w.forCall tape i) .any w.heap.size f i ∧
      ((s.pre enc C.prog fn [] false (w.forCall tape i).memory i.args ∧ X (w.forCall tape i).memory) ∧ sizedMet enc C.prog fn s false (w.forCall tape i).memory i.args) ∧ ({} : Assume).holds C.prog (lone (Frame.enter C.prog f i.args .normal) [] (w.forCall tape i)) :=
  ⟨w0, fun _ _ => 0, ⟨#[], args, []⟩, hos, hsh, (Input.okWide_of_okWideB (base := 0) hok).1, (Input.okWide_of_okWideB hok).2,
    ⟨⟨(OpenSpec.pre_some hk [] false _ _).2 ⟨x.1, x.2.1, x.2.2, DataW.Whole_of_whole hx, rfl, hkk⟩, hl⟩, sizedMet_of_sizedB hsz⟩, by
    simp only [Assume.holds]
    exact ⟨by simp, by simp, fun _ => Modest.zero, by simp, by simp⟩⟩
/-! ### Sizes -/
theorem bulk_pos {H : Type} (d : DataW H) : 1 ≤ Rows.uptoBulk d := by
  cases d with
  | lit l => cases l <;> simp [Rows.uptoBulk]
  | nil => simp [Rows.uptoBulk]
  | ptr d => simp [Rows.uptoBulk]
  | slice elems spare => simp [Rows.uptoBulk]
  | agg parts => simp [Rows.uptoBulk]
  | iface t d => simp [Rows.uptoBulk]
  | map entries => simp [Rows.uptoBulk]
  | held h => simp [Rows.uptoBulk]
theorem bulk_length {H : Type} (l : List (DataW H)) : l.length ≤ Rows.uptoBulkAll l := by
  induction l with
  | nil => simp
  | cons d l ih => have := bulk_pos d; simp only [Rows.uptoBulkAll, List.length_cons]; omega
theorem bulk_part {H : Type} {d : DataW H} {l : List (DataW H)} (h : d ∈ l) : Rows.uptoBulk d ≤ Rows.uptoBulkAll l := by
  induction l with
  | nil => cases h
  | cons x r ih =>
    simp only [Rows.uptoBulkAll]
    cases List.mem_cons.1 h with
    | inl e => subst e; omega
    | inr e => have := ih e; omega
end Go.Proofs.YtlbgppijeoonjaaGreatDoor

