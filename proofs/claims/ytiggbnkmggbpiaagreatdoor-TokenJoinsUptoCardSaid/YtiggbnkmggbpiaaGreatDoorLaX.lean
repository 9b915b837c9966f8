import Derived.Test.YtiggbnkmggbpiaaGreatDoorRows
import Derived.Test.YtiggbnkmggbpiaaGreatDoorAlv
import Derived.ProofKit
import Derived.OpenShut
import Derived.LaidMore
import Derived.LaidSub
import Derived.Lay
import Derived.LaidHandle
import Derived.Shelf.Vars
import Derived.Stop.Joined
import Derived.Stop.LaidTwo
import Derived.LaidLaws
import Derived.ChangeSame
namespace Go.Proofs.YtiggbnkmggbpiaaGreatDoor
open Go.RowKit Go.ChangeShapes Go.WideShapes Go.ChangeAt
set_option linter.unusedVariables false

abbrev laidT : List (String × DataW Unit) := Rows.tokenSpotsRow.laid
theorem star_err : "*" ++ "errors.errorString" = "*errors.errorString" := by decide
theorem row_err (u : TypeId) (h : Tryz.prog.typeName? 3 u = some "*errors.errorString") : u = 196 :=
  typeName_ptr_named (nm := "errors.errorString") (by rw [star_err]; kernel_rfl) (by kernel_rfl) (by decide) u (by rw [star_err]; exact h)
abbrev senD (x : List UInt8) : DataW Unit := .iface "*errors.errorString" (.ptr (.agg [.lit (.string x)]))
/-- An error of the package: where it lies. -/
structure ErrP (W : World) (g : Nat) (a : Addr) : Prop where
  cell : W.cell? ⟨g, 0, none⟩ = some (.iface 196 (.pointer (some a)))
  lies : ∃ c t, W.heap[a.block]? = some (.cells c t (0, 0))
theorem ErrP.uniq {W : World} {g : Nat} {a b : Addr} (h : ErrP W g a) (h' : ErrP W g b) : a = b := by
  have := h.cell.symm.trans h'.cell
  simpa using this
theorem err_pair {W : World} (h : laidMetH Tryz.prog laidT W) (n0 n1 : String) (x0 x1 : List UInt8) (g0 g1 : Nat)
    (e : (laidT.filter fun x => x.1 == n0 || x.1 == n1) = [(n0, senD x0), (n1, senD x1)])
    (hg0 : Tryz.prog.globalNamed n0 = some g0) (ht0 : (Tryz.prog.globals[g0]?).map (·.type) = some 52) (hg1 : Tryz.prog.globalNamed n1 = some g1) (ht1 : (Tryz.prog.globals[g1]?).map (·.type) = some 52) :
    ∃ a0 a1, ErrP W g0 a0 ∧ ErrP W g1 a1 ∧ a0 ≠ a1 := by
  have h1 := h.filter (fun x => x.1 == n0 || x.1 == n1)
  rw [e, MakeChecks.laidMetH_plain _ _ _ (by rfl)] at h1
  obtain ⟨a0, a1, s0, s1, c0, c1, t0, t1, v0, v1, _, _, _, _, _, _, hne, l0, l1⟩ := laid_sentinels2 h1 hg0 ht0 hg1 ht1 Tryz.underlying52 row_err Tryz.underlying196 Tryz.underlying198 rfl rfl Tryz.underlying9 (by kernel_rfl) (by kernel_rfl)
  exact ⟨a0, a1, ⟨by simpa using World.var?_cell hg0 v0 0, c0, t0, l0⟩, ⟨by simpa using World.var?_cell hg1 v1 0, c1, t1, l1⟩, hne⟩
theorem pair_20_23 {W : World} (h : laidMetH Tryz.prog laidT W) : ∃ a0 a1, ErrP W 7 a0 ∧ ErrP W 2 a1 ∧ a0 ≠ a1 :=
  err_pair h "tappet/token.errByte" "tappet/token.errComment" _ _ _ _ rfl (by kernel_rfl) (by kernel_rfl) (by kernel_rfl) (by kernel_rfl)
theorem pair_20_24 {W : World} (h : laidMetH Tryz.prog laidT W) : ∃ a0 a1, ErrP W 7 a0 ∧ ErrP W 0 a1 ∧ a0 ≠ a1 :=
  err_pair h "tappet/token.errByte" "tappet/token.errLong" _ _ _ _ rfl (by kernel_rfl) (by kernel_rfl) (by kernel_rfl) (by kernel_rfl)
theorem pair_20_21 {W : World} (h : laidMetH Tryz.prog laidT W) : ∃ a0 a1, ErrP W 7 a0 ∧ ErrP W 4 a1 ∧ a0 ≠ a1 :=
  err_pair h "tappet/token.errByte" "tappet/token.errNumber" _ _ _ _ rfl (by kernel_rfl) (by kernel_rfl) (by kernel_rfl) (by kernel_rfl)
theorem pair_20_22 {W : World} (h : laidMetH Tryz.prog laidT W) : ∃ a0 a1, ErrP W 7 a0 ∧ ErrP W 5 a1 ∧ a0 ≠ a1 :=
  err_pair h "tappet/token.errByte" "tappet/token.errString" _ _ _ _ rfl (by kernel_rfl) (by kernel_rfl) (by kernel_rfl) (by kernel_rfl)
theorem pair_23_24 {W : World} (h : laidMetH Tryz.prog laidT W) : ∃ a0 a1, ErrP W 2 a0 ∧ ErrP W 0 a1 ∧ a0 ≠ a1 :=
  err_pair h "tappet/token.errComment" "tappet/token.errLong" _ _ _ _ rfl (by kernel_rfl) (by kernel_rfl) (by kernel_rfl) (by kernel_rfl)
theorem pair_23_21 {W : World} (h : laidMetH Tryz.prog laidT W) : ∃ a0 a1, ErrP W 2 a0 ∧ ErrP W 4 a1 ∧ a0 ≠ a1 :=
  err_pair h "tappet/token.errComment" "tappet/token.errNumber" _ _ _ _ rfl (by kernel_rfl) (by kernel_rfl) (by kernel_rfl) (by kernel_rfl)
theorem pair_23_22 {W : World} (h : laidMetH Tryz.prog laidT W) : ∃ a0 a1, ErrP W 2 a0 ∧ ErrP W 5 a1 ∧ a0 ≠ a1 :=
  err_pair h "tappet/token.errComment" "tappet/token.errString" _ _ _ _ rfl (by kernel_rfl) (by kernel_rfl) (by kernel_rfl) (by kernel_rfl)
theorem pair_24_21 {W : World} (h : laidMetH Tryz.prog laidT W) : ∃ a0 a1, ErrP W 0 a0 ∧ ErrP W 4 a1 ∧ a0 ≠ a1 :=
  err_pair h "tappet/token.errLong" "tappet/token.errNumber" _ _ _ _ rfl (by kernel_rfl) (by kernel_rfl) (by kernel_rfl) (by kernel_rfl)
theorem pair_24_22 {W : World} (h : laidMetH Tryz.prog laidT W) : ∃ a0 a1, ErrP W 0 a0 ∧ ErrP W 5 a1 ∧ a0 ≠ a1 :=
  err_pair h "tappet/token.errLong" "tappet/token.errString" _ _ _ _ rfl (by kernel_rfl) (by kernel_rfl) (by kernel_rfl) (by kernel_rfl)
theorem pair_21_22 {W : World} (h : laidMetH Tryz.prog laidT W) : ∃ a0 a1, ErrP W 4 a0 ∧ ErrP W 5 a1 ∧ a0 ≠ a1 :=
  err_pair h "tappet/token.errNumber" "tappet/token.errString" _ _ _ _ rfl (by kernel_rfl) (by kernel_rfl) (by kernel_rfl) (by kernel_rfl)
theorem pair_std {W : World} (h : laidMetH Tryz.prog laidT W) : ∃ a0 a1, ErrP W 15 a0 ∧ ErrP W 14 a1 ∧ a0 ≠ a1 :=
  err_pair h "strconv.ErrRange" "strconv.ErrSyntax" _ _ _ _ rfl (by kernel_rfl) (by kernel_rfl) (by kernel_rfl) (by kernel_rfl)
theorem pow_tab : (Rows.laid_internal_strconv_uint64pow10 : DataW Unit) = Lib.tabData .u64 Lib.pow10Tab := by rfl
theorem pow_of {W : World} (h : laidMetH Tryz.prog laidT W) : PowIs W := by
  have h1 := h.filter (fun x => x.1 == "internal/strconv.uint64pow10")
  have e : (laidT.filter fun x => x.1 == "internal/strconv.uint64pow10") = [("internal/strconv.uint64pow10", Lib.tabData .u64 Lib.pow10Tab)] := by rw [← pow_tab]; rfl
  rw [e, MakeChecks.laidMetH_plain _ _ _ (by rfl)] at h1
  exact Lib.tabIs_of_head (g := 9) (by kernel_rfl) (by kernel_rfl) Tryz.underlying167 Tryz.underlying79 (by kernel_rfl) (by kernel_rfl) h1
def bruZ : List Int := [0, 1, 56, 2, 57, 49, 28, 3, 61, 58, 42, 50, 38, 29, 17, 4, 62, 47, 59, 36, 45, 43, 51, 22, 53, 39, 33, 30, 24, 18, 12, 5, 63, 55, 48, 27, 60, 41, 37, 16, 46, 35, 44, 21, 52, 32, 23, 11, 54, 26, 40, 15, 34, 20, 31, 10, 25, 14, 19, 9, 13, 8, 7, 6]
theorem bru_tab : (Rows.laid_math_bits_deBruijn64tab : DataW Unit) = Lib.tabData .u8 bruZ := by rfl
theorem bru_of {W : World} (h : laidMetH Tryz.prog laidT W) : W.cell? ⟨13, 15, none⟩ = some (.int .u8 4) := by
  have h1 := h.filter (fun x => x.1 == "math/bits.deBruijn64tab")
  have e : (laidT.filter fun x => x.1 == "math/bits.deBruijn64tab") = [("math/bits.deBruijn64tab", Lib.tabData .u8 bruZ)] := by rw [← bru_tab]; rfl
  rw [e, MakeChecks.laidMetH_plain _ _ _ (by rfl)] at h1
  have := Lib.tabIs_of_head (g := 13) (by kernel_rfl) (by kernel_rfl) Tryz.underlying192 Tryz.underlying5 (by kernel_rfl) (by kernel_rfl) h1
  exact this.cell (by kernel_rfl) 15 (by decide)
theorem et_one : ((List.range Tryz.prog.types.size).filter fun t => Tryz.prog.rowNamed t [101, 114, 114, 111, 114]) = [52] := by kernel_rfl
theorem et_of {W : World} (h : laidMetH Tryz.prog laidT W) : W.cell? ⟨3, 0, none⟩ = some (.iface 117 (.agg #[.pointer (some ⟨16, 52, none⟩)])) := by
  have h1 := h.filter (fun x => x.1 == "errors.errorType")
  have e : (laidT.filter fun x => x.1 == "errors.errorType") = [("errors.errorType", Rows.laid_errors_errorType)] := by rfl
  rw [e] at h1
  have h' : laidMet Tryz.prog [] W ∧ handlesMet Tryz.prog [("errors.errorType", Rows.laid_errors_errorType)] W := h1
  obtain ⟨name, u, ty, e1, e2, e3, e4, e5⟩ := h'.2 _ (List.mem_singleton.2 rfl)
  have en : name = [101, 114, 114, 111, 114] := (Option.some.inj e1).symm
  subst en
  obtain rfl := Option.some.inj ((show (Tryz.prog.cutTypes.find? (·.1 == "internal/reflectlite.rtype")).map (·.2) = some 117 by kernel_rfl).symm.trans e2)
  have hm : ty ∈ (List.range Tryz.prog.types.size).filter fun t => Tryz.prog.rowNamed t [101, 114, 114, 111, 114] := List.mem_filter.2 ⟨List.mem_range.2 e3, e4⟩
  rw [et_one] at hm
  obtain rfl := List.mem_singleton.1 hm
  have hh : typeHandle Tryz.prog 52 = .pointer (some ⟨16, 52, none⟩) := by kernel_rfl
  rw [hh] at e5
  simpa using World.var?_cell (show Tryz.prog.globalNamed "errors.errorType" = some 3 by kernel_rfl) e5 0
theorem max_of {W : World} (h : W.ShapedOpen Tryz.prog) : ∃ m, W.cell? ⟨6, 0, none⟩ = some (.int .i64 m) :=
  cell_of_shapedOpen_int (zero := #[.int .i64 0]) (t := 3) h (of_decide_eq_true (by kernel_rfl)) (by kernel_rfl) rfl (by kernel_rfl) (by kernel_rfl) Tryz.underlying3
end Go.Proofs.YtiggbnkmggbpiaaGreatDoor
namespace Go.Proofs.YtiggbnkmggbpiaaGreatDoor
open Go.RowKit Go.ChangeShapes Go.WideShapes Go.ChangeAt
set_option linter.unusedVariables false

def marksZ : List (Int × Int) := [(123, 4), (125, 5), (61, 6), (59, 7), (58, 8)]
theorem marks_dat : (Rows.laid_tappet_token_marks : DataW Unit) = .agg (marksZ.map fun z => .agg [.lit (.int .u8 z.1), .lit (.int .i64 z.2)]) := by rfl
theorem marks_of {W : World} (h : laidMetH Tryz.prog laidT W) (i : Nat) (hi : i < 5) : W.cell? ⟨1, i * 2, none⟩ = some (.int .u8 (marksZ.getD i (0, 0)).1) ∧ W.cell? ⟨1, i * 2 + 1, none⟩ = some (.int .i64 (marksZ.getD i (0, 0)).2) := by
  have h1 := h.filter (fun x => x.1 == "tappet/token.marks")
  have e : (laidT.filter fun x => x.1 == "tappet/token.marks") = [("tappet/token.marks", .agg (marksZ.map fun z => .agg [.lit (.int .u8 z.1), .lit (.int .i64 z.2)]))] := by rw [← marks_dat]; rfl
  rw [e, MakeChecks.laidMetH_plain _ _ _ (by rfl)] at h1
  obtain ⟨ps, ⟨g, t, cs, fuel, p, q, hg, ht, hv, hd, _, _⟩, _⟩ := h1
  obtain rfl := Option.some.inj ((show Tryz.prog.globalNamed "tappet/token.marks" = some 1 by kernel_rfl).symm.trans hg)
  obtain rfl := Option.some.inj ((show (Tryz.prog.globals[1]?).map (·.type) = some 83 by kernel_rfl).symm.trans ht)
  obtain ⟨xs, m, _, ex, _, hl, hel⟩ := DataW.trod_array Tryz.underlying83 hd
  have c2 : Tryz.prog.cellsOf 82 = 2 := by kernel_rfl
  have c5 : Tryz.prog.cellsOf 5 = 1 := by kernel_rfl
  have c33 : Tryz.prog.cellsOf 33 = 1 := by kernel_rfl
  have hE := hel i hi
  rw [c2, List.getElem?_eq_getElem (by omega)] at hE
  obtain ⟨y0, y1, n, e1, _, h0, h1⟩ := trod_struct2 Tryz.underlying82 hE
  simp only [c5, c33] at h0 h1
  obtain ⟨z0, a0, b0, _⟩ := DataW.trod_int Tryz.underlying5 h0
  obtain ⟨z1, a1, b1, _⟩ := DataW.trod_int Tryz.underlying33 h1
  have e3 : (xs.map (·.1)) = marksZ.map fun z => (.agg [.lit (.int .u8 z.1), .lit (.int .i64 z.2)] : DataW Unit) := (DataW.agg.inj (Prod.mk.inj ex).1).symm
  have hlen : marksZ.length = 5 := rfl
  have e4 : (xs.map (·.1))[i]? = (marksZ.map fun z => (.agg [.lit (.int .u8 z.1), .lit (.int .i64 z.2)] : DataW Unit))[i]? := by rw [e3]
  rw [List.getElem?_map, List.getElem?_map, List.getElem?_eq_getElem (by omega : i < xs.length), List.getElem?_eq_getElem (by omega : i < marksZ.length), e1, b0, b1] at e4
  simp only [Option.map_some, Option.some.injEq, DataW.agg.injEq, List.cons.injEq, DataW.lit.injEq, Lit.int.injEq, true_and, and_true] at e4
  have hget : marksZ.getD i (0, 0) = marksZ[i] := by rw [List.getD, List.getElem?_eq_getElem (by omega : i < marksZ.length)]; rfl
  have q0 : z0 = (marksZ.getD i (0, 0)).1 := by rw [hget]; exact e4.1
  have q1 : z1 = (marksZ.getD i (0, 0)).2 := by rw [hget]; exact e4.2
  rw [← q0, ← q1, World.var?_cell hg hv, World.var?_cell hg hv]
  constructor
  · have := congrArg (·[0]?) a0
    simpa [List.getElem?_take, List.getElem?_drop] using this
  · have := congrArg (·[0]?) a1
    simpa [List.getElem?_take, List.getElem?_drop] using this
/-- All that the package's functions ask of the world. -/
structure EnvW (p : Nat → Addr) (W : World) : Prop where
  e : Env W.heap.size p W
  f : EnvF W.heap.size p W
  t : EnvT W
theorem env_of {W : World} (h : laidMetH Tryz.prog laidT W) (hs : W.ShapedOpen Tryz.prog) : ∃ p, EnvW p W := by
  obtain ⟨a20, a23, E20, E23, n2023⟩ := pair_20_23 h
  obtain ⟨a21, a22, E21, E22, n2122⟩ := pair_21_22 h
  obtain ⟨x0, a24, F0, E24, n2024⟩ := pair_20_24 h
  obtain rfl := E20.uniq F0
  have n2021 : a20 ≠ a21 := by
    obtain ⟨x0, x1, F0, F1, hn⟩ := pair_20_21 h
    rw [E20.uniq F0, E21.uniq F1]; exact hn
  have n2022 : a20 ≠ a22 := by
    obtain ⟨x0, x1, F0, F1, hn⟩ := pair_20_22 h
    rw [E20.uniq F0, E22.uniq F1]; exact hn
  have n2324 : a23 ≠ a24 := by
    obtain ⟨x0, x1, F0, F1, hn⟩ := pair_23_24 h
    rw [E23.uniq F0, E24.uniq F1]; exact hn
  have n2321 : a23 ≠ a21 := by
    obtain ⟨x0, x1, F0, F1, hn⟩ := pair_23_21 h
    rw [E23.uniq F0, E21.uniq F1]; exact hn
  have n2322 : a23 ≠ a22 := by
    obtain ⟨x0, x1, F0, F1, hn⟩ := pair_23_22 h
    rw [E23.uniq F0, E22.uniq F1]; exact hn
  have n2421 : a24 ≠ a21 := by
    obtain ⟨x0, x1, F0, F1, hn⟩ := pair_24_21 h
    rw [E24.uniq F0, E21.uniq F1]; exact hn
  have n2422 : a24 ≠ a22 := by
    obtain ⟨x0, x1, F0, F1, hn⟩ := pair_24_22 h
    rw [E24.uniq F0, E22.uniq F1]; exact hn
  obtain ⟨sr, ss, ER, ES, _⟩ := pair_std h
  have m0 := marks_of h 0 (by decide)
  have m1 := marks_of h 1 (by decide)
  have m2 := marks_of h 2 (by decide)
  have m3 := marks_of h 3 (by decide)
  have m4 := marks_of h 4 (by decide)
  have hlt : ∀ {a : Addr} {g : Nat}, ErrP W g a → a.block < W.heap.size := fun hE => by
    obtain ⟨c, t, hh⟩ := hE.lies
    exact heap_lt hh
  have h16 : 16 ≤ W.heap.size := by
    have := ER.cell
    unfold World.cell? at this
    rcases Nat.lt_or_ge 15 W.heap.size with hl | hl
    · omega
    · rw [Array.getElem?_eq_none hl] at this; cases this
  refine ⟨fun c => if c = 21 then a21 else if c = 22 then a22 else if c = 23 then a23 else if c = 24 then a24 else a20, ⟨Nat.le_refl _, h16, E24.cell, E23.cell, E22.cell, E21.cell, E20.cell, max_of hs, ⟨_, _, ES.cell⟩, ⟨_, _, ER.cell⟩, m0.1, m0.2, m1.1, m1.2, m2.1, m2.2, m3.1, m3.2, m4.1, m4.2, fun c => ?_, fun c d h1 h2 h3 h4 he => ?_⟩, ⟨et_of h, fun c => ?_⟩, ⟨pow_of h, bru_of h, h16⟩⟩
  · split
    · exact hlt E21
    · split
      · exact hlt E22
      · split
        · exact hlt E23
        · split
          · exact hlt E24
          · exact hlt E20
  · have hc : c = 20 ∨ c = 21 ∨ c = 22 ∨ c = 23 ∨ c = 24 := by omega
    have hd : d = 20 ∨ d = 21 ∨ d = 22 ∨ d = 23 ∨ d = 24 := by omega
    rcases hc with rfl | rfl | rfl | rfl | rfl <;> rcases hd with rfl | rfl | rfl | rfl | rfl <;> first
      | rfl
      | (exfalso
         simp at he
         first
          | exact n2023 he
          | exact n2023 he.symm
          | exact n2024 he
          | exact n2024 he.symm
          | exact n2021 he
          | exact n2021 he.symm
          | exact n2022 he
          | exact n2022 he.symm
          | exact n2324 he
          | exact n2324 he.symm
          | exact n2321 he
          | exact n2321 he.symm
          | exact n2322 he
          | exact n2322 he.symm
          | exact n2421 he
          | exact n2421 he.symm
          | exact n2422 he
          | exact n2422 he.symm
          | exact n2122 he
          | exact n2122 he.symm)
  · split
    · exact E21.lies
    · split
      · exact E22.lies
      · split
        · exact E23.lies
        · split
          · exact E24.lies
          · exact E20.lies
end Go.Proofs.YtiggbnkmggbpiaaGreatDoor
