import Derived.Test.YtnmknnkpkkefoaaGreatDoorRows
import Derived.Test.YtnmknnkpkkefoaaGreatDoorAlv
import Derived.ProofKit
import Derived.OpenShut
import Derived.LaidMore
import Derived.LaidSub
import Derived.Lay
import Derived.LaidHandle
import Derived.Shelf.Vars
import Derived.Stop.Joined
import Derived.Stop.LaidTwo
import Derived.LaidLaws
namespace Go.Proofs.YtnmknnkpkkefoaaGreatDoor
open Go.RowKit Go.ChangeShapes Go.WideShapes Go.ChangeAt
set_option linter.unusedVariables false

abbrev laidT : List (String × DataW Unit) := Rows.tokenScansRow.laid
theorem star_err : "*" ++ "errors.errorString" = "*errors.errorString" := by decide
theorem row_err (u : TypeId) (h : Tryz.prog.typeName? 3 u = some "*errors.errorString") : u = 192 :=
  typeName_ptr_named (nm := "errors.errorString") (by rw [star_err]; kernel_rfl) (by kernel_rfl) (by decide) u (by rw [star_err]; exact h)
abbrev senD (x : List UInt8) : DataW Unit := .iface "*errors.errorString" (.ptr (.agg [.lit (.string x)]))
/-- An error of the package: where it lies. -/
structure ErrP (W : World) (g : Nat) (a : Addr) : Prop where
  cell : W.cell? ⟨g, 0, none⟩ = some (.iface 192 (.pointer (some a)))
  lies : ∃ c t, W.heap[a.block]? = some (.cells c t (0, 0))
theorem ErrP.uniq {W : World} {g : Nat} {a b : Addr} (h : ErrP W g a) (h' : ErrP W g b) : a = b := by
  have := h.cell.symm.trans h'.cell
  simpa using this
theorem err_pair {W : World} (h : laidMetH Tryz.prog laidT W) (n0 n1 : String) (x0 x1 : List UInt8) (g0 g1 : Nat)
    (e : (laidT.filter fun x => x.1 == n0 || x.1 == n1) = [(n0, senD x0), (n1, senD x1)])
    (hg0 : Tryz.prog.globalNamed n0 = some g0) (ht0 : (Tryz.prog.globals[g0]?).map (·.type) = some 38) (hg1 : Tryz.prog.globalNamed n1 = some g1) (ht1 : (Tryz.prog.globals[g1]?).map (·.type) = some 38) :
    ∃ a0 a1, ErrP W g0 a0 ∧ ErrP W g1 a1 ∧ a0 ≠ a1 := by
  have h1 := h.filter (fun x => x.1 == n0 || x.1 == n1)
  rw [e, MakeChecks.laidMetH_plain _ _ _ (by rfl)] at h1
  obtain ⟨a0, a1, s0, s1, c0, c1, t0, t1, v0, v1, _, _, _, _, _, _, hne, l0, l1⟩ := laid_sentinels2 h1 hg0 ht0 hg1 ht1 Tryz.underlying38 row_err Tryz.underlying192 Tryz.underlying194 rfl rfl Tryz.underlying9 (by kernel_rfl) (by kernel_rfl)
  exact ⟨a0, a1, ⟨by simpa using World.var?_cell hg0 v0 0, c0, t0, l0⟩, ⟨by simpa using World.var?_cell hg1 v1 0, c1, t1, l1⟩, hne⟩
theorem pair_20_23 {W : World} (h : laidMetH Tryz.prog laidT W) : ∃ a0 a1, ErrP W 6 a0 ∧ ErrP W 1 a1 ∧ a0 ≠ a1 :=
  err_pair h "tappet/token.errByte" "tappet/token.errComment" _ _ _ _ rfl (by kernel_rfl) (by kernel_rfl) (by kernel_rfl) (by kernel_rfl)
theorem pair_20_24 {W : World} (h : laidMetH Tryz.prog laidT W) : ∃ a0 a1, ErrP W 6 a0 ∧ ErrP W 0 a1 ∧ a0 ≠ a1 :=
  err_pair h "tappet/token.errByte" "tappet/token.errLong" _ _ _ _ rfl (by kernel_rfl) (by kernel_rfl) (by kernel_rfl) (by kernel_rfl)
theorem pair_20_21 {W : World} (h : laidMetH Tryz.prog laidT W) : ∃ a0 a1, ErrP W 6 a0 ∧ ErrP W 3 a1 ∧ a0 ≠ a1 :=
  err_pair h "tappet/token.errByte" "tappet/token.errNumber" _ _ _ _ rfl (by kernel_rfl) (by kernel_rfl) (by kernel_rfl) (by kernel_rfl)
theorem pair_20_22 {W : World} (h : laidMetH Tryz.prog laidT W) : ∃ a0 a1, ErrP W 6 a0 ∧ ErrP W 4 a1 ∧ a0 ≠ a1 :=
  err_pair h "tappet/token.errByte" "tappet/token.errString" _ _ _ _ rfl (by kernel_rfl) (by kernel_rfl) (by kernel_rfl) (by kernel_rfl)
theorem pair_23_24 {W : World} (h : laidMetH Tryz.prog laidT W) : ∃ a0 a1, ErrP W 1 a0 ∧ ErrP W 0 a1 ∧ a0 ≠ a1 :=
  err_pair h "tappet/token.errComment" "tappet/token.errLong" _ _ _ _ rfl (by kernel_rfl) (by kernel_rfl) (by kernel_rfl) (by kernel_rfl)
theorem pair_23_21 {W : World} (h : laidMetH Tryz.prog laidT W) : ∃ a0 a1, ErrP W 1 a0 ∧ ErrP W 3 a1 ∧ a0 ≠ a1 :=
  err_pair h "tappet/token.errComment" "tappet/token.errNumber" _ _ _ _ rfl (by kernel_rfl) (by kernel_rfl) (by kernel_rfl) (by kernel_rfl)
theorem pair_23_22 {W : World} (h : laidMetH Tryz.prog laidT W) : ∃ a0 a1, ErrP W 1 a0 ∧ ErrP W 4 a1 ∧ a0 ≠ a1 :=
  err_pair h "tappet/token.errComment" "tappet/token.errString" _ _ _ _ rfl (by kernel_rfl) (by kernel_rfl) (by kernel_rfl) (by kernel_rfl)
theorem pair_24_21 {W : World} (h : laidMetH Tryz.prog laidT W) : ∃ a0 a1, ErrP W 0 a0 ∧ ErrP W 3 a1 ∧ a0 ≠ a1 :=
  err_pair h "tappet/token.errLong" "tappet/token.errNumber" _ _ _ _ rfl (by kernel_rfl) (by kernel_rfl) (by kernel_rfl) (by kernel_rfl)
theorem pair_24_22 {W : World} (h : laidMetH Tryz.prog laidT W) : ∃ a0 a1, ErrP W 0 a0 ∧ ErrP W 4 a1 ∧ a0 ≠ a1 :=
  err_pair h "tappet/token.errLong" "tappet/token.errString" _ _ _ _ rfl (by kernel_rfl) (by kernel_rfl) (by kernel_rfl) (by kernel_rfl)
theorem pair_21_22 {W : World} (h : laidMetH Tryz.prog laidT W) : ∃ a0 a1, ErrP W 3 a0 ∧ ErrP W 4 a1 ∧ a0 ≠ a1 :=
  err_pair h "tappet/token.errNumber" "tappet/token.errString" _ _ _ _ rfl (by kernel_rfl) (by kernel_rfl) (by kernel_rfl) (by kernel_rfl)
theorem pair_std {W : World} (h : laidMetH Tryz.prog laidT W) : ∃ a0 a1, ErrP W 13 a0 ∧ ErrP W 12 a1 ∧ a0 ≠ a1 :=
  err_pair h "strconv.ErrRange" "strconv.ErrSyntax" _ _ _ _ rfl (by kernel_rfl) (by kernel_rfl) (by kernel_rfl) (by kernel_rfl)
theorem pow_tab : (Rows.laid_internal_strconv_uint64pow10 : DataW Unit) = Lib.tabData .u64 Lib.pow10Tab := by rfl
theorem pow_of {W : World} (h : laidMetH Tryz.prog laidT W) : PowIs W := by
  have h1 := h.filter (fun x => x.1 == "internal/strconv.uint64pow10")
  have e : (laidT.filter fun x => x.1 == "internal/strconv.uint64pow10") = [("internal/strconv.uint64pow10", Lib.tabData .u64 Lib.pow10Tab)] := by rw [← pow_tab]; rfl
  rw [e, MakeChecks.laidMetH_plain _ _ _ (by rfl)] at h1
  exact Lib.tabIs_of_head (g := 9) (by kernel_rfl) (by kernel_rfl) Tryz.underlying177 Tryz.underlying93 (by kernel_rfl) (by kernel_rfl) h1
def bruZ : List Int := [0, 1, 56, 2, 57, 49, 28, 3, 61, 58, 42, 50, 38, 29, 17, 4, 62, 47, 59, 36, 45, 43, 51, 22, 53, 39, 33, 30, 24, 18, 12, 5, 63, 55, 48, 27, 60, 41, 37, 16, 46, 35, 44, 21, 52, 32, 23, 11, 54, 26, 40, 15, 34, 20, 31, 10, 25, 14, 19, 9, 13, 8, 7, 6]
theorem bru_tab : (Rows.laid_math_bits_deBruijn64tab : DataW Unit) = Lib.tabData .u8 bruZ := by rfl
theorem bru_of {W : World} (h : laidMetH Tryz.prog laidT W) : W.cell? ⟨15, 15, none⟩ = some (.int .u8 4) := by
  have h1 := h.filter (fun x => x.1 == "math/bits.deBruijn64tab")
  have e : (laidT.filter fun x => x.1 == "math/bits.deBruijn64tab") = [("math/bits.deBruijn64tab", Lib.tabData .u8 bruZ)] := by rw [← bru_tab]; rfl
  rw [e, MakeChecks.laidMetH_plain _ _ _ (by rfl)] at h1
  have := Lib.tabIs_of_head (g := 15) (by kernel_rfl) (by kernel_rfl) Tryz.underlying200 Tryz.underlying5 (by kernel_rfl) (by kernel_rfl) h1
  exact this.cell (by kernel_rfl) 15 (by decide)
theorem et_one : ((List.range Tryz.prog.types.size).filter fun t => Tryz.prog.rowNamed t [101, 114, 114, 111, 114]) = [38] := by kernel_rfl
theorem et_of {W : World} (h : laidMetH Tryz.prog laidT W) : W.cell? ⟨2, 0, none⟩ = some (.iface 110 (.agg #[.pointer (some ⟨16, 38, none⟩)])) := by
  have h1 := h.filter (fun x => x.1 == "errors.errorType")
  have e : (laidT.filter fun x => x.1 == "errors.errorType") = [("errors.errorType", Rows.laid_errors_errorType)] := by rfl
  rw [e] at h1
  have h' : laidMet Tryz.prog [] W ∧ handlesMet Tryz.prog [("errors.errorType", Rows.laid_errors_errorType)] W := h1
  obtain ⟨name, u, ty, e1, e2, e3, e4, e5⟩ := h'.2 _ (List.mem_singleton.2 rfl)
  have en : name = [101, 114, 114, 111, 114] := (Option.some.inj e1).symm
  subst en
  obtain rfl := Option.some.inj ((show (Tryz.prog.cutTypes.find? (·.1 == "internal/reflectlite.rtype")).map (·.2) = some 110 by kernel_rfl).symm.trans e2)
  have hm : ty ∈ (List.range Tryz.prog.types.size).filter fun t => Tryz.prog.rowNamed t [101, 114, 114, 111, 114] := List.mem_filter.2 ⟨List.mem_range.2 e3, e4⟩
  rw [et_one] at hm
  obtain rfl := List.mem_singleton.1 hm
  have hh : typeHandle Tryz.prog 38 = .pointer (some ⟨16, 38, none⟩) := by kernel_rfl
  rw [hh] at e5
  simpa using World.var?_cell (show Tryz.prog.globalNamed "errors.errorType" = some 2 by kernel_rfl) e5 0
theorem max_of {W : World} (h : W.ShapedOpen Tryz.prog) : ∃ m, W.cell? ⟨7, 0, none⟩ = some (.int .i64 m) :=
  cell_of_shapedOpen_int (zero := #[.int .i64 0]) (t := 3) h (of_decide_eq_true (by kernel_rfl)) (by kernel_rfl) rfl (by kernel_rfl) (by kernel_rfl) Tryz.underlying3
end Go.Proofs.YtnmknnkpkkefoaaGreatDoor
