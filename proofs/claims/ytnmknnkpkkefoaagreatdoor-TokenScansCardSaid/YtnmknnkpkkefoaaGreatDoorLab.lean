import Derived.Test.YtnmknnkpkkefoaaGreatDoorLai
import Derived.ChangeSame
namespace Go.Proofs.YtnmknnkpkkefoaaGreatDoor
open Go.RowKit Go.ChangeShapes Go.WideShapes Go.ChangeAt
set_option linter.unusedVariables false

def marksZ : List (Int × Int) := [(123, 4), (125, 5), (61, 6), (59, 7), (58, 8)]
theorem marks_dat : (Rows.laid_tappet_token_marks : DataW Unit) = .agg (marksZ.map fun z => .agg [.lit (.int .u8 z.1), .lit (.int .i64 z.2)]) := by rfl
theorem marks_of {W : World} (h : laidMetH Tryz.prog laidT W) (i : Nat) (hi : i < 5) : W.cell? ⟨5, i * 2, none⟩ = some (.int .u8 (marksZ.getD i (0, 0)).1) ∧ W.cell? ⟨5, i * 2 + 1, none⟩ = some (.int .i64 (marksZ.getD i (0, 0)).2) := by
  have h1 := h.filter (fun x => x.1 == "tappet/token.marks")
  have e : (laidT.filter fun x => x.1 == "tappet/token.marks") = [("tappet/token.marks", .agg (marksZ.map fun z => .agg [.lit (.int .u8 z.1), .lit (.int .i64 z.2)]))] := by rw [← marks_dat]; rfl
  rw [e, MakeChecks.laidMetH_plain _ _ _ (by rfl)] at h1
  obtain ⟨ps, ⟨g, t, cs, fuel, p, q, hg, ht, hv, hd, _, _⟩, _⟩ := h1
  obtain rfl := Option.some.inj ((show Tryz.prog.globalNamed "tappet/token.marks" = some 5 by kernel_rfl).symm.trans hg)
  obtain rfl := Option.some.inj ((show (Tryz.prog.globals[5]?).map (·.type) = some 108 by kernel_rfl).symm.trans ht)
  obtain ⟨xs, m, _, ex, _, hl, hel⟩ := DataW.trod_array Tryz.underlying108 hd
  have c2 : Tryz.prog.cellsOf 107 = 2 := by kernel_rfl
  have c5 : Tryz.prog.cellsOf 5 = 1 := by kernel_rfl
  have c33 : Tryz.prog.cellsOf 31 = 1 := by kernel_rfl
  have hE := hel i hi
  rw [c2, List.getElem?_eq_getElem (by omega)] at hE
  obtain ⟨y0, y1, n, e1, _, h0, h1⟩ := trod_struct2 Tryz.underlying107 hE
  simp only [c5, c33] at h0 h1
  obtain ⟨z0, a0, b0, _⟩ := DataW.trod_int Tryz.underlying5 h0
  obtain ⟨z1, a1, b1, _⟩ := DataW.trod_int Tryz.underlying31 h1
  have e3 : (xs.map (·.1)) = marksZ.map fun z => (.agg [.lit (.int .u8 z.1), .lit (.int .i64 z.2)] : DataW Unit) := (DataW.agg.inj (Prod.mk.inj ex).1).symm
  have hlen : marksZ.length = 5 := rfl
  have e4 : (xs.map (·.1))[i]? = (marksZ.map fun z => (.agg [.lit (.int .u8 z.1), .lit (.int .i64 z.2)] : DataW Unit))[i]? := by rw [e3]
  rw [List.getElem?_map, List.getElem?_map, List.getElem?_eq_getElem (by omega : i < xs.length), List.getElem?_eq_getElem (by omega : i < marksZ.length), e1, b0, b1] at e4
  simp only [Option.map_some, Option.some.injEq, DataW.agg.injEq, List.cons.injEq, DataW.lit.injEq, Lit.int.injEq, true_and, and_true] at e4
  have hget : marksZ.getD i (0, 0) = marksZ[i] := by rw [List.getD, List.getElem?_eq_getElem (by omega : i < marksZ.length)]; rfl
  have q0 : z0 = (marksZ.getD i (0, 0)).1 := by rw [hget]; exact e4.1
  have q1 : z1 = (marksZ.getD i (0, 0)).2 := by rw [hget]; exact e4.2
  rw [← q0, ← q1, World.var?_cell hg hv, World.var?_cell hg hv]
  constructor
  · have := congrArg (·[0]?) a0
    simpa [List.getElem?_take, List.getElem?_drop] using this
  · have := congrArg (·[0]?) a1
    simpa [List.getElem?_take, List.getElem?_drop] using this
/-- All that the package's functions ask of the world. -/
structure EnvW (p : Nat → Addr) (W : World) : Prop where
  e : Env W.heap.size p W
  f : EnvF W.heap.size p W
  t : EnvT W
theorem env_of {W : World} (h : laidMetH Tryz.prog laidT W) (hs : W.ShapedOpen Tryz.prog) : ∃ p, EnvW p W := by
  obtain ⟨a20, a23, E20, E23, n2023⟩ := pair_20_23 h
  obtain ⟨a21, a22, E21, E22, n2122⟩ := pair_21_22 h
  obtain ⟨x0, a24, F0, E24, n2024⟩ := pair_20_24 h
  obtain rfl := E20.uniq F0
  have n2021 : a20 ≠ a21 := by
    obtain ⟨x0, x1, F0, F1, hn⟩ := pair_20_21 h
    rw [E20.uniq F0, E21.uniq F1]; exact hn
  have n2022 : a20 ≠ a22 := by
    obtain ⟨x0, x1, F0, F1, hn⟩ := pair_20_22 h
    rw [E20.uniq F0, E22.uniq F1]; exact hn
  have n2324 : a23 ≠ a24 := by
    obtain ⟨x0, x1, F0, F1, hn⟩ := pair_23_24 h
    rw [E23.uniq F0, E24.uniq F1]; exact hn
  have n2321 : a23 ≠ a21 := by
    obtain ⟨x0, x1, F0, F1, hn⟩ := pair_23_21 h
    rw [E23.uniq F0, E21.uniq F1]; exact hn
  have n2322 : a23 ≠ a22 := by
    obtain ⟨x0, x1, F0, F1, hn⟩ := pair_23_22 h
    rw [E23.uniq F0, E22.uniq F1]; exact hn
  have n2421 : a24 ≠ a21 := by
    obtain ⟨x0, x1, F0, F1, hn⟩ := pair_24_21 h
    rw [E24.uniq F0, E21.uniq F1]; exact hn
  have n2422 : a24 ≠ a22 := by
    obtain ⟨x0, x1, F0, F1, hn⟩ := pair_24_22 h
    rw [E24.uniq F0, E22.uniq F1]; exact hn
  obtain ⟨sr, ss, ER, ES, _⟩ := pair_std h
  have m0 := marks_of h 0 (by decide)
  have m1 := marks_of h 1 (by decide)
  have m2 := marks_of h 2 (by decide)
  have m3 := marks_of h 3 (by decide)
  have m4 := marks_of h 4 (by decide)
  have hlt : ∀ {a : Addr} {g : Nat}, ErrP W g a → a.block < W.heap.size := fun hE => by
    obtain ⟨c, t, hh⟩ := hE.lies
    exact heap_lt hh
  have h16 : 16 ≤ W.heap.size := by
    obtain ⟨cs, hh, _, _⟩ := hs.1 15 (Array.replicate 64 (.int .u8 0)) 200 (of_decide_eq_true (by kernel_rfl)) (by kernel_rfl)
    have := heap_lt hh
    omega
  refine ⟨fun c => if c = 21 then a21 else if c = 22 then a22 else if c = 23 then a23 else if c = 24 then a24 else a20, ⟨Nat.le_refl _, h16, E24.cell, E23.cell, E22.cell, E21.cell, E20.cell, max_of hs, ⟨_, _, ES.cell⟩, ⟨_, _, ER.cell⟩, m0.1, m0.2, m1.1, m1.2, m2.1, m2.2, m3.1, m3.2, m4.1, m4.2, fun c => ?_, fun c d h1 h2 h3 h4 he => ?_⟩, ⟨et_of h, fun c => ?_⟩, ⟨pow_of h, bru_of h, h16⟩⟩
  · split
    · exact hlt E21
    · split
      · exact hlt E22
      · split
        · exact hlt E23
        · split
          · exact hlt E24
          · exact hlt E20
  · have hc : c = 20 ∨ c = 21 ∨ c = 22 ∨ c = 23 ∨ c = 24 := by omega
    have hd : d = 20 ∨ d = 21 ∨ d = 22 ∨ d = 23 ∨ d = 24 := by omega
    rcases hc with rfl | rfl | rfl | rfl | rfl <;> rcases hd with rfl | rfl | rfl | rfl | rfl <;> first
      | rfl
      | (exfalso
         simp at he
         first
          | exact n2023 he
          | exact n2023 he.symm
          | exact n2024 he
          | exact n2024 he.symm
          | exact n2021 he
          | exact n2021 he.symm
          | exact n2022 he
          | exact n2022 he.symm
          | exact n2324 he
          | exact n2324 he.symm
          | exact n2321 he
          | exact n2321 he.symm
          | exact n2322 he
          | exact n2322 he.symm
          | exact n2421 he
          | exact n2421 he.symm
          | exact n2422 he
          | exact n2422 he.symm
          | exact n2122 he
          | exact n2122 he.symm)
  · split
    · exact E21.lies
    · split
      · exact E22.lies
      · split
        · exact E23.lies
        · split
          · exact E24.lies
          · exact E20.lies
end Go.Proofs.YtnmknnkpkkefoaaGreatDoor
