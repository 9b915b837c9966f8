import Derived.Test.YtidhjajobacnaaaGreatDoorKop
import Derived.Test.YtidhjajobacnaaaGreatDoorKvd
import Derived.Test.YtidhjajobacnaaaGreatDoorKba
namespace Go.Proofs.YtidhjajobacnaaaGreatDoor
open Go.RowKit Go.ChangeShapes Go.WideShapes
set_option linter.unusedVariables false

theorem array18 {α : Type} {l : Array α} (h : l.size = 18) : ∃ c0 c1 c2 c3 c4 c5 c6 c7 c8 c9 c10 c11 c12 c13 c14 c15 c16 c17, l = #[c0, c1, c2, c3, c4, c5, c6, c7, c8, c9, c10, c11, c12, c13, c14, c15, c16, c17] := by
  obtain ⟨l⟩ := l
  obtain ⟨c0, c1, c2, c3, c4, c5, c6, c7, c8, c9, c10, c11, c12, c13, c14, c15, c16, c17, e⟩ := list18 (l := l) (by simpa using h)
  exact ⟨c0, c1, c2, c3, c4, c5, c6, c7, c8, c9, c10, c11, c12, c13, c14, c15, c16, c17, by rw [e]⟩
theorem p_Cf : Tryz.prog.cellsOf 33 = 18 := by kernel_rfl
theorem b_t : Tryz.prog.bytesOf 41 = 136 := by kernel_rfl
theorem q_t : Tryz.prog.cellsOf 41 = 8 := by kernel_rfl
theorem b_r : Tryz.prog.bytesOf 59 = 32 := by kernel_rfl
theorem q_r : Tryz.prog.cellsOf 59 = 3 := by kernel_rfl
theorem b_e : Tryz.prog.bytesOf 45 = 24 := by kernel_rfl
theorem q_e : Tryz.prog.cellsOf 45 = 3 := by kernel_rfl
theorem b_k : Tryz.prog.bytesOf 54 = 32 := by kernel_rfl
theorem q_k : Tryz.prog.cellsOf 54 = 4 := by kernel_rfl
theorem b_a : Tryz.prog.bytesOf 52 = 96 := by kernel_rfl
theorem q_a : Tryz.prog.cellsOf 52 = 9 := by kernel_rfl
theorem b_i : Tryz.prog.bytesOf 47 = 80 := by kernel_rfl
theorem q_i : Tryz.prog.cellsOf 47 = 5 := by kernel_rfl
theorem b_s : Tryz.prog.bytesOf 88 = 96 := by kernel_rfl
theorem q_s : Tryz.prog.cellsOf 88 = 10 := by kernel_rfl
set_option maxRecDepth 100000 in
theorem config_open {H : Type} {enc : TypeId × Value → H} {w : World} {spare : Nat → Bool} {held : Bool} {r : Reach} {b0 : Nat} {v : Value} {d : DataW H} {p : List MemPlace}
    (hv : Value.okWide Tryz.prog w r b0 33 v) (h : DataW.Trod enc Tryz.prog w 0 spare held 33 v d p) (hd : Sized (d.weights Tryz.prog 33)) :
    ∃ (c : Cf) (vv : Vs), v = .agg (cfC c vv) ∧ CfAt w c vv ∧ LensOK c ∧ ∀ x ∈ c.evs, x.mask < 4294967296 := by
  obtain ⟨cs, rfl, hsz⟩ := okWide_struct Tryz.underlying33 hv
  rw [p_Cf] at hsz
  obtain ⟨c0, c1, c2, c3, c4, c5, c6, c7, c8, c9, c10, c11, c12, c13, c14, c15, c16, c17, rfl⟩ := array18 hsz
  obtain ⟨fuel, hf⟩ := h
  obtain ⟨xs, n, hn, hx, hl, hlen, hfs⟩ := DataW.trod_struct Tryz.underlying33 hf
  match xs, hlen with
  | [y0, y1, y2, y3, y4, y5, y6, y7, y8, y9], _ =>
    have h0 := hfs 0 _ rfl
    have h1 := hfs 1 _ rfl
    have h2 := hfs 2 _ rfl
    have h3 := hfs 3 _ rfl
    have h4 := hfs 4 _ rfl
    have h5 := hfs 5 _ rfl
    have h6 := hfs 6 _ rfl
    have h7 := hfs 7 _ rfl
    have h8 := hfs 8 _ rfl
    have h9 := hfs 9 _ rfl
    simp [p_string, p_apiOs, p_Lstring, p_LapiTask, p_LapiResource, p_LapiEvent, p_LapiCounter, p_LapiAlarm, p_LapiIsr, p_LapiMessage, Value.cells] at h0 h1 h2 h3 h4 h5 h6 h7 h8 h9
    have hd2 : d = .agg [y0.1, y1.1, y2.1, y3.1, y4.1, y5.1, y6.1, y7.1, y8.1, y9.1] := congrArg Prod.fst hx
    rw [hd2] at hd
    obtain ⟨cpu, e0, _, _⟩ := DataW.trod_string Tryz.underlying9 h0
    obtain ⟨ys, m, _, _, _, ylen, yfs⟩ := DataW.trod_struct Tryz.underlying23 h1
    match ys, ylen with
    | [z0, z1, z2, z3, z4, z5, z6, z7, z8], _ =>
      have g0 := yfs 0 _ rfl
      have g1 := yfs 1 _ rfl
      have g2 := yfs 2 _ rfl
      have g3 := yfs 3 _ rfl
      have g4 := yfs 4 _ rfl
      have g5 := yfs 5 _ rfl
      have g6 := yfs 6 _ rfl
      have g7 := yfs 7 _ rfl
      have g8 := yfs 8 _ rfl
      simp [p_string, p_bool] at g0 g1 g2 g3 g4 g5 g6 g7 g8
      obtain ⟨osn, k0, _, _⟩ := DataW.trod_string Tryz.underlying9 g0
      obtain ⟨o1, k1, _⟩ := DataW.trod_bool Tryz.underlying4 g1
      obtain ⟨o2, k2, _⟩ := DataW.trod_bool Tryz.underlying4 g2
      obtain ⟨o3, k3, _⟩ := DataW.trod_bool Tryz.underlying4 g3
      obtain ⟨o4, k4, _⟩ := DataW.trod_bool Tryz.underlying4 g4
      obtain ⟨o5, k5, _⟩ := DataW.trod_bool Tryz.underlying4 g5
      obtain ⟨o6, k6, _⟩ := DataW.trod_bool Tryz.underlying4 g6
      obtain ⟨o7, k7, _⟩ := DataW.trod_bool Tryz.underlying4 g7
      obtain ⟨o8, k8, _⟩ := DataW.trod_bool Tryz.underlying4 g8
      simp at e0 k0 k1 k2 k3 k4 k5 k6 k7 k8
      subst e0 k0 k1 k2 k3 k4 k5 k6 k7 k8
      obtain ⟨sm, lm, rfl, rm, _⟩ := rows_open ⟨[]⟩ (by omega) Tryz.underlying24 p_string h2 one_str
      obtain ⟨st, lt, rfl, rt, wt⟩ := rows_open ⟨(⟨[], 0, false, 0, [], [], [], []⟩ : Tk)⟩ (by omega) Tryz.underlying25 q_t h3 one_tk
      have ut := wt (sized_field Tryz.underlying33 hd (j := 3) rfl rfl)
      rw [b_t] at ut
      unfold reachBytes at ut
      obtain ⟨sr, lr, rfl, rr, wr⟩ := rows_open ⟨(⟨[], 0, 0⟩ : Rs)⟩ (by omega) Tryz.underlying26 q_r h4 one_rs
      have ur := wr (sized_field Tryz.underlying33 hd (j := 4) rfl rfl)
      rw [b_r] at ur
      unfold reachBytes at ur
      obtain ⟨se, le, rfl, re, we⟩ := rows_open ⟨(⟨[], 0, false⟩ : Ev)⟩ (by omega) Tryz.underlying27 q_e h5 one_ev
      have ue := we (sized_field Tryz.underlying33 hd (j := 5) rfl rfl)
      rw [b_e] at ue
      unfold reachBytes at ue
      obtain ⟨sk, lk, rfl, rk, wk⟩ := rows_open ⟨(⟨[], 0, 0, 0⟩ : Ct)⟩ (by omega) Tryz.underlying28 q_k h6 one_ct
      have uk := wk (sized_field Tryz.underlying33 hd (j := 6) rfl rfl)
      rw [b_k] at uk
      unfold reachBytes at uk
      obtain ⟨sa, la, rfl, ra, wa⟩ := rows_open ⟨(⟨[], 0, ⟨0, 0, 0, []⟩, [], 0, 0⟩ : Al)⟩ (by omega) Tryz.underlying29 q_a h7 one_al
      have ua := wa (sized_field Tryz.underlying33 hd (j := 7) rfl rfl)
      rw [b_a] at ua
      unfold reachBytes at ua
      obtain ⟨si, li, rfl, ri, wi⟩ := rows_open ⟨(⟨[], 0, 0, [], []⟩ : Is)⟩ (by omega) Tryz.underlying30 q_i h8 one_is
      have ui := wi (sized_field Tryz.underlying33 hd (j := 8) rfl rfl)
      rw [b_i] at ui
      unfold reachBytes at ui
      obtain ⟨ss, ls, rfl, rs, ws⟩ := rows_open ⟨(⟨[], 0, 0, 0, 0, 0, ⟨0, 0, 0, []⟩⟩ : Ms)⟩ (by omega) Tryz.underlying31 q_s h9 one_ms
      have us := ws (sized_field Tryz.underlying33 hd (j := 9) rfl rfl)
      rw [b_s] at us
      unfold reachBytes at us
      refine ⟨⟨cpu.data.toList, osn.data.toList, o1, o2, o3, o4, o5, o6, o7, o8, lm, lt, lr, le, lk, la, li, ls⟩, ⟨sm, st, sr, se, sk, sa, si, ss⟩, ?_, ⟨rm, rt, rr, re.below (Below.refl _ _) (fun _ _ _ _ h => h.1), rk, ra, ri, rs⟩, ⟨by show lt.length ≤ _; omega, by show lr.length ≤ _; omega, by show le.length ≤ _; omega, by show lk.length ≤ _; omega, by show la.length ≤ _; omega, by show li.length ≤ _; omega, by show ls.length ≤ _; omega⟩, fun x hx => ?_⟩
      · simp [cfC]
      · obtain ⟨j, hj⟩ := List.getElem?_of_mem hx
        obtain ⟨_, _, _, _, hr⟩ := re.row j x hj
        obtain ⟨_, _, hb⟩ := hr 0 (by omega)
        exact hb.2
end Go.Proofs.YtidhjajobacnaaaGreatDoor

namespace Go.Proofs.YtidhjajobacnaaaGreatDoor
set_option linter.unusedVariables false

/-- All names are of a length that an int holds. -/
structure NamesOK (c : Cf) : Prop where
  p : c.cpu.length < 9223372036854775808
  o : c.osn.length < 9223372036854775808
  m : ∀ x ∈ c.modes, x.length < 9223372036854775808
  t : ∀ x ∈ c.tasks, x.name.length < 9223372036854775808
  r : ∀ x ∈ c.ress, x.name.length < 9223372036854775808
  e : ∀ x ∈ c.evs, x.name.length < 9223372036854775808
  k : ∀ x ∈ c.ctrs, x.name.length < 9223372036854775808
  a : ∀ x ∈ c.als, x.name.length < 9223372036854775808 ∧ x.ac.name.length < 9223372036854775808
  i : ∀ x ∈ c.isrs, x.name.length < 9223372036854775808
  s : ∀ x ∈ c.msgs, x.name.length < 9223372036854775808 ∧ x.ac.name.length < 9223372036854775808
end Go.Proofs.YtidhjajobacnaaaGreatDoor

namespace Go.Proofs.YtidhjajobacnaaaGreatDoor
open Go.RowKit Go.ChangeShapes Go.WideShapes
set_option linter.unusedVariables false

/-! ### A configuration that came in, opened: with the lengths of its names -/
def andP {α : Type} (P : α → Nat → Value → Prop) (N : α → Prop) (x : α) (i : Nat) (u : Value) : Prop := P x i u ∧ N x
theorem strlen (s : ByteArray) (h : s.size ≤ maxLen) : s.data.toList.length < 9223372036854775808 := by
  unfold maxLen at h
  have e : s.data.toList.length = s.size := by simp
  omega
theorem of_row {α : Type} {w : World} {k : Nat} (hk : 0 < k) {P : α → Nat → Value → Prop} {N : α → Prop} {s : Sl} {l : List α} (h : RowsAt w k (andP P N) s l) : ∀ x ∈ l, N x := fun x hx => by
  obtain ⟨j, hj⟩ := List.getElem?_of_mem hx
  obtain ⟨_, _, _, _, hr⟩ := h.row j x hj
  obtain ⟨_, _, hb⟩ := hr 0 hk
  exact hb.2
theorem bare_row {α : Type} {w : World} {k : Nat} {P : α → Nat → Value → Prop} {N : α → Prop} {s : Sl} {l : List α} (h : RowsAt w k (andP P N) s l) : RowsAt w k P s l := h.below (Below.refl _ _) (fun _ _ _ _ h => h.1)
theorem nne_str {H : Type} {enc : TypeId × Value → H} {w : World} {spare : Nat → Bool} {held : Bool} (n : Nat) (cs : List Value) (z : DataW H × List MemPlace) (hl : cs.length = 1) (h : DataW.trod enc Tryz.prog w 0 spare held n 9 cs = some z) : ∃ x : List UInt8, ∀ i, i < 1 → ∃ u, cs[i]? = some u ∧ andP strP (fun x => x.length < 9223372036854775808) x i u := by
  obtain ⟨x, rfl, _, l0⟩ := DataW.trod_string Tryz.underlying9 h
  exact ⟨x.data.toList, fun i hi => by obtain rfl : i = 0 := by omega
                                       exact ⟨_, rfl, S_eq x, strlen x l0⟩⟩
def nRs (x : Rs) : Prop := x.name.length < 9223372036854775808
def nEv (x : Ev) : Prop := x.name.length < 9223372036854775808 ∧ x.mask < 4294967296
def nCt (x : Ct) : Prop := x.name.length < 9223372036854775808
def nTk (x : Tk) : Prop := x.name.length < 9223372036854775808
def nIs (x : Is) : Prop := x.name.length < 9223372036854775808
def nAl (x : Al) : Prop := x.name.length < 9223372036854775808 ∧ x.ac.name.length < 9223372036854775808
def nMs (x : Ms) : Prop := x.name.length < 9223372036854775808 ∧ x.ac.name.length < 9223372036854775808
set_option maxRecDepth 100000 in
theorem nne_rs {H : Type} {enc : TypeId × Value → H} {w : World} {spare : Nat → Bool} {held : Bool} (fuel : Nat) (cs : List Value) (y : DataW H × List MemPlace) (hcs : cs.length = 3) (h : DataW.trod enc Tryz.prog w 0 spare held fuel 59 cs = some y) : ∃ x : Rs, ∀ i, i < 3 → ∃ u, cs[i]? = some u ∧ andP (rsP) nRs x i u := by
  obtain ⟨c0, c1, c2, rfl⟩ := list3 hcs
  obtain ⟨xs, n, hn, hx, hl, hlen, hfs⟩ := DataW.trod_struct Tryz.underlying59 h
  match xs, hlen with
  | [y0, y1, y2], _ =>
    have h0 := hfs 0 _ rfl
    have h1 := hfs 1 _ rfl
    have h2 := hfs 2 _ rfl
    simp [p_apiResourceKind, p_int, p_string] at h0 h1 h2
    obtain ⟨v0, e0, _, l0⟩ := DataW.trod_string Tryz.underlying9 h0
    obtain ⟨v1, e1, _, _⟩ := DataW.trod_int Tryz.underlying57 h1
    obtain ⟨v2, e2, _, _⟩ := DataW.trod_int Tryz.underlying3 h2
    simp at e0 e1 e2
    subst e0 e1 e2
    have hN : nRs ⟨v0.data.toList, v1, v2⟩ := strlen v0 l0
    refine ⟨⟨v0.data.toList, v1, v2⟩, fun i hi => ?_⟩
    have hi2 : i = 0 ∨ i = 1 ∨ i = 2 := by omega
    rcases hi2 with rfl | rfl | rfl
    · exact ⟨_, rfl, S_eq v0, hN⟩
    · exact ⟨_, rfl, rfl, hN⟩
    · exact ⟨_, rfl, rfl, hN⟩
set_option maxRecDepth 100000 in
theorem nne_ev {H : Type} {enc : TypeId × Value → H} {w : World} {spare : Nat → Bool} {held : Bool} (fuel : Nat) (cs : List Value) (y : DataW H × List MemPlace) (hcs : cs.length = 3) (h : DataW.trod enc Tryz.prog w 0 spare held fuel 45 cs = some y) : ∃ x : Ev, ∀ i, i < 3 → ∃ u, cs[i]? = some u ∧ andP (evP) nEv x i u := by
  obtain ⟨c0, c1, c2, rfl⟩ := list3 hcs
  obtain ⟨xs, n, hn, hx, hl, hlen, hfs⟩ := DataW.trod_struct Tryz.underlying45 h
  match xs, hlen with
  | [y0, y1, y2], _ =>
    have h0 := hfs 0 _ rfl
    have h1 := hfs 1 _ rfl
    have h2 := hfs 2 _ rfl
    simp [p_bool, p_string, p_uint32] at h0 h1 h2
    obtain ⟨v0, e0, _, l0⟩ := DataW.trod_string Tryz.underlying9 h0
    obtain ⟨v1z, e1, _, b1⟩ := DataW.trod_int Tryz.underlying43 h1
    obtain ⟨v1, rfl⟩ := Int.eq_ofNat_of_zero_le (bounds_u32 b1).1
    obtain ⟨v2, e2, _⟩ := DataW.trod_bool Tryz.underlying4 h2
    simp at e0 e1 e2
    subst e0 e1 e2
    have hbd : v1 < 4294967296 := by have := (bounds_u32 b1).2; omega
    have hN : nEv ⟨v0.data.toList, v1, v2⟩ := ⟨strlen v0 l0, hbd⟩
    refine ⟨⟨v0.data.toList, v1, v2⟩, fun i hi => ?_⟩
    have hi2 : i = 0 ∨ i = 1 ∨ i = 2 := by omega
    rcases hi2 with rfl | rfl | rfl
    · exact ⟨_, rfl, S_eq v0, hN⟩
    · exact ⟨_, rfl, rfl, hN⟩
    · exact ⟨_, rfl, rfl, hN⟩
set_option maxRecDepth 100000 in
theorem nne_ct {H : Type} {enc : TypeId × Value → H} {w : World} {spare : Nat → Bool} {held : Bool} (fuel : Nat) (cs : List Value) (y : DataW H × List MemPlace) (hcs : cs.length = 4) (h : DataW.trod enc Tryz.prog w 0 spare held fuel 54 cs = some y) : ∃ x : Ct, ∀ i, i < 4 → ∃ u, cs[i]? = some u ∧ andP (ctP) nCt x i u := by
  obtain ⟨c0, c1, c2, c3, rfl⟩ := list4 hcs
  obtain ⟨xs, n, hn, hx, hl, hlen, hfs⟩ := DataW.trod_struct Tryz.underlying54 h
  match xs, hlen with
  | [y0, y1, y2, y3], _ =>
    have h0 := hfs 0 _ rfl
    have h1 := hfs 1 _ rfl
    have h2 := hfs 2 _ rfl
    have h3 := hfs 3 _ rfl
    simp [p_string, p_uint32] at h0 h1 h2 h3
    obtain ⟨v0, e0, _, l0⟩ := DataW.trod_string Tryz.underlying9 h0
    obtain ⟨v1z, e1, _, b1⟩ := DataW.trod_int Tryz.underlying43 h1
    obtain ⟨v1, rfl⟩ := Int.eq_ofNat_of_zero_le (bounds_u32 b1).1
    obtain ⟨v2z, e2, _, b2⟩ := DataW.trod_int Tryz.underlying43 h2
    obtain ⟨v2, rfl⟩ := Int.eq_ofNat_of_zero_le (bounds_u32 b2).1
    obtain ⟨v3z, e3, _, b3⟩ := DataW.trod_int Tryz.underlying43 h3
    obtain ⟨v3, rfl⟩ := Int.eq_ofNat_of_zero_le (bounds_u32 b3).1
    simp at e0 e1 e2 e3
    subst e0 e1 e2 e3
    have hN : nCt ⟨v0.data.toList, v1, v2, v3⟩ := strlen v0 l0
    refine ⟨⟨v0.data.toList, v1, v2, v3⟩, fun i hi => ?_⟩
    have hi2 : i = 0 ∨ i = 1 ∨ i = 2 ∨ i = 3 := by omega
    rcases hi2 with rfl | rfl | rfl | rfl
    · exact ⟨_, rfl, S_eq v0, hN⟩
    · exact ⟨_, rfl, rfl, hN⟩
    · exact ⟨_, rfl, rfl, hN⟩
    · exact ⟨_, rfl, rfl, hN⟩
set_option maxRecDepth 100000 in
theorem nne_tk {H : Type} {enc : TypeId × Value → H} {w : World} {spare : Nat → Bool} {held : Bool} (fuel : Nat) (cs : List Value) (y : DataW H × List MemPlace) (hcs : cs.length = 8) (h : DataW.trod enc Tryz.prog w 0 spare held fuel 41 cs = some y) : ∃ x : Tk, ∀ i, i < 8 → ∃ u, cs[i]? = some u ∧ andP (tkP w) nTk x i u := by
  obtain ⟨c0, c1, c2, c3, c4, c5, c6, c7, rfl⟩ := list8 hcs
  obtain ⟨xs, n, hn, hx, hl, hlen, hfs⟩ := DataW.trod_struct Tryz.underlying41 h
  match xs, hlen with
  | [y0, y1, y2, y3, y4, y5, y6, y7], _ =>
    have h0 := hfs 0 _ rfl
    have h1 := hfs 1 _ rfl
    have h2 := hfs 2 _ rfl
    have h3 := hfs 3 _ rfl
    have h4 := hfs 4 _ rfl
    have h5 := hfs 5 _ rfl
    have h6 := hfs 6 _ rfl
    have h7 := hfs 7 _ rfl
    simp [p_Lint, p_bool, p_int, p_string] at h0 h1 h2 h3 h4 h5 h6 h7
    obtain ⟨v0, e0, _, l0⟩ := DataW.trod_string Tryz.underlying9 h0
    obtain ⟨v1, e1, _, _⟩ := DataW.trod_int Tryz.underlying3 h1
    obtain ⟨v2, e2, _⟩ := DataW.trod_bool Tryz.underlying4 h2
    obtain ⟨v3, e3, _, _⟩ := DataW.trod_int Tryz.underlying3 h3
    obtain ⟨v4, w4⟩ := ints_open h4
    obtain ⟨v5, w5⟩ := ints_open h5
    obtain ⟨v6, w6⟩ := ints_open h6
    obtain ⟨v7, w7⟩ := ints_open h7
    simp at e0 e1 e2 e3
    subst e0 e1 e2 e3
    have hN : nTk ⟨v0.data.toList, v1, v2, v3, v4, v5, v6, v7⟩ := strlen v0 l0
    refine ⟨⟨v0.data.toList, v1, v2, v3, v4, v5, v6, v7⟩, fun i hi => ?_⟩
    have hi2 : i = 0 ∨ i = 1 ∨ i = 2 ∨ i = 3 ∨ i = 4 ∨ i = 5 ∨ i = 6 ∨ i = 7 := by omega
    rcases hi2 with rfl | rfl | rfl | rfl | rfl | rfl | rfl | rfl
    · exact ⟨_, rfl, S_eq v0, hN⟩
    · exact ⟨_, rfl, rfl, hN⟩
    · exact ⟨_, rfl, rfl, hN⟩
    · exact ⟨_, rfl, rfl, hN⟩
    · exact ⟨_, rfl, w4, hN⟩
    · exact ⟨_, rfl, w5, hN⟩
    · exact ⟨_, rfl, w6, hN⟩
    · exact ⟨_, rfl, w7, hN⟩
set_option maxRecDepth 100000 in
theorem nne_is {H : Type} {enc : TypeId × Value → H} {w : World} {spare : Nat → Bool} {held : Bool} (fuel : Nat) (cs : List Value) (y : DataW H × List MemPlace) (hcs : cs.length = 5) (h : DataW.trod enc Tryz.prog w 0 spare held fuel 47 cs = some y) : ∃ x : Is, ∀ i, i < 5 → ∃ u, cs[i]? = some u ∧ andP (isP w) nIs x i u := by
  obtain ⟨c0, c1, c2, c3, c4, rfl⟩ := list5 hcs
  obtain ⟨xs, n, hn, hx, hl, hlen, hfs⟩ := DataW.trod_struct Tryz.underlying47 h
  match xs, hlen with
  | [y0, y1, y2, y3, y4], _ =>
    have h0 := hfs 0 _ rfl
    have h1 := hfs 1 _ rfl
    have h2 := hfs 2 _ rfl
    have h3 := hfs 3 _ rfl
    have h4 := hfs 4 _ rfl
    simp [p_Lint, p_int, p_string] at h0 h1 h2 h3 h4
    obtain ⟨v0, e0, _, l0⟩ := DataW.trod_string Tryz.underlying9 h0
    obtain ⟨v1, e1, _, _⟩ := DataW.trod_int Tryz.underlying3 h1
    obtain ⟨v2, e2, _, _⟩ := DataW.trod_int Tryz.underlying3 h2
    obtain ⟨v3, w3⟩ := ints_open h3
    obtain ⟨v4, w4⟩ := ints_open h4
    simp at e0 e1 e2
    subst e0 e1 e2
    have hN : nIs ⟨v0.data.toList, v1, v2, v3, v4⟩ := strlen v0 l0
    refine ⟨⟨v0.data.toList, v1, v2, v3, v4⟩, fun i hi => ?_⟩
    have hi2 : i = 0 ∨ i = 1 ∨ i = 2 ∨ i = 3 ∨ i = 4 := by omega
    rcases hi2 with rfl | rfl | rfl | rfl | rfl
    · exact ⟨_, rfl, S_eq v0, hN⟩
    · exact ⟨_, rfl, rfl, hN⟩
    · exact ⟨_, rfl, rfl, hN⟩
    · exact ⟨_, rfl, w3, hN⟩
    · exact ⟨_, rfl, w4, hN⟩
set_option maxRecDepth 100000 in
theorem nne_al {H : Type} {enc : TypeId × Value → H} {w : World} {spare : Nat → Bool} {held : Bool} (fuel : Nat) (cs : List Value) (y : DataW H × List MemPlace) (hcs : cs.length = 9) (h : DataW.trod enc Tryz.prog w 0 spare held fuel 52 cs = some y) : ∃ x : Al, ∀ i, i < 9 → ∃ u, cs[i]? = some u ∧ andP (alP w) nAl x i u := by
  obtain ⟨c0, c1, c2, c3, c4, c5, c6, c7, c8, rfl⟩ := list9 hcs
  obtain ⟨xs, n, hn, hx, hl, hlen, hfs⟩ := DataW.trod_struct Tryz.underlying52 h
  match xs, hlen with
  | [y0, y1, y2, y3, y4, y5], _ =>
    have h0 := hfs 0 _ rfl
    have h1 := hfs 1 _ rfl
    have h2 := hfs 2 _ rfl
    have h3 := hfs 3 _ rfl
    have h4 := hfs 4 _ rfl
    have h5 := hfs 5 _ rfl
    simp [p_Lint, p_apiAction, p_int, p_string, p_uint32] at h0 h1 h2 h3 h4 h5
    obtain ⟨v0, e0, _, l0⟩ := DataW.trod_string Tryz.underlying9 h0
    obtain ⟨v1, e1, _, _⟩ := DataW.trod_int Tryz.underlying3 h1
    obtain ⟨ys, m, _, _, _, ylen, yfs⟩ := DataW.trod_struct Tryz.underlying50 h2
    match ys, ylen with
    | [z0, z1, z2, z3], _ =>
      have g0 := yfs 0 _ rfl
      have g1 := yfs 1 _ rfl
      have g2 := yfs 2 _ rfl
      have g3 := yfs 3 _ rfl
      simp [p_apiActionKind, p_int, p_string] at g0 g1 g2 g3
      obtain ⟨akind, eg0, _, _⟩ := DataW.trod_int Tryz.underlying48 g0
      obtain ⟨atask, eg1, _, _⟩ := DataW.trod_int Tryz.underlying3 g1
      obtain ⟨aevent, eg2, _, _⟩ := DataW.trod_int Tryz.underlying3 g2
      obtain ⟨aname, eg3, _, lg3⟩ := DataW.trod_string Tryz.underlying9 g3
      obtain ⟨v3, w3⟩ := ints_open h3
      obtain ⟨v4z, e4, _, b4⟩ := DataW.trod_int Tryz.underlying43 h4
      obtain ⟨v4, rfl⟩ := Int.eq_ofNat_of_zero_le (bounds_u32 b4).1
      obtain ⟨v5z, e5, _, b5⟩ := DataW.trod_int Tryz.underlying43 h5
      obtain ⟨v5, rfl⟩ := Int.eq_ofNat_of_zero_le (bounds_u32 b5).1
      simp at e0 e1 eg0 eg1 eg2 eg3 e4 e5
      subst e0 e1 eg0 eg1 eg2 eg3 e4 e5
      have hN : nAl ⟨v0.data.toList, v1, ⟨akind, atask, aevent, aname.data.toList⟩, v3, v4, v5⟩ := ⟨strlen v0 l0, strlen aname lg3⟩
      refine ⟨⟨v0.data.toList, v1, ⟨akind, atask, aevent, aname.data.toList⟩, v3, v4, v5⟩, fun i hi => ?_⟩
      have hi2 : i = 0 ∨ i = 1 ∨ i = 2 ∨ i = 3 ∨ i = 4 ∨ i = 5 ∨ i = 6 ∨ i = 7 ∨ i = 8 := by omega
      rcases hi2 with rfl | rfl | rfl | rfl | rfl | rfl | rfl | rfl | rfl
      · exact ⟨_, rfl, S_eq v0, hN⟩
      · exact ⟨_, rfl, rfl, hN⟩
      · exact ⟨_, rfl, rfl, hN⟩
      · exact ⟨_, rfl, rfl, hN⟩
      · exact ⟨_, rfl, rfl, hN⟩
      · exact ⟨_, rfl, S_eq aname, hN⟩
      · exact ⟨_, rfl, w3, hN⟩
      · exact ⟨_, rfl, rfl, hN⟩
      · exact ⟨_, rfl, rfl, hN⟩
set_option maxRecDepth 100000 in
theorem nne_ms {H : Type} {enc : TypeId × Value → H} {w : World} {spare : Nat → Bool} {held : Bool} (fuel : Nat) (cs : List Value) (y : DataW H × List MemPlace) (hcs : cs.length = 10) (h : DataW.trod enc Tryz.prog w 0 spare held fuel 88 cs = some y) : ∃ x : Ms, ∀ i, i < 10 → ∃ u, cs[i]? = some u ∧ andP (msP) nMs x i u := by
  obtain ⟨c0, c1, c2, c3, c4, c5, c6, c7, c8, c9, rfl⟩ := list10 hcs
  obtain ⟨xs, n, hn, hx, hl, hlen, hfs⟩ := DataW.trod_struct Tryz.underlying88 h
  match xs, hlen with
  | [y0, y1, y2, y3, y4, y5, y6], _ =>
    have h0 := hfs 0 _ rfl
    have h1 := hfs 1 _ rfl
    have h2 := hfs 2 _ rfl
    have h3 := hfs 3 _ rfl
    have h4 := hfs 4 _ rfl
    have h5 := hfs 5 _ rfl
    have h6 := hfs 6 _ rfl
    simp [p_apiAction, p_apiMessageKind, p_int, p_string, p_uint64] at h0 h1 h2 h3 h4 h5 h6
    obtain ⟨v0, e0, _, l0⟩ := DataW.trod_string Tryz.underlying9 h0
    obtain ⟨v1, e1, _, _⟩ := DataW.trod_int Tryz.underlying86 h1
    obtain ⟨v2, e2, _, _⟩ := DataW.trod_int Tryz.underlying3 h2
    obtain ⟨v3, e3, _, _⟩ := DataW.trod_int Tryz.underlying3 h3
    obtain ⟨v4z, e4, _, b4⟩ := DataW.trod_int Tryz.underlying42 h4
    obtain ⟨v4, rfl⟩ := Int.eq_ofNat_of_zero_le (bounds_u64 b4).1
    obtain ⟨v5, e5, _, _⟩ := DataW.trod_int Tryz.underlying3 h5
    obtain ⟨ys, m, _, _, _, ylen, yfs⟩ := DataW.trod_struct Tryz.underlying50 h6
    match ys, ylen with
    | [z0, z1, z2, z3], _ =>
      have g0 := yfs 0 _ rfl
      have g1 := yfs 1 _ rfl
      have g2 := yfs 2 _ rfl
      have g3 := yfs 3 _ rfl
      simp [p_apiActionKind, p_int, p_string] at g0 g1 g2 g3
      obtain ⟨akind, eg0, _, _⟩ := DataW.trod_int Tryz.underlying48 g0
      obtain ⟨atask, eg1, _, _⟩ := DataW.trod_int Tryz.underlying3 g1
      obtain ⟨aevent, eg2, _, _⟩ := DataW.trod_int Tryz.underlying3 g2
      obtain ⟨aname, eg3, _, lg3⟩ := DataW.trod_string Tryz.underlying9 g3
      simp at e0 e1 e2 e3 e4 e5 eg0 eg1 eg2 eg3
      subst e0 e1 e2 e3 e4 e5 eg0 eg1 eg2 eg3
      have hN : nMs ⟨v0.data.toList, v1, v2, v3, v4, v5, ⟨akind, atask, aevent, aname.data.toList⟩⟩ := ⟨strlen v0 l0, strlen aname lg3⟩
      refine ⟨⟨v0.data.toList, v1, v2, v3, v4, v5, ⟨akind, atask, aevent, aname.data.toList⟩⟩, fun i hi => ?_⟩
      have hi2 : i = 0 ∨ i = 1 ∨ i = 2 ∨ i = 3 ∨ i = 4 ∨ i = 5 ∨ i = 6 ∨ i = 7 ∨ i = 8 ∨ i = 9 := by omega
      rcases hi2 with rfl | rfl | rfl | rfl | rfl | rfl | rfl | rfl | rfl | rfl
      · exact ⟨_, rfl, S_eq v0, hN⟩
      · exact ⟨_, rfl, rfl, hN⟩
      · exact ⟨_, rfl, rfl, hN⟩
      · exact ⟨_, rfl, rfl, hN⟩
      · exact ⟨_, rfl, rfl, hN⟩
      · exact ⟨_, rfl, rfl, hN⟩
      · exact ⟨_, rfl, rfl, hN⟩
      · exact ⟨_, rfl, rfl, hN⟩
      · exact ⟨_, rfl, rfl, hN⟩
      · exact ⟨_, rfl, S_eq aname, hN⟩
end Go.Proofs.YtidhjajobacnaaaGreatDoor

namespace Go.Proofs.YtidhjajobacnaaaGreatDoor
open Go.RowKit Go.ChangeShapes Go.WideShapes
set_option linter.unusedVariables false

set_option maxRecDepth 100000 in
theorem config_names {H : Type} {enc : TypeId × Value → H} {w : World} {spare : Nat → Bool} {held : Bool} {r : Reach} {b0 : Nat} {v : Value} {d : DataW H} {p : List MemPlace}
    (hv : Value.okWide Tryz.prog w r b0 33 v) (h : DataW.Trod enc Tryz.prog w 0 spare held 33 v d p) (hd : Sized (d.weights Tryz.prog 33)) :
    ∃ (c : Cf) (vv : Vs), v = .agg (cfC c vv) ∧ CfAt w c vv ∧ LensOK c ∧ (∀ x ∈ c.evs, x.mask < 4294967296) ∧ NamesOK c := by
  obtain ⟨cs, rfl, hsz⟩ := okWide_struct Tryz.underlying33 hv
  rw [p_Cf] at hsz
  obtain ⟨c0, c1, c2, c3, c4, c5, c6, c7, c8, c9, c10, c11, c12, c13, c14, c15, c16, c17, rfl⟩ := array18 hsz
  obtain ⟨fuel, hf⟩ := h
  obtain ⟨xs, n, hn, hx, hl, hlen, hfs⟩ := DataW.trod_struct Tryz.underlying33 hf
  match xs, hlen with
  | [y0, y1, y2, y3, y4, y5, y6, y7, y8, y9], _ =>
    have h0 := hfs 0 _ rfl
    have h1 := hfs 1 _ rfl
    have h2 := hfs 2 _ rfl
    have h3 := hfs 3 _ rfl
    have h4 := hfs 4 _ rfl
    have h5 := hfs 5 _ rfl
    have h6 := hfs 6 _ rfl
    have h7 := hfs 7 _ rfl
    have h8 := hfs 8 _ rfl
    have h9 := hfs 9 _ rfl
    simp [p_string, p_apiOs, p_Lstring, p_LapiTask, p_LapiResource, p_LapiEvent, p_LapiCounter, p_LapiAlarm, p_LapiIsr, p_LapiMessage, Value.cells] at h0 h1 h2 h3 h4 h5 h6 h7 h8 h9
    have hd2 : d = .agg [y0.1, y1.1, y2.1, y3.1, y4.1, y5.1, y6.1, y7.1, y8.1, y9.1] := congrArg Prod.fst hx
    rw [hd2] at hd
    obtain ⟨cpu, e0, _, lcpu⟩ := DataW.trod_string Tryz.underlying9 h0
    obtain ⟨ys, m, _, _, _, ylen, yfs⟩ := DataW.trod_struct Tryz.underlying23 h1
    match ys, ylen with
    | [z0, z1, z2, z3, z4, z5, z6, z7, z8], _ =>
      have g0 := yfs 0 _ rfl
      have g1 := yfs 1 _ rfl
      have g2 := yfs 2 _ rfl
      have g3 := yfs 3 _ rfl
      have g4 := yfs 4 _ rfl
      have g5 := yfs 5 _ rfl
      have g6 := yfs 6 _ rfl
      have g7 := yfs 7 _ rfl
      have g8 := yfs 8 _ rfl
      simp [p_string, p_bool] at g0 g1 g2 g3 g4 g5 g6 g7 g8
      obtain ⟨osn, k0, _, losn⟩ := DataW.trod_string Tryz.underlying9 g0
      obtain ⟨o1, k1, _⟩ := DataW.trod_bool Tryz.underlying4 g1
      obtain ⟨o2, k2, _⟩ := DataW.trod_bool Tryz.underlying4 g2
      obtain ⟨o3, k3, _⟩ := DataW.trod_bool Tryz.underlying4 g3
      obtain ⟨o4, k4, _⟩ := DataW.trod_bool Tryz.underlying4 g4
      obtain ⟨o5, k5, _⟩ := DataW.trod_bool Tryz.underlying4 g5
      obtain ⟨o6, k6, _⟩ := DataW.trod_bool Tryz.underlying4 g6
      obtain ⟨o7, k7, _⟩ := DataW.trod_bool Tryz.underlying4 g7
      obtain ⟨o8, k8, _⟩ := DataW.trod_bool Tryz.underlying4 g8
      simp at e0 k0 k1 k2 k3 k4 k5 k6 k7 k8
      subst e0 k0 k1 k2 k3 k4 k5 k6 k7 k8
      obtain ⟨sm, lm, rfl, rm, _⟩ := rows_open ⟨[]⟩ (by omega) Tryz.underlying24 p_string h2 nne_str
      obtain ⟨st, lt, rfl, rt, wt⟩ := rows_open ⟨(⟨[], 0, false, 0, [], [], [], []⟩ : Tk)⟩ (by omega) Tryz.underlying25 q_t h3 nne_tk
      have ut := wt (sized_field Tryz.underlying33 hd (j := 3) rfl rfl)
      rw [b_t] at ut
      unfold reachBytes at ut
      obtain ⟨sr, lr, rfl, rr, wr⟩ := rows_open ⟨(⟨[], 0, 0⟩ : Rs)⟩ (by omega) Tryz.underlying26 q_r h4 nne_rs
      have ur := wr (sized_field Tryz.underlying33 hd (j := 4) rfl rfl)
      rw [b_r] at ur
      unfold reachBytes at ur
      obtain ⟨se, le, rfl, re, we⟩ := rows_open ⟨(⟨[], 0, false⟩ : Ev)⟩ (by omega) Tryz.underlying27 q_e h5 nne_ev
      have ue := we (sized_field Tryz.underlying33 hd (j := 5) rfl rfl)
      rw [b_e] at ue
      unfold reachBytes at ue
      obtain ⟨sk, lk, rfl, rk, wk⟩ := rows_open ⟨(⟨[], 0, 0, 0⟩ : Ct)⟩ (by omega) Tryz.underlying28 q_k h6 nne_ct
      have uk := wk (sized_field Tryz.underlying33 hd (j := 6) rfl rfl)
      rw [b_k] at uk
      unfold reachBytes at uk
      obtain ⟨sa, la, rfl, ra, wa⟩ := rows_open ⟨(⟨[], 0, ⟨0, 0, 0, []⟩, [], 0, 0⟩ : Al)⟩ (by omega) Tryz.underlying29 q_a h7 nne_al
      have ua := wa (sized_field Tryz.underlying33 hd (j := 7) rfl rfl)
      rw [b_a] at ua
      unfold reachBytes at ua
      obtain ⟨si, li, rfl, ri, wi⟩ := rows_open ⟨(⟨[], 0, 0, [], []⟩ : Is)⟩ (by omega) Tryz.underlying30 q_i h8 nne_is
      have ui := wi (sized_field Tryz.underlying33 hd (j := 8) rfl rfl)
      rw [b_i] at ui
      unfold reachBytes at ui
      obtain ⟨ss, ls, rfl, rs, ws⟩ := rows_open ⟨(⟨[], 0, 0, 0, 0, 0, ⟨0, 0, 0, []⟩⟩ : Ms)⟩ (by omega) Tryz.underlying31 q_s h9 nne_ms
      have us := ws (sized_field Tryz.underlying33 hd (j := 9) rfl rfl)
      rw [b_s] at us
      unfold reachBytes at us
      refine ⟨⟨cpu.data.toList, osn.data.toList, o1, o2, o3, o4, o5, o6, o7, o8, lm, lt, lr, le, lk, la, li, ls⟩, ⟨sm, st, sr, se, sk, sa, si, ss⟩, ?_, ⟨bare_row rm, bare_row rt, bare_row rr, bare_row re, bare_row rk, bare_row ra, bare_row ri, bare_row rs⟩, ⟨by show lt.length ≤ _; omega, by show lr.length ≤ _; omega, by show le.length ≤ _; omega, by show lk.length ≤ _; omega, by show la.length ≤ _; omega, by show li.length ≤ _; omega, by show ls.length ≤ _; omega⟩, fun x hx => (of_row (by omega) re x hx).2, ⟨strlen cpu lcpu, strlen osn losn, of_row (by omega) rm, of_row (by omega) rt, of_row (by omega) rr, fun x hx => (of_row (by omega) re x hx).1, of_row (by omega) rk, of_row (by omega) ra, of_row (by omega) ri, of_row (by omega) rs⟩⟩
      simp [cfC]
end Go.Proofs.YtidhjajobacnaaaGreatDoor

