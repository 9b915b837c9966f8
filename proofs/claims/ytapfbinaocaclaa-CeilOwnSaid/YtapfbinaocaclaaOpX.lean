import Derived.Test.YtapfbinaocaclaaKop
import Derived.ProofKit
namespace Go.Proofs.Ytapfbinaocaclaa
open Go.RowKit Go.ChangeShapes Go.WideShapes
set_option linter.unusedVariables false

/-- A configuration's lists are not too long to be gone through. -/
structure LensOK (c : Cf) : Prop where
  t : c.tasks.length ≤ 8796093022208
  r : c.ress.length ≤ 8796093022208
  e : c.evs.length ≤ 8796093022208
  k : c.ctrs.length ≤ 8796093022208
  a : c.als.length ≤ 8796093022208
  i : c.isrs.length ≤ 8796093022208
  s : c.msgs.length ≤ 8796093022208
theorem array18 {α : Type} {l : Array α} (h : l.size = 18) : ∃ c0 c1 c2 c3 c4 c5 c6 c7 c8 c9 c10 c11 c12 c13 c14 c15 c16 c17, l = #[c0, c1, c2, c3, c4, c5, c6, c7, c8, c9, c10, c11, c12, c13, c14, c15, c16, c17] := by
  obtain ⟨l⟩ := l
  obtain ⟨c0, c1, c2, c3, c4, c5, c6, c7, c8, c9, c10, c11, c12, c13, c14, c15, c16, c17, e⟩ := list18 (l := l) (by simpa using h)
  exact ⟨c0, c1, c2, c3, c4, c5, c6, c7, c8, c9, c10, c11, c12, c13, c14, c15, c16, c17, by rw [e]⟩
theorem p_Cf : Try.prog.cellsOf 33 = 18 := by kernel_rfl
theorem b_t : Try.prog.bytesOf 47 = 136 := by kernel_rfl
theorem q_t : Try.prog.cellsOf 47 = 8 := by kernel_rfl
theorem b_r : Try.prog.bytesOf 89 = 32 := by kernel_rfl
theorem q_r : Try.prog.cellsOf 89 = 3 := by kernel_rfl
theorem b_e : Try.prog.bytesOf 124 = 24 := by kernel_rfl
theorem q_e : Try.prog.cellsOf 124 = 3 := by kernel_rfl
theorem b_k : Try.prog.bytesOf 126 = 32 := by kernel_rfl
theorem q_k : Try.prog.cellsOf 126 = 4 := by kernel_rfl
theorem b_a : Try.prog.bytesOf 131 = 96 := by kernel_rfl
theorem q_a : Try.prog.cellsOf 131 = 9 := by kernel_rfl
theorem b_i : Try.prog.bytesOf 49 = 80 := by kernel_rfl
theorem q_i : Try.prog.cellsOf 49 = 5 := by kernel_rfl
theorem b_s : Try.prog.bytesOf 135 = 96 := by kernel_rfl
theorem q_s : Try.prog.cellsOf 135 = 10 := by kernel_rfl
set_option maxRecDepth 100000 in
theorem config_open {H : Type} {enc : TypeId × Value → H} {w : World} {spare : Nat → Bool} {held : Bool} {r : Reach} {b0 : Nat} {v : Value} {d : DataW H} {p : List MemPlace}
    (hv : Value.okWide Try.prog w r b0 33 v) (h : DataW.Trod enc Try.prog w 0 spare held 33 v d p) (hd : Sized (d.weights Try.prog 33)) :
    ∃ (c : Cf) (vv : Vs), v = .agg (cfC c vv) ∧ CfAt w c vv ∧ LensOK c ∧ ∀ x ∈ c.evs, x.mask < 4294967296 := by
  obtain ⟨cs, rfl, hsz⟩ := okWide_struct Try.underlying33 hv
  rw [p_Cf] at hsz
  obtain ⟨c0, c1, c2, c3, c4, c5, c6, c7, c8, c9, c10, c11, c12, c13, c14, c15, c16, c17, rfl⟩ := array18 hsz
  obtain ⟨fuel, hf⟩ := h
  obtain ⟨xs, n, hn, hx, hl, hlen, hfs⟩ := DataW.trod_struct Try.underlying33 hf
  match xs, hlen with
  | [y0, y1, y2, y3, y4, y5, y6, y7, y8, y9], _ =>
    have h0 := hfs 0 _ rfl
    have h1 := hfs 1 _ rfl
    have h2 := hfs 2 _ rfl
    have h3 := hfs 3 _ rfl
    have h4 := hfs 4 _ rfl
    have h5 := hfs 5 _ rfl
    have h6 := hfs 6 _ rfl
    have h7 := hfs 7 _ rfl
    have h8 := hfs 8 _ rfl
    have h9 := hfs 9 _ rfl
    simp [p_string, p_apiOs, p_Lstring, p_LapiTask, p_LapiResource, p_LapiEvent, p_LapiCounter, p_LapiAlarm, p_LapiIsr, p_LapiMessage, Value.cells] at h0 h1 h2 h3 h4 h5 h6 h7 h8 h9
    have hd2 : d = .agg [y0.1, y1.1, y2.1, y3.1, y4.1, y5.1, y6.1, y7.1, y8.1, y9.1] := congrArg Prod.fst hx
    rw [hd2] at hd
    obtain ⟨cpu, e0, _, _⟩ := DataW.trod_string Try.underlying9 h0
    obtain ⟨ys, m, _, _, _, ylen, yfs⟩ := DataW.trod_struct Try.underlying23 h1
    match ys, ylen with
    | [z0, z1, z2, z3, z4, z5, z6, z7, z8], _ =>
      have g0 := yfs 0 _ rfl
      have g1 := yfs 1 _ rfl
      have g2 := yfs 2 _ rfl
      have g3 := yfs 3 _ rfl
      have g4 := yfs 4 _ rfl
      have g5 := yfs 5 _ rfl
      have g6 := yfs 6 _ rfl
      have g7 := yfs 7 _ rfl
      have g8 := yfs 8 _ rfl
      simp [p_string, p_bool] at g0 g1 g2 g3 g4 g5 g6 g7 g8
      obtain ⟨osn, k0, _, _⟩ := DataW.trod_string Try.underlying9 g0
      obtain ⟨o1, k1, _⟩ := DataW.trod_bool Try.underlying4 g1
      obtain ⟨o2, k2, _⟩ := DataW.trod_bool Try.underlying4 g2
      obtain ⟨o3, k3, _⟩ := DataW.trod_bool Try.underlying4 g3
      obtain ⟨o4, k4, _⟩ := DataW.trod_bool Try.underlying4 g4
      obtain ⟨o5, k5, _⟩ := DataW.trod_bool Try.underlying4 g5
      obtain ⟨o6, k6, _⟩ := DataW.trod_bool Try.underlying4 g6
      obtain ⟨o7, k7, _⟩ := DataW.trod_bool Try.underlying4 g7
      obtain ⟨o8, k8, _⟩ := DataW.trod_bool Try.underlying4 g8
      simp at e0 k0 k1 k2 k3 k4 k5 k6 k7 k8
      subst e0 k0 k1 k2 k3 k4 k5 k6 k7 k8
      obtain ⟨sm, lm, rfl, rm, _⟩ := rows_open ⟨[]⟩ (by omega) Try.underlying24 p_string h2 one_str
      obtain ⟨st, lt, rfl, rt, wt⟩ := rows_open ⟨(⟨[], 0, false, 0, [], [], [], []⟩ : Tk)⟩ (by omega) Try.underlying25 q_t h3 one_tk
      have ut := wt (sized_field Try.underlying33 hd (j := 3) rfl rfl)
      rw [b_t] at ut
      unfold reachBytes at ut
      obtain ⟨sr, lr, rfl, rr, wr⟩ := rows_open ⟨(⟨[], 0, 0⟩ : Rs)⟩ (by omega) Try.underlying26 q_r h4 one_rs
      have ur := wr (sized_field Try.underlying33 hd (j := 4) rfl rfl)
      rw [b_r] at ur
      unfold reachBytes at ur
      obtain ⟨se, le, rfl, re, we⟩ := rows_open ⟨(⟨[], 0, false⟩ : Ev)⟩ (by omega) Try.underlying27 q_e h5 one_ev
      have ue := we (sized_field Try.underlying33 hd (j := 5) rfl rfl)
      rw [b_e] at ue
      unfold reachBytes at ue
      obtain ⟨sk, lk, rfl, rk, wk⟩ := rows_open ⟨(⟨[], 0, 0, 0⟩ : Ct)⟩ (by omega) Try.underlying28 q_k h6 one_ct
      have uk := wk (sized_field Try.underlying33 hd (j := 6) rfl rfl)
      rw [b_k] at uk
      unfold reachBytes at uk
      obtain ⟨sa, la, rfl, ra, wa⟩ := rows_open ⟨(⟨[], 0, ⟨0, 0, 0, []⟩, [], 0, 0⟩ : Al)⟩ (by omega) Try.underlying29 q_a h7 one_al
      have ua := wa (sized_field Try.underlying33 hd (j := 7) rfl rfl)
      rw [b_a] at ua
      unfold reachBytes at ua
      obtain ⟨si, li, rfl, ri, wi⟩ := rows_open ⟨(⟨[], 0, 0, [], []⟩ : Is)⟩ (by omega) Try.underlying30 q_i h8 one_is
      have ui := wi (sized_field Try.underlying33 hd (j := 8) rfl rfl)
      rw [b_i] at ui
      unfold reachBytes at ui
      obtain ⟨ss, ls, rfl, rs, ws⟩ := rows_open ⟨(⟨[], 0, 0, 0, 0, 0, ⟨0, 0, 0, []⟩⟩ : Ms)⟩ (by omega) Try.underlying31 q_s h9 one_ms
      have us := ws (sized_field Try.underlying33 hd (j := 9) rfl rfl)
      rw [b_s] at us
      unfold reachBytes at us
      refine ⟨⟨cpu.data.toList, osn.data.toList, o1, o2, o3, o4, o5, o6, o7, o8, lm, lt, lr, le, lk, la, li, ls⟩, ⟨sm, st, sr, se, sk, sa, si, ss⟩, ?_, ⟨rm, rt, rr, re.below (Below.refl _ _) (fun _ _ _ _ h => h.1), rk, ra, ri, rs⟩, ⟨by show lt.length ≤ _; omega, by show lr.length ≤ _; omega, by show le.length ≤ _; omega, by show lk.length ≤ _; omega, by show la.length ≤ _; omega, by show li.length ≤ _; omega, by show ls.length ≤ _; omega⟩, fun x hx => ?_⟩
      · simp [cfC]
      · obtain ⟨j, hj⟩ := List.getElem?_of_mem hx
        obtain ⟨_, _, _, _, hr⟩ := re.row j x hj
        obtain ⟨_, _, hb⟩ := hr 0 (by omega)
        exact hb.2
end Go.Proofs.Ytapfbinaocaclaa

namespace Go.Proofs.Ytapfbinaocaclaa
open Go.RowKit Go.ChangeShapes Go.WideShapes
set_option linter.unusedVariables false

/-! ### A configuration that came in, opened: the lists in its lists are not too long either -/
theorem weights_all {H : Type} {P : Program} {e : TypeId} : ∀ {es : List (DataW H)} {d : DataW H}, d ∈ es → ∀ n ∈ d.weights P e, n ∈ DataW.weightsAll P e es := by
  intro es
  induction es with
  | nil => intro d hd; cases hd
  | cons x r ih =>
    intro d hd n hn
    unfold DataW.weightsAll
    rcases List.mem_cons.1 hd with rfl | hd
    · exact List.mem_append_left _ hn
    · exact List.mem_append_right _ (ih hd n hn)
theorem sized_elem {H : Type} {P : Program} {t e : TypeId} {es sp : List (DataW H)} {d : DataW H} (hu : P.underlying t = some (.slice e)) (h : Sized (DataW.weights P t (.slice es sp))) (hd : d ∈ es) : Sized (d.weights P e) := by
  unfold DataW.weights at h
  simp only [hu] at h
  exact fun n hn => h n (List.mem_cons_of_mem _ (List.mem_append_left _ (weights_all hd n hn)))
structure SizeOK (c : Cf) : Prop where
  t : c.tasks.length * 136 ≤ 140737488351232
  r : c.ress.length * 32 ≤ 140737488351232
  i : c.isrs.length * 80 ≤ 140737488351232
  tr : ∀ x ∈ c.tasks, x.res.length * 8 ≤ 140737488351232
  ir : ∀ x ∈ c.isrs, x.res.length * 8 ≤ 140737488351232
  tp : ∀ x ∈ c.tasks, -9223372036854775808 ≤ x.prio
theorem rows_open2 {α : Type} (inh : Inhabited α) {H : Type} {enc : TypeId × Value → H} {w : World} {spare : Nat → Bool} {held : Bool} {fuel : Nat} {T E : TypeId} {k : Nat} (hk : 0 < k) (hu : Try.prog.underlying T = some (.slice E)) (hc : Try.prog.cellsOf E = k) {P : α → Nat → Value → Prop} (R : α → Prop) {v : Value} {y : DataW H × List MemPlace}
    (h : DataW.trod enc Try.prog w 0 spare held fuel T [v] = some y)
    (one : ∀ n cs z, cs.length = k → DataW.trod enc Try.prog w 0 spare held n E cs = some z → ∃ x : α, (∀ i, i < k → ∃ u, cs[i]? = some u ∧ P x i u) ∧ (Sized (z.1.weights Try.prog E) → R x)) :
    ∃ (s : Sl) (l : List α), v = .slice s.a s.n s.c ∧ RowsAt w k P s l ∧ (Sized (y.1.weights Try.prog T) → l.length * Try.prog.bytesOf E ≤ reachBytes ∧ ∀ x ∈ l, R x) := by
  rcases DataW.trod_slice hu h with ⟨hcs, _⟩ | ⟨a, len, cap, elems, rest, n, hfu, hcs, hx, _, hlc, hcm, hel, hV, _, _⟩
  · simp at hcs
    subst hcs
    exact ⟨⟨none, 0, 0⟩, [], rfl, ⟨rfl, Nat.le_refl _, Nat.zero_le _, fun j x hj => by simp at hj⟩, fun _ => ⟨by simp, fun x hx => by cases hx⟩⟩
  · simp at hcs
    subst hcs
    rw [hc] at hV
    obtain ⟨L, hL⟩ := Go.Deep.choose_lt (α := α) (n := len) (p := fun i x => ∃ cs, w.cells? 0 (a.add (i * k)) k = some cs ∧ (∀ t, t < k → ∃ u, cs[t]? = some u ∧ P x t u) ∧ ∀ z, elems[i]? = some z → Sized (z.1.weights Try.prog E) → R x) (fun i hi => by
      have hVi := hV i hi
      rw [List.getElem?_eq_getElem (by omega : i < elems.length)] at hVi
      obtain ⟨cs', h1, h2⟩ := Option.bind_eq_some_iff.1 hVi
      obtain ⟨_, hcl, _⟩ := World.cells?_some h1
      obtain ⟨x, hx, hR⟩ := one n cs' _ hcl h2
      exact ⟨x, cs', h1, hx, fun z hz hs => hR (by rw [List.getElem?_eq_getElem (by omega : i < elems.length)] at hz; obtain rfl := Option.some.inj hz; exact hs)⟩)
    obtain ⟨b, off, spot⟩ := a
    refine ⟨⟨some ⟨b, off, spot⟩, len, cap⟩, (List.range len).map L, rfl, ⟨by simp, hlc, hcm, fun j x hj => ?_⟩, fun hz => ?_⟩
    · rw [List.getElem?_map] at hj
      obtain ⟨i, hi, rfl⟩ := Option.map_eq_some_iff.1 hj
      have hjl : j < len := by have := (List.getElem?_eq_some_iff.1 hi).1; simpa using this
      obtain rfl : j = i := by rw [List.getElem?_range hjl] at hi; exact Option.some.inj hi
      obtain ⟨cs, h1, h2, _⟩ := hL j hjl
      obtain ⟨_, hcl, hcc⟩ := World.cells?_some h1
      have hspot : spot = none := by
        obtain ⟨cs0, g1, g2, _⟩ := hL 0 (by omega)
        obtain ⟨_, gl, gc⟩ := World.cells?_some g1
        obtain ⟨u, gu, _⟩ := g2 0 hk
        have := World.cell?_spot ((gc 0 hk).trans gu)
        simpa [Addr.add] using this
      subst hspot
      refine ⟨b, off, rfl, ?_, fun t ht => ?_⟩
      · have := World.cells?_block h1 hk
        rw [WideShapes.add_plain] at this
        exact this
      · obtain ⟨u, hu1, hu2⟩ := h2 t ht
        have := (hcc t ht).trans hu1
        rw [WideShapes.add_plain, WideShapes.add_plain] at this
        exact ⟨u, this, hu2⟩
    · rw [hx] at hz
      refine ⟨?_, fun x hxm => ?_⟩
      · have := sized_rows hu hz
        rw [List.length_map, hel] at this
        simpa using this
      · obtain ⟨i, hi, rfl⟩ := List.mem_map.1 hxm
        have hil := List.mem_range.1 hi
        obtain ⟨_, _, _, hR⟩ := hL i hil
        have hie : i < elems.length := by omega
        refine hR elems[i] (List.getElem?_eq_getElem hie) ?_
        exact sized_elem hu hz (List.mem_map.2 ⟨_, List.getElem_mem hie, rfl⟩)
theorem b_int : Try.prog.bytesOf 3 = 8 := by kernel_rfl
theorem ints_open2 {H : Type} {enc : TypeId × Value → H} {w : World} {spare : Nat → Bool} {held : Bool} {fuel : Nat} {v : Value} {y : DataW H × List MemPlace} (h : DataW.trod enc Try.prog w 0 spare held fuel 34 [v] = some y) : ∃ l, IntsV w l v ∧ (Sized (y.1.weights Try.prog 34) → l.length * 8 ≤ reachBytes) := by
  obtain ⟨s, l, e, hr, hz⟩ := rows_open ⟨0⟩ (by omega) Try.underlying34 p_int h one_int
  exact ⟨l, ⟨s, e, hr⟩, fun h => by have := hz h; rwa [b_int] at this⟩
set_option maxRecDepth 100000 in
theorem one_tk2 {H : Type} {enc : TypeId × Value → H} {w : World} {spare : Nat → Bool} {held : Bool} (fuel : Nat) (cs : List Value) (y : DataW H × List MemPlace) (hcs : cs.length = 8) (h : DataW.trod enc Try.prog w 0 spare held fuel 47 cs = some y) : ∃ x : Tk, (∀ i, i < 8 → ∃ u, cs[i]? = some u ∧ tkP w x i u) ∧ (Sized (y.1.weights Try.prog 47) → x.res.length * 8 ≤ reachBytes ∧ -9223372036854775808 ≤ x.prio) := by
  obtain ⟨c0, c1, c2, c3, c4, c5, c6, c7, rfl⟩ := list8 hcs
  obtain ⟨xs, n, hn, hx, hl, hlen, hfs⟩ := DataW.trod_struct Try.underlying47 h
  match xs, hlen with
  | [y0, y1, y2, y3, y4, y5, y6, y7], _ =>
    have h0 := hfs 0 _ rfl
    have h1 := hfs 1 _ rfl
    have h2 := hfs 2 _ rfl
    have h3 := hfs 3 _ rfl
    have h4 := hfs 4 _ rfl
    have h5 := hfs 5 _ rfl
    have h6 := hfs 6 _ rfl
    have h7 := hfs 7 _ rfl
    simp [p_Lint, p_bool, p_int, p_string] at h0 h1 h2 h3 h4 h5 h6 h7
    obtain ⟨v0, e0, _, _⟩ := DataW.trod_string Try.underlying9 h0
    obtain ⟨v1, e1, _, f1⟩ := DataW.trod_int Try.underlying3 h1
    obtain ⟨v2, e2, _⟩ := DataW.trod_bool Try.underlying4 h2
    obtain ⟨v3, e3, _, _⟩ := DataW.trod_int Try.underlying3 h3
    obtain ⟨v4, w4⟩ := ints_open h4
    obtain ⟨v5, w5, W5⟩ := ints_open2 h5
    obtain ⟨v6, w6⟩ := ints_open h6
    obtain ⟨v7, w7⟩ := ints_open h7
    simp at e0 e1 e2 e3
    subst e0 e1 e2 e3
    refine ⟨⟨v0.data.toList, v1, v2, v3, v4, v5, v6, v7⟩, fun i hi => ?_, fun hz => ⟨W5 (by have hx2 := congrArg Prod.fst hx; rw [hx2] at hz; exact sized_field Try.underlying47 hz (j := 5) rfl rfl), (bounds_i64 f1).1⟩⟩
    have hi2 : i = 0 ∨ i = 1 ∨ i = 2 ∨ i = 3 ∨ i = 4 ∨ i = 5 ∨ i = 6 ∨ i = 7 := by omega
    rcases hi2 with rfl | rfl | rfl | rfl | rfl | rfl | rfl | rfl
    · exact ⟨_, rfl, S_eq v0⟩
    · exact ⟨_, rfl, rfl⟩
    · exact ⟨_, rfl, rfl⟩
    · exact ⟨_, rfl, rfl⟩
    · exact ⟨_, rfl, w4⟩
    · exact ⟨_, rfl, w5⟩
    · exact ⟨_, rfl, w6⟩
    · exact ⟨_, rfl, w7⟩
set_option maxRecDepth 100000 in
theorem one_is2 {H : Type} {enc : TypeId × Value → H} {w : World} {spare : Nat → Bool} {held : Bool} (fuel : Nat) (cs : List Value) (y : DataW H × List MemPlace) (hcs : cs.length = 5) (h : DataW.trod enc Try.prog w 0 spare held fuel 49 cs = some y) : ∃ x : Is, (∀ i, i < 5 → ∃ u, cs[i]? = some u ∧ isP w x i u) ∧ (Sized (y.1.weights Try.prog 49) → x.res.length * 8 ≤ reachBytes) := by
  obtain ⟨c0, c1, c2, c3, c4, rfl⟩ := list5 hcs
  obtain ⟨xs, n, hn, hx, hl, hlen, hfs⟩ := DataW.trod_struct Try.underlying49 h
  match xs, hlen with
  | [y0, y1, y2, y3, y4], _ =>
    have h0 := hfs 0 _ rfl
    have h1 := hfs 1 _ rfl
    have h2 := hfs 2 _ rfl
    have h3 := hfs 3 _ rfl
    have h4 := hfs 4 _ rfl
    simp [p_Lint, p_int, p_string] at h0 h1 h2 h3 h4
    obtain ⟨v0, e0, _, _⟩ := DataW.trod_string Try.underlying9 h0
    obtain ⟨v1, e1, _, _⟩ := DataW.trod_int Try.underlying3 h1
    obtain ⟨v2, e2, _, _⟩ := DataW.trod_int Try.underlying3 h2
    obtain ⟨v3, w3, W3⟩ := ints_open2 h3
    obtain ⟨v4, w4⟩ := ints_open h4
    simp at e0 e1 e2
    subst e0 e1 e2
    refine ⟨⟨v0.data.toList, v1, v2, v3, v4⟩, fun i hi => ?_, fun hz => W3 (by have hx2 := congrArg Prod.fst hx; rw [hx2] at hz; exact sized_field Try.underlying49 hz (j := 3) rfl rfl)⟩
    have hi2 : i = 0 ∨ i = 1 ∨ i = 2 ∨ i = 3 ∨ i = 4 := by omega
    rcases hi2 with rfl | rfl | rfl | rfl | rfl
    · exact ⟨_, rfl, S_eq v0⟩
    · exact ⟨_, rfl, rfl⟩
    · exact ⟨_, rfl, rfl⟩
    · exact ⟨_, rfl, w3⟩
    · exact ⟨_, rfl, w4⟩
set_option maxRecDepth 100000 in
theorem config_open2 {H : Type} {enc : TypeId × Value → H} {w : World} {spare : Nat → Bool} {held : Bool} {r : Reach} {b0 : Nat} {v : Value} {d : DataW H} {p : List MemPlace}
    (hv : Value.okWide Try.prog w r b0 33 v) (h : DataW.Trod enc Try.prog w 0 spare held 33 v d p) (hd : Sized (d.weights Try.prog 33)) :
    ∃ (c : Cf) (vv : Vs), v = .agg (cfC c vv) ∧ CfAt w c vv ∧ LensOK c ∧ SizeOK c := by
  obtain ⟨cs, rfl, hsz⟩ := okWide_struct Try.underlying33 hv
  rw [p_Cf] at hsz
  obtain ⟨c0, c1, c2, c3, c4, c5, c6, c7, c8, c9, c10, c11, c12, c13, c14, c15, c16, c17, rfl⟩ := array18 hsz
  obtain ⟨fuel, hf⟩ := h
  obtain ⟨xs, n, hn, hx, hl, hlen, hfs⟩ := DataW.trod_struct Try.underlying33 hf
  match xs, hlen with
  | [y0, y1, y2, y3, y4, y5, y6, y7, y8, y9], _ =>
    have h0 := hfs 0 _ rfl
    have h1 := hfs 1 _ rfl
    have h2 := hfs 2 _ rfl
    have h3 := hfs 3 _ rfl
    have h4 := hfs 4 _ rfl
    have h5 := hfs 5 _ rfl
    have h6 := hfs 6 _ rfl
    have h7 := hfs 7 _ rfl
    have h8 := hfs 8 _ rfl
    have h9 := hfs 9 _ rfl
    simp [p_string, p_apiOs, p_Lstring, p_LapiTask, p_LapiResource, p_LapiEvent, p_LapiCounter, p_LapiAlarm, p_LapiIsr, p_LapiMessage, Value.cells] at h0 h1 h2 h3 h4 h5 h6 h7 h8 h9
    have hd2 : d = .agg [y0.1, y1.1, y2.1, y3.1, y4.1, y5.1, y6.1, y7.1, y8.1, y9.1] := congrArg Prod.fst hx
    rw [hd2] at hd
    obtain ⟨cpu, e0, _, _⟩ := DataW.trod_string Try.underlying9 h0
    obtain ⟨ys, m, _, _, _, ylen, yfs⟩ := DataW.trod_struct Try.underlying23 h1
    match ys, ylen with
    | [z0, z1, z2, z3, z4, z5, z6, z7, z8], _ =>
      have g0 := yfs 0 _ rfl
      have g1 := yfs 1 _ rfl
      have g2 := yfs 2 _ rfl
      have g3 := yfs 3 _ rfl
      have g4 := yfs 4 _ rfl
      have g5 := yfs 5 _ rfl
      have g6 := yfs 6 _ rfl
      have g7 := yfs 7 _ rfl
      have g8 := yfs 8 _ rfl
      simp [p_string, p_bool] at g0 g1 g2 g3 g4 g5 g6 g7 g8
      obtain ⟨osn, k0, _, _⟩ := DataW.trod_string Try.underlying9 g0
      obtain ⟨o1, k1, _⟩ := DataW.trod_bool Try.underlying4 g1
      obtain ⟨o2, k2, _⟩ := DataW.trod_bool Try.underlying4 g2
      obtain ⟨o3, k3, _⟩ := DataW.trod_bool Try.underlying4 g3
      obtain ⟨o4, k4, _⟩ := DataW.trod_bool Try.underlying4 g4
      obtain ⟨o5, k5, _⟩ := DataW.trod_bool Try.underlying4 g5
      obtain ⟨o6, k6, _⟩ := DataW.trod_bool Try.underlying4 g6
      obtain ⟨o7, k7, _⟩ := DataW.trod_bool Try.underlying4 g7
      obtain ⟨o8, k8, _⟩ := DataW.trod_bool Try.underlying4 g8
      simp at e0 k0 k1 k2 k3 k4 k5 k6 k7 k8
      subst e0 k0 k1 k2 k3 k4 k5 k6 k7 k8
      obtain ⟨sm, lm, rfl, rm, _⟩ := rows_open ⟨[]⟩ (by omega) Try.underlying24 p_string h2 one_str
      obtain ⟨st, lt, rfl, rt, wt⟩ := rows_open2 ⟨(⟨[], 0, false, 0, [], [], [], []⟩ : Tk)⟩ (by omega) Try.underlying25 q_t (fun x => x.res.length * 8 ≤ reachBytes ∧ -9223372036854775808 ≤ x.prio) h3 one_tk2
      obtain ⟨ut, utt⟩ := wt (sized_field Try.underlying33 hd (j := 3) rfl rfl)
      rw [b_t] at ut
      unfold reachBytes at ut
      obtain ⟨sr, lr, rfl, rr, wr⟩ := rows_open ⟨(⟨[], 0, 0⟩ : Rs)⟩ (by omega) Try.underlying26 q_r h4 one_rs
      have ur := wr (sized_field Try.underlying33 hd (j := 4) rfl rfl)
      rw [b_r] at ur
      unfold reachBytes at ur
      obtain ⟨se, le, rfl, re, we⟩ := rows_open ⟨(⟨[], 0, false⟩ : Ev)⟩ (by omega) Try.underlying27 q_e h5 one_ev
      have ue := we (sized_field Try.underlying33 hd (j := 5) rfl rfl)
      rw [b_e] at ue
      unfold reachBytes at ue
      obtain ⟨sk, lk, rfl, rk, wk⟩ := rows_open ⟨(⟨[], 0, 0, 0⟩ : Ct)⟩ (by omega) Try.underlying28 q_k h6 one_ct
      have uk := wk (sized_field Try.underlying33 hd (j := 6) rfl rfl)
      rw [b_k] at uk
      unfold reachBytes at uk
      obtain ⟨sa, la, rfl, ra, wa⟩ := rows_open ⟨(⟨[], 0, ⟨0, 0, 0, []⟩, [], 0, 0⟩ : Al)⟩ (by omega) Try.underlying29 q_a h7 one_al
      have ua := wa (sized_field Try.underlying33 hd (j := 7) rfl rfl)
      rw [b_a] at ua
      unfold reachBytes at ua
      obtain ⟨si, li, rfl, ri, wi⟩ := rows_open2 ⟨(⟨[], 0, 0, [], []⟩ : Is)⟩ (by omega) Try.underlying30 q_i (fun x => x.res.length * 8 ≤ reachBytes) h8 one_is2
      obtain ⟨ui, uii⟩ := wi (sized_field Try.underlying33 hd (j := 8) rfl rfl)
      rw [b_i] at ui
      unfold reachBytes at ui
      obtain ⟨ss, ls, rfl, rs, ws⟩ := rows_open ⟨(⟨[], 0, 0, 0, 0, 0, ⟨0, 0, 0, []⟩⟩ : Ms)⟩ (by omega) Try.underlying31 q_s h9 one_ms
      have us := ws (sized_field Try.underlying33 hd (j := 9) rfl rfl)
      rw [b_s] at us
      unfold reachBytes at us
      refine ⟨⟨cpu.data.toList, osn.data.toList, o1, o2, o3, o4, o5, o6, o7, o8, lm, lt, lr, le, lk, la, li, ls⟩, ⟨sm, st, sr, se, sk, sa, si, ss⟩, ?_, ⟨rm, rt, rr, re.below (Below.refl _ _) (fun _ _ _ _ h => h.1), rk, ra, ri, rs⟩, ⟨by show lt.length ≤ _; omega, by show lr.length ≤ _; omega, by show le.length ≤ _; omega, by show lk.length ≤ _; omega, by show la.length ≤ _; omega, by show li.length ≤ _; omega, by show ls.length ≤ _; omega⟩, ⟨by show lt.length * 136 ≤ _; omega, by show lr.length * 32 ≤ _; omega, by show li.length * 80 ≤ _; omega, fun x hx => by have := (utt x hx).1; unfold reachBytes at this; omega, fun x hx => by have := uii x hx; unfold reachBytes at this; omega, fun x hx => (utt x hx).2⟩⟩
      simp [cfC]
end Go.Proofs.Ytapfbinaocaclaa

