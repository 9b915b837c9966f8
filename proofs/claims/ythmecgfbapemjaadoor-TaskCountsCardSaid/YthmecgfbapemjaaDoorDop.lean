import Derived.Test.YthmecgfbapemjaaDoorDh
import Derived.OpenShut
import Derived.Deep.Strs
import Derived.SizedLaws
import Derived.ChangeOld
namespace Go.Proofs.YthmecgfbapemjaaDoor
open Go.RowKit Go.ChangeShapes Go.WideShapes
set_option linter.unusedVariables false

/-! ### Rows that came in -/
structure Sl where
  a : Option Addr
  n : Nat
  c : Nat
structure RowsAt {α : Type} (w : World) (k : Nat) (P : α → Nat → Value → Prop) (s : Sl) (l : List α) : Prop where
  n : s.n = l.length
  c : s.n ≤ s.c
  m : s.c ≤ maxLen
  nz : s.a = none → s.c = 0
  row : ∀ (j : Nat) (x : α), l[j]? = some x → ∃ g off, s.a = some ⟨g, off, none⟩ ∧ g < w.heap.size ∧ ∀ i, i < k → ∃ u, w.cell? ⟨g, off + j * k + i, none⟩ = some u ∧ P x i u
def intP (x : Int) (_ : Nat) (u : Value) : Prop := u = I x ∧ (Lit.int .i64 x).wf = true
def Sized (l : List Nat) : Prop := ∀ n, n ∈ l → n ≤ reachBytes
theorem sized_of_all {l : List Nat} (h : l.all (· ≤ reachBytes) = true) : Sized l := fun n hn => by simpa using List.all_eq_true.1 h n hn
theorem sized_rows {H : Type} {P : Program} {t e : TypeId} {es sp : List (DataW H)} (hu : P.underlying t = some (.slice e)) (h : Sized (DataW.weights P t (.slice es sp))) : es.length * P.bytesOf e ≤ reachBytes := by
  unfold DataW.weights at h
  simp only [hu] at h
  exact Nat.le_trans (Nat.mul_le_mul_right _ (Nat.le_add_right _ _)) (h _ (List.mem_cons_self ..))
theorem sized_field {H : Type} {P : Program} {t : TypeId} {fs : Array Field} {parts : List (DataW H)} (hu : P.underlying t = some (.struct fs)) (h : Sized (DataW.weights P t (.agg parts))) {j : Nat} {u : TypeId} {d : DataW H} (hj : (fs.toList.map (·.type))[j]? = some u) (hd : parts[j]? = some d) : Sized (d.weights P u) := by
  unfold DataW.weights at h
  simp only [hu] at h
  exact fun n hn => h n (DataW.weights_mem_each hj hd n hn)
theorem rows_open {α : Type} (inh : Inhabited α) {H : Type} {enc : TypeId × Value → H} {w : World} {spare : Nat → Bool} {held : Bool} {fuel : Nat} {T E : TypeId} {k : Nat} (hk : 0 < k) (hu : Tryd.prog.underlying T = some (.slice E)) (hc : Tryd.prog.cellsOf E = k) {P : α → Nat → Value → Prop} {v : Value} {y : DataW H × List MemPlace}
    (h : DataW.trod enc Tryd.prog w 0 spare held fuel T [v] = some y)
    (one : ∀ n cs z, cs.length = k → DataW.trod enc Tryd.prog w 0 spare held n E cs = some z → ∃ x : α, ∀ i, i < k → ∃ u, cs[i]? = some u ∧ P x i u) :
    ∃ (s : Sl) (l : List α), v = .slice s.a s.n s.c ∧ RowsAt w k P s l ∧ (Sized (y.1.weights Tryd.prog T) → l.length * Tryd.prog.bytesOf E ≤ reachBytes) := by
  rcases DataW.trod_slice hu h with ⟨hcs, _⟩ | ⟨a, len, cap, elems, rest, n, hfu, hcs, hx, _, hlc, hcm, hel, hV, _, _⟩
  · simp at hcs
    subst hcs
    exact ⟨⟨none, 0, 0⟩, [], rfl, ⟨rfl, Nat.le_refl _, Nat.zero_le _, fun _ => rfl, fun j x hj => by simp at hj⟩, fun _ => by simp⟩
  · simp at hcs
    subst hcs
    rw [hc] at hV
    obtain ⟨L, hL⟩ := Go.Deep.choose_lt (α := α) (n := len) (p := fun i x => ∃ cs, w.cells? 0 (a.add (i * k)) k = some cs ∧ ∀ t, t < k → ∃ u, cs[t]? = some u ∧ P x t u) (fun i hi => by
      have hVi := hV i hi
      rw [List.getElem?_eq_getElem (by omega : i < elems.length)] at hVi
      obtain ⟨cs', h1, h2⟩ := Option.bind_eq_some_iff.1 hVi
      obtain ⟨_, hcl, _⟩ := World.cells?_some h1
      obtain ⟨x, hx⟩ := one n cs' _ hcl h2
      exact ⟨x, cs', h1, hx⟩)
    obtain ⟨b, off, spot⟩ := a
    refine ⟨⟨some ⟨b, off, spot⟩, len, cap⟩, (List.range len).map L, rfl, ⟨by simp, hlc, hcm, fun e => (by cases e), fun j x hj => ?_⟩, fun hz => ?_⟩
    · rw [List.getElem?_map] at hj
      obtain ⟨i, hi, rfl⟩ := Option.map_eq_some_iff.1 hj
      have hjl : j < len := by have := (List.getElem?_eq_some_iff.1 hi).1; simpa using this
      obtain rfl : j = i := by rw [List.getElem?_range hjl] at hi; exact Option.some.inj hi
      obtain ⟨cs, h1, h2⟩ := hL j hjl
      obtain ⟨_, hcl, hcc⟩ := World.cells?_some h1
      have hspot : spot = none := by
        obtain ⟨cs0, g1, g2⟩ := hL 0 (by omega)
        obtain ⟨_, gl, gc⟩ := World.cells?_some g1
        obtain ⟨u, gu, _⟩ := g2 0 hk
        have := World.cell?_spot ((gc 0 hk).trans gu)
        simpa [Addr.add] using this
      subst hspot
      refine ⟨b, off, rfl, ?_, fun t ht => ?_⟩
      · have := World.cells?_block h1 hk
        rw [WideShapes.add_plain] at this
        exact this
      · obtain ⟨u, hu1, hu2⟩ := h2 t ht
        have := (hcc t ht).trans hu1
        rw [WideShapes.add_plain, WideShapes.add_plain] at this
        exact ⟨u, this, hu2⟩
    · rw [hx] at hz
      have := sized_rows hu hz
      rw [List.length_map, hel] at this
      simpa using this

theorem p_int : Tryd.prog.cellsOf 3 = 1 := by kernel_rfl
theorem one_int {H : Type} {enc : TypeId × Value → H} {w : World} {spare : Nat → Bool} {held : Bool} (n : Nat) (cs : List Value) (z : DataW H × List MemPlace) (hl : cs.length = 1) (h : DataW.trod enc Tryd.prog w 0 spare held n 3 cs = some z) : ∃ x : Int, ∀ i, i < 1 → ∃ u, cs[i]? = some u ∧ intP x i u := by
  obtain ⟨x, rfl, _, hw⟩ := DataW.trod_int Tryd.underlying3 h
  exact ⟨x, fun i hi => by obtain rfl : i = 0 := by omega
                           exact ⟨_, rfl, rfl, hw⟩⟩
theorem RowsAt.cell {α : Type} {w W : World} {k : Nat} {P : α → Nat → Value → Prop} {a : Option Addr} {n c : Nat} {l : List α} (h : RowsAt w k P ⟨a, n, c⟩ l) (hb : Below w.heap.size w W) {j : Nat} {x : α} (hj : l[j]? = some x) : ∃ g off, a = some ⟨g, off, none⟩ ∧ ∀ i, i < k → ∃ u, W.cell? ⟨g, off + j * k + i, none⟩ = some u ∧ P x i u := by
  obtain ⟨g, off, e, hg, hr⟩ := h.row j x hj
  refine ⟨g, off, e, fun i hi => ?_⟩
  obtain ⟨u, hu, hp⟩ := hr i hi
  exact ⟨u, (World.cell?_of_block (hb.block g hg)).trans hu, hp⟩
theorem p_bool : Tryd.prog.cellsOf 4 = 1 := by kernel_rfl
theorem p_act : Tryd.prog.cellsOf 48 = 2 := by kernel_rfl
theorem p_row : Tryd.prog.cellsOf 27 = 2 := by kernel_rfl
abbrev Cl := Int × Int
def actP (x : Cl) (i : Nat) (u : Value) : Prop := (i = 0 → u = I x.1) ∧ (i = 1 → u = I x.2) ∧ (Lit.int .i64 x.2).wf = true
def rowP (x : Rw) (i : Nat) (u : Value) : Prop := (i = 0 → u = I x.1) ∧ (i = 1 → u = .bool x.2) ∧ (Lit.int .i64 x.1).wf = true
theorem list2 {α : Type} {l : List α} (h : l.length = 2) : ∃ c0 c1, l = [c0, c1] := by
  match l, h with
  | [c0, c1], _ => exact ⟨c0, c1, rfl⟩
theorem one_act {H : Type} {enc : TypeId × Value → H} {w : World} {spare : Nat → Bool} {held : Bool} (n : Nat) (cs : List Value) (z : DataW H × List MemPlace) (hl : cs.length = 2) (h : DataW.trod enc Tryd.prog w 0 spare held n 48 cs = some z) : ∃ x : Cl, ∀ i, i < 2 → ∃ u, cs[i]? = some u ∧ actP x i u := by
  obtain ⟨c0, c1, rfl⟩ := list2 hl
  obtain ⟨xs, n, hn, hx, hl, hlen, hfs⟩ := DataW.trod_struct Tryd.underlying48 h
  match xs, hlen with
  | [y0, y1], _ =>
    have h0 := hfs 0 _ rfl
    have h1 := hfs 1 _ rfl
    simp [p_int] at h0 h1
    obtain ⟨v0, e0, _, b0⟩ := DataW.trod_int Tryd.underlying3 h0
    obtain ⟨v1, e1, _, b1⟩ := DataW.trod_int Tryd.underlying3 h1
    simp at e0 e1
    subst e0 e1
    refine ⟨⟨v0, v1⟩, fun i hi => ?_⟩
    have hi2 : i = 0 ∨ i = 1 := by omega
    rcases hi2 with rfl | rfl
    · exact ⟨_, rfl, fun _ => rfl, fun e => (by cases e), b1⟩
    · exact ⟨_, rfl, fun e => (by cases e), fun _ => rfl, b1⟩
theorem one_row {H : Type} {enc : TypeId × Value → H} {w : World} {spare : Nat → Bool} {held : Bool} (n : Nat) (cs : List Value) (z : DataW H × List MemPlace) (hl : cs.length = 2) (h : DataW.trod enc Tryd.prog w 0 spare held n 27 cs = some z) : ∃ x : Rw, ∀ i, i < 2 → ∃ u, cs[i]? = some u ∧ rowP x i u := by
  obtain ⟨c0, c1, rfl⟩ := list2 hl
  obtain ⟨xs, n, hn, hx, hl, hlen, hfs⟩ := DataW.trod_struct Tryd.underlying27 h
  match xs, hlen with
  | [y0, y1], _ =>
    have h0 := hfs 0 _ rfl
    have h1 := hfs 1 _ rfl
    simp [p_int, p_bool] at h0 h1
    obtain ⟨v0, e0, _, b0⟩ := DataW.trod_int Tryd.underlying3 h0
    obtain ⟨v1, e1, _⟩ := DataW.trod_bool Tryd.underlying4 h1
    simp at e0 e1
    subst e0 e1
    refine ⟨⟨v0, v1⟩, fun i hi => ?_⟩
    have hi2 : i = 0 ∨ i = 1 := by omega
    rcases hi2 with rfl | rfl
    · exact ⟨_, rfl, fun _ => rfl, fun e => (by cases e), b0⟩
    · exact ⟨_, rfl, fun e => (by cases e), fun _ => rfl, b0⟩
theorem acts_cell {W : World} {a : Option Addr} {n c : Nat} {l : List Cl} (h : RowsAt W 2 actP ⟨a, n, c⟩ l) {i : Nat} {kd t : Int} (hx : l[i]? = some (kd, t)) : ∃ g off, a = some ⟨g, off, none⟩ ∧ (Lit.int .i64 t).wf = true ∧ ∀ Z, Below W.heap.size W Z → Z.cell? ⟨g, off + i * 2, none⟩ = some (I kd) ∧ Z.cell? ⟨g, off + i * 2 + 1, none⟩ = some (I t) := by
  obtain ⟨g, off, e, hg, hr⟩ := h.row i _ hx
  obtain ⟨u0, h0, p0⟩ := hr 0 (by omega)
  obtain ⟨u1, h1, p1⟩ := hr 1 (by omega)
  have e0 := p0.1 rfl
  have e1 := p1.2.1 rfl
  subst e0 e1
  refine ⟨g, off, e, p1.2.2, fun Z hZ => ?_⟩
  exact ⟨(hZ.cell (p := ⟨g, off + i * 2, none⟩) hg).trans (by simpa using h0), (hZ.cell (p := ⟨g, off + i * 2 + 1, none⟩) hg).trans h1⟩
/-- tasks' rows that came in can be read -/
theorem rows_src {W : World} {s : Sl} {rs : List Rw} (h : RowsAt W 2 rowP s rs) : Src W 2 (.slice s.a s.n s.c) rs.length (flR rs) := by
  obtain ⟨a, n, c⟩ := s
  have hn := h.n
  have hc := h.c
  simp only at hn hc
  subst hn
  refine ⟨flR_len rs, ?_⟩
  by_cases h0 : rs.length = 0
  · exact .inl ⟨a, c, by rw [h0], h0⟩
  · obtain ⟨x0, hx0⟩ : ∃ x, rs[0]? = some x := ⟨_, List.getElem?_eq_getElem (by omega)⟩
    obtain ⟨g, off, e, hg, _⟩ := h.row 0 x0 hx0
    simp only at e
    subst e
    refine .inr ⟨g, off, c, rfl, hg, fun j y hy => ?_⟩
    have hj : j < rs.length * 2 := by have := (List.getElem?_eq_some_iff.1 hy).1; rw [flR_len] at this; exact this
    obtain ⟨x, hx⟩ : ∃ x, rs[j / 2]? = some x := ⟨_, List.getElem?_eq_getElem (by omega)⟩
    obtain ⟨g', off', e', hg', hr⟩ := h.row (j / 2) x hx
    cases e'
    obtain ⟨f1, f2⟩ := flR_at hx
    rcases (by omega : j = j / 2 * 2 ∨ j = j / 2 * 2 + 1) with e | e
    · obtain ⟨u, hu, hp⟩ := hr 0 (by omega)
      rw [e, f1] at hy
      rw [e, ← Nat.add_zero (off + j / 2 * 2), hu, hp.1 rfl]
      exact hy
    · obtain ⟨u, hu, hp⟩ := hr 1 (by omega)
      rw [e, f2] at hy
      rw [e, show off + (j / 2 * 2 + 1) = off + j / 2 * 2 + 1 by omega, hu, hp.2.1 rfl]
      exact hy
end Go.Proofs.YthmecgfbapemjaaDoor
