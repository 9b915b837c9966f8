import Derived.Test.YtlbgppijeoonjaaGreatDoorAtcX
import Derived.Test.YtlbgppijeoonjaaGreatDoorWitX
import Derived.Deep.Strs
namespace Go.Proofs.YtlbgppijeoonjaaGreatDoor
open Go.RowKit Go.ChangeShapes Go.WideShapes Go.ChangeAt
set_option linter.unusedVariables false

/-! ### Attributes that came in, opened to all depths -/
theorem list12 {α : Type} {l : List α} (h : l.length = 12) : ∃ c0 c1 c2 c3 c4 c5 c6 c7 c8 c9 c10 c11, l = [c0, c1, c2, c3, c4, c5, c6, c7, c8, c9, c10, c11] := by
  match l, h with
  | [c0, c1, c2, c3, c4, c5, c6, c7, c8, c9, c10, c11], _ => exact ⟨c0, c1, c2, c3, c4, c5, c6, c7, c8, c9, c10, c11, rfl⟩
theorem pA : Tryz.prog.cellsOf 34 = 12 := by kernel_rfl
theorem pS : Tryz.prog.cellsOf 27 = 3 := by kernel_rfl
theorem pV : Tryz.prog.cellsOf 31 = 4 := by kernel_rfl
theorem pK : Tryz.prog.cellsOf 28 = 1 := by kernel_rfl
theorem pI : Tryz.prog.cellsOf 3 = 1 := by kernel_rfl
theorem pG : Tryz.prog.cellsOf 9 = 1 := by kernel_rfl
theorem pU : Tryz.prog.cellsOf 29 = 1 := by kernel_rfl
theorem pB : Tryz.prog.cellsOf 4 = 1 := by kernel_rfl
theorem pL : Tryz.prog.cellsOf 32 = 1 := by kernel_rfl
set_option maxRecDepth 100000 in
theorem trod_attr {H : Type} {enc : TypeId × Value → H} {w : World} {base : Nat} {spare : Nat → Bool} {held : Bool} {fuel : Nat} {cs : List Value} {y : DataW H × List MemPlace} (hcs : cs.length = 12)
    (h : DataW.trod enc Tryz.prog w base spare held fuel 34 cs = some y) :
    ∃ (name : List UInt8) (o l c : Int) (v : Vl) (br nd : Bool) (nt : List UInt8) (pv : Value) (n : Nat) (y4 : DataW H × List MemPlace) (fs : List (DataW H)), (∀ ps, cs = (atC (.mk name o l c v br ps nd nt) pv).toList) ∧ fuel = n + 1 ∧
      DataW.trod enc Tryz.prog w base spare held n 32 [pv] = some y4 ∧ y.1 = .agg fs ∧ fs[4]? = some y4.1 := by
  obtain ⟨c0, c1, c2, c3, c4, c5, c6, c7, c8, c9, c10, c11, rfl⟩ := list12 hcs
  obtain ⟨xs, n, hn, hx, hl, hlen, hfs⟩ := DataW.trod_struct Tryz.underlying34 h
  match xs, hlen with
  | [y0, y1, y2, y3, y4, y5, y6], _ =>
    have h0 := hfs 0 _ rfl
    have h1 := hfs 1 _ rfl
    have h2 := hfs 2 _ rfl
    have h3 := hfs 3 _ rfl
    have h4 := hfs 4 _ rfl
    have h5 := hfs 5 _ rfl
    have h6 := hfs 6 _ rfl
    simp [pS, pV, pG, pB, pL] at h0 h1 h2 h3 h4 h5 h6
    obtain ⟨nm, e0, _, _⟩ := DataW.trod_string Tryz.underlying9 h0
    obtain ⟨s0, s1, s2, m, es, _, g0, g1, g2⟩ := Go.Deep.trod_struct3 Tryz.underlying27 h1
    simp [pI] at g0 g1 g2
    obtain ⟨o, q0, _, _⟩ := DataW.trod_int Tryz.underlying3 g0
    obtain ⟨l, q1, _, _⟩ := DataW.trod_int Tryz.underlying3 g1
    obtain ⟨c, q2, _, _⟩ := DataW.trod_int Tryz.underlying3 g2
    obtain ⟨vs, vn, _, vx, _, vlen, vfs⟩ := DataW.trod_struct Tryz.underlying31 h2
    match vs, vlen with
    | [z0, z1, z2, z3], _ =>
      have v0 := vfs 0 _ rfl
      have v1 := vfs 1 _ rfl
      have v2 := vfs 2 _ rfl
      have v3 := vfs 3 _ rfl
      simp [pK, pG, pU, pB] at v0 v1 v2 v3
      obtain ⟨vk, k0, _, _⟩ := DataW.trod_int Tryz.underlying28 v0
      obtain ⟨vt, k1, _, _⟩ := DataW.trod_string Tryz.underlying9 v1
      obtain ⟨vu, k2, _, w3⟩ := DataW.trod_int Tryz.underlying29 v2
      obtain ⟨vh, k3, _⟩ := DataW.trod_bool Tryz.underlying4 v3
      have hb3 := bounds_u32 w3
      obtain ⟨un, rfl⟩ := Int.eq_ofNat_of_zero_le hb3.1
      obtain ⟨br, e3, _⟩ := DataW.trod_bool Tryz.underlying4 h3
      obtain ⟨nd, e5, _⟩ := DataW.trod_bool Tryz.underlying4 h5
      obtain ⟨nt, e6, _, _⟩ := DataW.trod_string Tryz.underlying9 h6
      simp at e0 q0 q1 q2 k0 k1 k2 k3 e3 e5 e6
      subst e0 q0 q1 q2 k0 k1 k2 k3 e3 e5 e6
      refine ⟨nm.data.toList, o, l, c, ⟨vk, vt.data.toList, un, vh⟩, br, nd, nt.data.toList, c9, n, y4, _, fun ps => ?_, hn, h4, congrArg Prod.fst hx, rfl⟩
      simp [atC]
end Go.Proofs.YtlbgppijeoonjaaGreatDoor

namespace Go.Proofs.YtlbgppijeoonjaaGreatDoor
open Go.RowKit Go.ChangeShapes Go.WideShapes Go.ChangeAt
set_option linter.unusedVariables false

theorem rowsA_range (L : Nat → At × Value) (n j : Nat) (u : Value) (h : (rowsA ((List.range n).map L))[j]? = some u) : ∃ i t, i < n ∧ t < 12 ∧ j = i * 12 + t ∧ (atC (L i).1 (L i).2)[t]? = some u := by
  have hj : j < n * 12 := by
    have := (List.getElem?_eq_some_iff.1 h).1
    rw [rowsA_len] at this
    simpa using this
  refine ⟨j / 12, j % 12, by omega, by omega, by omega, ?_⟩
  have := rowsA_at ((List.range n).map L) (j / 12) (L (j / 12)) (by
    rw [List.getElem?_map, List.getElem?_range (by omega)]; rfl) (j % 12) (by omega)
  rw [show j / 12 * 12 + j % 12 = j by omega] at this
  rw [← this]
  exact h
/-- What is asked of a datum (Bs: of rows of attributes, Be: of attributes), so that no row in it is longer than n. -/
structure Hered {H : Type} (n : Nat) (Bs Be : DataW H → Prop) : Prop where
  slice : ∀ es sp, Bs (.slice es sp) → es.length ≤ n ∧ ∀ e, e ∈ es → Be e
  agg : ∀ fs f, Be (.agg fs) → fs[4]? = some f → Bs f
theorem attrs_open {H : Type} {enc : TypeId × Value → H} {w : World} {spare : Nat → Bool} {held : Bool} {nb : Nat} {Bs Be : DataW H → Prop} (hB : Hered nb Bs Be) (fuel : Nat) : ∀ (v : Value) (y : DataW H × List MemPlace), DataW.trod enc Tryz.prog w 0 spare held fuel 32 [v] = some y → Bs y.1 →
    ∃ l : List At, AttrsAt w (fun _ => True) v l ∧ LenB nb l := by
  induction fuel using Nat.strongRecOn with
  | _ fuel ih =>
    intro v y h hy
    rcases DataW.trod_slice Tryz.underlying32 h with ⟨hcs, _⟩ | ⟨a, len, cap, elems, rest, n, hfu, hcs, hx, _, hlc, hcm, hel, hV, _, _⟩
    · simp at hcs
      subst hcs
      exact ⟨[], .nil, .mk (by simp) (fun a ha => by cases ha)⟩
    · simp at hcs
      subst hcs
      rw [pA] at hV
      have hy2 : Bs (.slice (elems.map (·.1)) (rest.map (·.1))) := by rw [hx] at hy; exact hy
      obtain ⟨hlen, hpart⟩ := hB.slice _ _ hy2
      rw [List.length_map, hel] at hlen
      have inh : Inhabited (At × Value) := ⟨(at0, .slice none 0 0)⟩
      obtain ⟨L, hL⟩ := Go.Deep.choose_lt (α := At × Value) (n := len) (p := fun i q => w.cells? 0 (a.add (i * 12)) 12 = some (atC q.1 q.2).toList ∧ AttrsAt w (fun _ => True) q.2 q.1.params ∧ LenB nb q.1.params) (fun i hi => by
        have hVi := hV i hi
        have hi2 : i < elems.length := by omega
        rw [List.getElem?_eq_getElem hi2] at hVi
        obtain ⟨cs', h1, h2⟩ := Option.bind_eq_some_iff.1 hVi
        obtain ⟨_, hcl, _⟩ := World.cells?_some h1
        obtain ⟨name, o, l, c, vl, br, nd, nt, pv, n2, y4, fs, e1, e2, e3, e4, e5⟩ := trod_attr hcl h2
        have hBe : Be elems[i].1 := hpart _ (List.mem_map.2 ⟨elems[i], List.getElem_mem hi2, rfl⟩)
        rw [e4] at hBe
        obtain ⟨ps, hps, hlb⟩ := ih n2 (by omega) pv y4 e3 (hB.agg _ _ hBe e5)
        exact ⟨(.mk name o l c vl br ps nd nt, pv), by rw [h1, e1 ps], hps, hlb⟩)
      refine ⟨((List.range len).map L).map Prod.fst, ?_, .mk (by simp; omega) (fun x hx => ?_)⟩
      · obtain ⟨b, off, spot⟩ := a
        by_cases hp : 0 < len
        · obtain ⟨_, hcl, hc0⟩ := World.cells?_some (hL 0 hp).1
          have h12 : ∀ (q : At × Value), (atC q.1 q.2).toList.length = 12 := fun q => by obtain ⟨x, y⟩ := q; cases x; rfl
          obtain ⟨u0, hu0⟩ : ∃ u, (atC (L 0).1 (L 0).2).toList[0]? = some u := ⟨_, List.getElem?_eq_getElem (by rw [h12]; omega)⟩
          have hspot : spot = none := by
            have := hc0 0 (by omega)
            have := World.cell?_spot (this.trans hu0)
            simpa [Addr.add] using this
          subst hspot
          have hbw : b < w.heap.size := by
            have := World.cells?_block (hL 0 hp).1 (by omega)
            simpa [Addr.add] using this
          have hr : AttrsAt w (fun _ => True) (.slice (some ⟨b, off, none⟩) ((List.range len).map L).length cap) (((List.range len).map L).map Prod.fst) := by
            refine .row trivial hbw (fun j u hj => ?_) ⟨by simp; omega, hcm⟩ (fun q hq => ?_)
            · obtain ⟨i, t, hi, ht, rfl, hu⟩ := rowsA_range L len j u hj
              obtain ⟨_, _, hck⟩ := World.cells?_some (hL i hi).1
              have := hck t ht
              rw [Array.getElem?_toList, hu, Go.Deep.add_add, Lib.add_plain] at this
              exact this
            · obtain ⟨i, hi, rfl⟩ := List.mem_map.1 hq
              exact (hL i (List.mem_range.1 hi)).2.1
          simpa using hr
        · have h0 : len = 0 := by omega
          subst h0
          exact .nil
      · obtain ⟨q, hq, rfl⟩ := List.mem_map.1 hx
        obtain ⟨i, hi, rfl⟩ := List.mem_map.1 hq
        exact (hL i (List.mem_range.1 hi)).2.2
end Go.Proofs.YtlbgppijeoonjaaGreatDoor

namespace Go.Proofs.YtlbgppijeoonjaaGreatDoor
open Go.RowKit Go.ChangeShapes Go.WideShapes Go.ChangeAt
set_option linter.unusedVariables false

/-! ### A tree that came in, opened to all depths -/
theorem list8 {α : Type} {l : List α} (h : l.length = 8) : ∃ c0 c1 c2 c3 c4 c5 c6 c7, l = [c0, c1, c2, c3, c4, c5, c6, c7] := by
  match l, h with
  | [c0, c1, c2, c3, c4, c5, c6, c7], _ => exact ⟨c0, c1, c2, c3, c4, c5, c6, c7, rfl⟩
theorem array5 {α : Type} {cs : Array α} (h : cs.size = 5) : ∃ c0 c1 c2 c3 c4, cs = #[c0, c1, c2, c3, c4] := by
  obtain ⟨l⟩ := cs
  match l, h with
  | [c0, c1, c2, c3, c4], _ => exact ⟨c0, c1, c2, c3, c4, rfl⟩
theorem pO : Tryz.prog.cellsOf 71 = 8 := by kernel_rfl
theorem pOL : Tryz.prog.cellsOf 22 = 1 := by kernel_rfl
theorem pT : Tryz.prog.cellsOf 24 = 5 := by kernel_rfl
set_option maxRecDepth 100000 in
theorem trod_obj {H : Type} {enc : TypeId × Value → H} {w : World} {base : Nat} {spare : Nat → Bool} {held : Bool} {fuel : Nat} {cs : List Value} {y : DataW H × List MemPlace} (hcs : cs.length = 8)
    (h : DataW.trod enc Tryz.prog w base spare held fuel 71 cs = some y) :
    ∃ (kind name : List UInt8) (o l c : Int) (nd : Bool) (nt : List UInt8) (pv : Value) (n : Nat) (y4 : DataW H × List MemPlace) (fs : List (DataW H)), (∀ ps, cs = (obC ⟨kind, name, o, l, c, ps, nd, nt⟩ pv).toList) ∧
      DataW.trod enc Tryz.prog w base spare held n 32 [pv] = some y4 ∧ y.1 = .agg fs ∧ fs[3]? = some y4.1 := by
  obtain ⟨c0, c1, c2, c3, c4, c5, c6, c7, rfl⟩ := list8 hcs
  obtain ⟨xs, n, hn, hx, hl, hlen, hfs⟩ := DataW.trod_struct Tryz.underlying71 h
  match xs, hlen with
  | [y0, y1, y2, y3, y4, y5], _ =>
    have h0 := hfs 0 _ rfl
    have h1 := hfs 1 _ rfl
    have h2 := hfs 2 _ rfl
    have h3 := hfs 3 _ rfl
    have h4 := hfs 4 _ rfl
    have h5 := hfs 5 _ rfl
    simp [pS, pG, pB, pL] at h0 h1 h2 h3 h4 h5
    obtain ⟨kd, e0, _, _⟩ := DataW.trod_string Tryz.underlying9 h0
    obtain ⟨nm, e1, _, _⟩ := DataW.trod_string Tryz.underlying9 h1
    obtain ⟨s0, s1, s2, m, es, _, g0, g1, g2⟩ := Go.Deep.trod_struct3 Tryz.underlying27 h2
    simp [pI] at g0 g1 g2
    obtain ⟨o, q0, _, _⟩ := DataW.trod_int Tryz.underlying3 g0
    obtain ⟨l, q1, _, _⟩ := DataW.trod_int Tryz.underlying3 g1
    obtain ⟨c, q2, _, _⟩ := DataW.trod_int Tryz.underlying3 g2
    obtain ⟨nd, e4, _⟩ := DataW.trod_bool Tryz.underlying4 h4
    obtain ⟨nt, e5, _, _⟩ := DataW.trod_string Tryz.underlying9 h5
    simp at e0 e1 q0 q1 q2 e4 e5
    subst e0 e1 q0 q1 q2 e4 e5
    refine ⟨kd.data.toList, nm.data.toList, o, l, c, nd, nt.data.toList, c5, n, y3, _, fun ps => ?_, h3, congrArg Prod.fst hx, rfl⟩
    simp [obC]
theorem rowsO_len (ps : List (Ob × Value)) : (rowsO ps).length = ps.length * 8 := by
  induction ps with
  | nil => rfl
  | cons p ps ih =>
    have hs : (obC p.1 p.2).toList.length = 8 := rfl
    show ((obC p.1 p.2).toList ++ rowsO ps).length = _
    rw [List.length_append, hs, ih, List.length_cons]
    omega
theorem rowsO_range (L : Nat → Ob × Value) (n j : Nat) (u : Value) (h : (rowsO ((List.range n).map L))[j]? = some u) : ∃ i t, i < n ∧ t < 8 ∧ j = i * 8 + t ∧ (obC (L i).1 (L i).2)[t]? = some u := by
  have hj : j < n * 8 := by
    have := (List.getElem?_eq_some_iff.1 h).1
    rw [rowsO_len] at this
    simpa using this
  refine ⟨j / 8, j % 8, by omega, by omega, by omega, ?_⟩
  have := rowsO_at ((List.range n).map L) (j / 8) (L (j / 8)) (by
    rw [List.getElem?_map, List.getElem?_range (by omega)]; rfl) (j % 8) (by omega)
  rw [show j / 8 * 8 + j % 8 = j by omega] at this
  rw [← this]
  exact h
/-- The same of rows of objects (Bl), of objects (Bo), of trees (Bt). -/
structure HeredO {H : Type} (n : Nat) (Bs Bl Bo Bt : DataW H → Prop) : Prop where
  slice : ∀ es sp, Bl (.slice es sp) → es.length ≤ n ∧ ∀ e, e ∈ es → Bo e
  agg : ∀ fs f, Bo (.agg fs) → fs[3]? = some f → Bs f
  tree : ∀ fs f, Bt (.agg fs) → fs[2]? = some f → Bl f
theorem objs_open {H : Type} {enc : TypeId × Value → H} {w : World} {spare : Nat → Bool} {held : Bool} {nb no : Nat} {Bs Be Bl Bo Bt : DataW H → Prop} (hB : Hered nb Bs Be) (hC : HeredO no Bs Bl Bo Bt) (fuel : Nat) (v : Value) (y : DataW H × List MemPlace) (h : DataW.trod enc Tryz.prog w 0 spare held fuel 22 [v] = some y) (hy : Bl y.1) :
    ∃ l : List Ob, ObjsAt w (fun _ => True) v l ∧ l.length ≤ no ∧ ∀ o, o ∈ l → LenB nb o.attrs := by
  rcases DataW.trod_slice Tryz.underlying22 h with ⟨hcs, _⟩ | ⟨a, len, cap, elems, rest, n, hfu, hcs, hx, _, hlc, hcm, hel, hV, _, _⟩
  · simp at hcs
    subst hcs
    exact ⟨[], .nil, by simp, fun a ha => by cases ha⟩
  · simp at hcs
    subst hcs
    rw [pO] at hV
    have hy2 : Bl (.slice (elems.map (·.1)) (rest.map (·.1))) := by rw [hx] at hy; exact hy
    obtain ⟨hlen, hpart⟩ := hC.slice _ _ hy2
    rw [List.length_map, hel] at hlen
    have inh : Inhabited (Ob × Value) := ⟨(⟨[], [], 0, 0, 0, [], false, []⟩, .slice none 0 0)⟩
    obtain ⟨L, hL⟩ := Go.Deep.choose_lt (α := Ob × Value) (n := len) (p := fun i q => w.cells? 0 (a.add (i * 8)) 8 = some (obC q.1 q.2).toList ∧ AttrsAt w (fun _ => True) q.2 q.1.attrs ∧ LenB nb q.1.attrs) (fun i hi => by
      have hVi := hV i hi
      have hi2 : i < elems.length := by omega
      rw [List.getElem?_eq_getElem hi2] at hVi
      obtain ⟨cs', h1, h2⟩ := Option.bind_eq_some_iff.1 hVi
      obtain ⟨_, hcl, _⟩ := World.cells?_some h1
      obtain ⟨kind, name, o, l, c, nd, nt, pv, n2, y4, fs, e1, e3, e4, e5⟩ := trod_obj hcl h2
      have hBe : Bo elems[i].1 := hpart _ (List.mem_map.2 ⟨elems[i], List.getElem_mem hi2, rfl⟩)
      rw [e4] at hBe
      obtain ⟨ps, hps, hlb⟩ := attrs_open hB n2 pv y4 e3 (hC.agg _ _ hBe e5)
      exact ⟨(⟨kind, name, o, l, c, ps, nd, nt⟩, pv), by rw [h1, e1 ps], hps, hlb⟩)
    refine ⟨((List.range len).map L).map Prod.fst, ?_, by simp; omega, fun x hx => ?_⟩
    · obtain ⟨b, off, spot⟩ := a
      by_cases hp : 0 < len
      · obtain ⟨_, hcl, hc0⟩ := World.cells?_some (hL 0 hp).1
        have hspot : spot = none := by
          have := hc0 0 (by omega)
          have := World.cell?_spot (this.trans rfl)
          simpa [Addr.add] using this
        subst hspot
        have hbw : b < w.heap.size := by
          have := World.cells?_block (hL 0 hp).1 (by omega)
          simpa [Addr.add] using this
        have hr : ObjsAt w (fun _ => True) (.slice (some ⟨b, off, none⟩) ((List.range len).map L).length cap) (((List.range len).map L).map Prod.fst) := by
          refine .row trivial hbw (fun j u hj => ?_) ⟨by simp; omega, hcm⟩ (fun q hq => ?_)
          · obtain ⟨i, t, hi, ht, rfl, hu⟩ := rowsO_range L len j u hj
            obtain ⟨_, _, hck⟩ := World.cells?_some (hL i hi).1
            have := hck t ht
            rw [Array.getElem?_toList, hu, Go.Deep.add_add, Lib.add_plain] at this
            exact this
          · obtain ⟨i, hi, rfl⟩ := List.mem_map.1 hq
            exact (hL i (List.mem_range.1 hi)).2.1
        simpa using hr
      · have h0 : len = 0 := by omega
        subst h0
        exact .nil
    · obtain ⟨q, hq, rfl⟩ := List.mem_map.1 hx
      obtain ⟨i, hi, rfl⟩ := List.mem_map.1 hq
      exact (hL i (List.mem_range.1 hi)).2.2
set_option maxRecDepth 100000 in
/-- A tree that came in. -/
theorem tree_open {H : Type} {enc : TypeId × Value → H} {w : World} {spare : Nat → Bool} {held : Bool} {r : Reach} {b0 : Nat} {nb no : Nat} {Bs Be Bl Bo Bt : DataW H → Prop} (hB : Hered nb Bs Be) (hC : HeredO no Bs Bl Bo Bt) {v : Value} {d : DataW H} {p : List MemPlace}
    (hv : Value.okWide Tryz.prog w r b0 24 v) (h : DataW.Trod enc Tryz.prog w 0 spare held 24 v d p) (hd : Bt d) :
    ∃ (t : Tr) (pv : Value), v = .agg (trC t pv) ∧ ObjsAt w (fun _ => True) pv t.objs ∧ t.objs.length ≤ no ∧ ∀ o, o ∈ t.objs → LenB nb o.attrs := by
  obtain ⟨cs, rfl, hsz⟩ := okWide_struct Tryz.underlying24 hv
  rw [pT] at hsz
  obtain ⟨c0, c1, c2, c3, c4, rfl⟩ := array5 hsz
  obtain ⟨fuel, hf⟩ := h
  obtain ⟨xs, n, hn, hx, hl, hlen, hfs⟩ := DataW.trod_struct Tryz.underlying24 hf
  match xs, hlen with
  | [y0, y1, y2, y3, y4], _ =>
    have h0 := hfs 0 _ rfl
    have h1 := hfs 1 _ rfl
    have h2 := hfs 2 _ rfl
    have h3 := hfs 3 _ rfl
    have h4 := hfs 4 _ rfl
    simp [pG, pB, pOL, Value.cells] at h0 h1 h2 h3 h4
    obtain ⟨tv, e0, _, _⟩ := DataW.trod_string Tryz.underlying9 h0
    obtain ⟨tc, e1, _, _⟩ := DataW.trod_string Tryz.underlying9 h1
    obtain ⟨nd, e3, _⟩ := DataW.trod_bool Tryz.underlying4 h3
    obtain ⟨nt, e4, _, _⟩ := DataW.trod_string Tryz.underlying9 h4
    simp at e0 e1 e3 e4
    subst e0 e1 e3 e4
    have hd2 : d = .agg [y0.1, y1.1, y2.1, y3.1, y4.1] := congrArg Prod.fst hx
    rw [hd2] at hd
    obtain ⟨objs, hO, hl2, hlb⟩ := objs_open hB hC n c2 y2 h2 (hC.tree _ _ hd rfl)
    refine ⟨⟨tv.data.toList, tc.data.toList, objs, nd, nt.data.toList⟩, c2, ?_, hO, hl2, hlb⟩
    simp [trC]
end Go.Proofs.YtlbgppijeoonjaaGreatDoor

