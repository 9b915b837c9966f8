import Derived.Test.YtlbgppijeoonjaaGreatDoorRows
import Derived.Test.YtlbgppijeoonjaaGreatDoorOpX
import Derived.Test.YtlbgppijeoonjaaGreatDoorTtX
namespace Go.Proofs.YtlbgppijeoonjaaGreatDoor.Cnt
open Go.RowKit Go.ChangeShapes Go.WideShapes Go.ChangeAt
set_option linter.unusedVariables false

/-! ### A tree that came in, of small bulk: its texts and numbers fit, its tokens are not many -/
mutual
def attrT (d : Nat) : At → List Unit
  | .mk _ _ _ _ _ _ ps _ _ => () :: attrsT (d + 1) ps
def attrsT (d : Nat) : List At → List Unit
  | [] => []
  | a :: l => attrT d a ++ attrsT d l
end
def objT (o : Ob) : List Unit := () :: attrsT 0 o.attrs
def objsT : List Ob → List Unit
  | [] => []
  | o :: l => objT o ++ objsT l
def treeT (t : Tr) : List Unit := () :: objsT t.objs
theorem bulk_mem {H : Type} {l : List (DataW H)} {d : DataW H} (h : d ∈ l) : Rows.uptoBulk d ≤ Rows.uptoBulkAll l := by
  induction l with
  | nil => cases h
  | cons x l ih =>
    rw [Rows.uptoBulkAll]
    rcases List.mem_cons.1 h with rfl | h
    · omega
    · have := ih h; omega
theorem attrsT_bulk {H : Type} : ∀ (l : List At) (ds : List (DataW H)), l.length = ds.length → (∀ (i : Nat) (a : At) (e : DataW H), l[i]? = some a → ds[i]? = some e → ∀ d, (attrT d a).length ≤ 11 * Rows.uptoBulk e) → ∀ d, (attrsT d l).length ≤ 11 * Rows.uptoBulkAll ds
  | [], [], _, _, d => by rw [attrsT]; simp
  | a :: l, e :: ds, hl, h, d => by
    have h1 := h 0 a e rfl rfl d
    have h2 := attrsT_bulk l ds (by simpa using hl) (fun i a e ha he => h (i + 1) a e (by simpa using ha) (by simpa using he)) d
    rw [attrsT, List.length_append, Rows.uptoBulkAll]
    omega
theorem objsT_bulk {H : Type} : ∀ (l : List Ob) (ds : List (DataW H)), l.length = ds.length → (∀ (i : Nat) (a : Ob) (e : DataW H), l[i]? = some a → ds[i]? = some e → (objT a).length ≤ 11 * Rows.uptoBulk e) → (objsT l).length ≤ 11 * Rows.uptoBulkAll ds
  | [], [], _, _ => by simp [objsT]
  | a :: l, e :: ds, hl, h => by
    have h1 := h 0 a e rfl rfl
    have h2 := objsT_bulk l ds (by simpa using hl) (fun i a e ha he => h (i + 1) a e (by simpa using ha) (by simpa using he))
    rw [objsT, List.length_append, Rows.uptoBulkAll]
    omega
theorem attrT_bulk (d : Nat) (name : List UInt8) (o l c : Int) (v : Vl) (br : Bool) (ps : List At) (nd : Bool) (nt : List UInt8) (b B : Nat) (h : (attrsT (d + 1) ps).length ≤ 11 * b) (hB : b + 2 ≤ B) : (attrT d (.mk name o l c v br ps nd nt)).length ≤ 11 * B := by
  rw [attrT]
  simp
  omega
set_option maxRecDepth 100000 in
theorem trod_attrB {H : Type} {enc : TypeId × Value → H} {w : World} {base : Nat} {spare : Nat → Bool} {held : Bool} {fuel : Nat} {cs : List Value} {y : DataW H × List MemPlace} (hcs : cs.length = 12)
    (h : DataW.trod enc Tryz.prog w base spare held fuel 34 cs = some y) :
    ∃ (name : List UInt8) (o l c : Int) (v : Vl) (br nd : Bool) (nt : List UInt8) (pv : Value) (n : Nat) (y4 : DataW H × List MemPlace) (fs : List (DataW H)), (∀ ps, cs = (atC (.mk name o l c v br ps nd nt) pv).toList) ∧ fuel = n + 1 ∧
      DataW.trod enc Tryz.prog w base spare held n 32 [pv] = some y4 ∧ y.1 = .agg fs ∧ Rows.uptoBulk y4.1 + 1 ≤ Rows.uptoBulkAll fs ∧ name.length ≤ Rows.uptoBulkAll fs ∧ v.num ≤ 4294967295 ∧ v.text.length ≤ Rows.uptoBulkAll fs ∧ nt.length ≤ Rows.uptoBulkAll fs := by
  obtain ⟨c0, c1, c2, c3, c4, c5, c6, c7, c8, c9, c10, c11, rfl⟩ := list12 hcs
  obtain ⟨xs, n, hn, hx, hl, hlen, hfs⟩ := DataW.trod_struct Tryz.underlying34 h
  match xs, hlen with
  | [y0, y1, y2, y3, y4, y5, y6], _ =>
    have h0 := hfs 0 _ rfl
    have h1 := hfs 1 _ rfl
    have h2 := hfs 2 _ rfl
    have h3 := hfs 3 _ rfl
    have h4 := hfs 4 _ rfl
    have h5 := hfs 5 _ rfl
    have h6 := hfs 6 _ rfl
    simp [pS, pV, pG, pB, pL] at h0 h1 h2 h3 h4 h5 h6
    obtain ⟨nm, e0, d0, _⟩ := DataW.trod_string Tryz.underlying9 h0
    obtain ⟨s0, s1, s2, m, es, _, g0, g1, g2⟩ := Go.Deep.trod_struct3 Tryz.underlying27 h1
    simp [pI] at g0 g1 g2
    obtain ⟨o, q0, _, _⟩ := DataW.trod_int Tryz.underlying3 g0
    obtain ⟨l, q1, _, _⟩ := DataW.trod_int Tryz.underlying3 g1
    obtain ⟨c, q2, _, _⟩ := DataW.trod_int Tryz.underlying3 g2
    obtain ⟨vs, vn, _, vx, _, vlen, vfs⟩ := DataW.trod_struct Tryz.underlying31 h2
    match vs, vlen with
    | [z0, z1, z2, z3], _ =>
      have v0 := vfs 0 _ rfl
      have v1 := vfs 1 _ rfl
      have v2 := vfs 2 _ rfl
      have v3 := vfs 3 _ rfl
      simp [pK, pG, pU, pB] at v0 v1 v2 v3
      obtain ⟨vk, k0, _, _⟩ := DataW.trod_int Tryz.underlying28 v0
      obtain ⟨vt, k1, dz, _⟩ := DataW.trod_string Tryz.underlying9 v1
      obtain ⟨vu, k2, _, w3⟩ := DataW.trod_int Tryz.underlying29 v2
      obtain ⟨vh, k3, _⟩ := DataW.trod_bool Tryz.underlying4 v3
      have hb3 := bounds_u32 w3
      obtain ⟨un, rfl⟩ := Int.eq_ofNat_of_zero_le hb3.1
      obtain ⟨br, e3, _⟩ := DataW.trod_bool Tryz.underlying4 h3
      obtain ⟨nd, e5, _⟩ := DataW.trod_bool Tryz.underlying4 h5
      obtain ⟨nt, e6, d6, _⟩ := DataW.trod_string Tryz.underlying9 h6
      simp at e0 q0 q1 q2 k0 k1 k2 k3 e3 e5 e6
      subst e0 q0 q1 q2 k0 k1 k2 k3 e3 e5 e6
      refine ⟨nm.data.toList, o, l, c, ⟨vk, vt.data.toList, un, vh⟩, br, nd, nt.data.toList, c9, n, y4, _, fun ps => ?_, hn, h4, congrArg Prod.fst hx, ?_, ?_, (by show un ≤ 4294967295; have := hb3.2; omega), ?_, ?_⟩
      · simp [atC]
      · simp [Rows.uptoBulkAll, Rows.uptoBulk, d0]; omega
      · simp [Rows.uptoBulkAll, Rows.uptoBulk, d0]; omega
      · have dv := congrArg Prod.fst vx
        simp at dv
        simp [Rows.uptoBulkAll, Rows.uptoBulk, dv, dz]; omega
      · simp [Rows.uptoBulkAll, Rows.uptoBulk, d6]; omega
theorem attrs_openB {H : Type} {enc : TypeId × Value → H} {w : World} {spare : Nat → Bool} {held : Bool} (fuel : Nat) : ∀ (v : Value) (y : DataW H × List MemPlace), DataW.trod enc Tryz.prog w 0 spare held fuel 32 [v] = some y → Rows.uptoBulk y.1 ≤ 1048576 →
    ∃ l : List At, AttrsAt w (fun _ => True) v l ∧ NumB l ∧ ∀ d, (attrsT d l).length ≤ 11 * Rows.uptoBulk y.1 := by
  induction fuel using Nat.strongRecOn with
  | _ fuel ih =>
    intro v y h hy
    rcases DataW.trod_slice Tryz.underlying32 h with ⟨hcs, _⟩ | ⟨a, len, cap, elems, rest, n, hfu, hcs, hx, _, hlc, hcm, hel, hV, _, _⟩
    · simp at hcs
      subst hcs
      exact ⟨[], .nil, .mk (fun a ha => by cases ha) (fun a ha => by cases ha), fun d => by rw [attrsT]; simp⟩
    · simp at hcs
      subst hcs
      rw [pA] at hV
      have hyB : Rows.uptoBulk y.1 = Rows.uptoBulkAll (elems.map (·.1)) + Rows.uptoBulkAll (rest.map (·.1)) + 1 := by rw [hx]; rfl
      have inh : Inhabited (At × Value) := ⟨(at0, .slice none 0 0)⟩
      obtain ⟨L, hL⟩ := Go.Deep.choose_lt (α := At × Value) (n := len) (p := fun i q => w.cells? 0 (a.add (i * 12)) 12 = some (atC q.1 q.2).toList ∧ AttrsAt w (fun _ => True) q.2 q.1.params ∧ NumB q.1.params ∧ q.1.fits ∧ ∀ e, elems[i]? = some e → ∀ d, (attrT d q.1).length ≤ 11 * Rows.uptoBulk e.1) (fun i hi => by
        have hVi := hV i hi
        have hi2 : i < elems.length := by omega
        rw [List.getElem?_eq_getElem hi2] at hVi
        obtain ⟨cs', h1, h2⟩ := Option.bind_eq_some_iff.1 hVi
        obtain ⟨_, hcl, _⟩ := World.cells?_some h1
        obtain ⟨name, o, l, c, vl, br, nd, nt, pv, n2, y4, fs, e1, e2, e3, e4, e5, e6, e7, e8, e9⟩ := trod_attrB hcl h2
        have hbe := bulk_mem (List.mem_map.2 ⟨elems[i], List.getElem_mem hi2, rfl⟩ : elems[i].1 ∈ elems.map (·.1))
        have hag : Rows.uptoBulk elems[i].1 = Rows.uptoBulkAll fs + 1 := by rw [e4]; rfl
        obtain ⟨ps, hps, hnb, htl⟩ := ih n2 (by omega) pv y4 e3 (by omega)
        exact ⟨(.mk name o l c vl br ps nd nt, pv), by rw [h1, e1 ps], hps, hnb, ⟨by unfold Txt; omega, e7, by unfold Txt; omega, by unfold Txt; omega⟩, fun e he d => by
          rw [List.getElem?_eq_getElem hi2] at he
          cases he
          exact attrT_bulk d name o l c vl br ps nd nt (Rows.uptoBulk y4.1) (Rows.uptoBulk elems[i].1) (htl (d + 1)) (by omega)⟩)
      have hfits : ∀ x, x ∈ ((List.range len).map L).map Prod.fst → x.fits ∧ NumB x.params := fun x hx => by
        obtain ⟨q, hq, rfl⟩ := List.mem_map.1 hx
        obtain ⟨i, hi, rfl⟩ := List.mem_map.1 hq
        exact ⟨(hL i (List.mem_range.1 hi)).2.2.2.1, (hL i (List.mem_range.1 hi)).2.2.1⟩
      have hbulk := attrsT_bulk (((List.range len).map L).map Prod.fst) (elems.map (·.1)) (by simp; omega) (fun i a e ha he d => by
        rw [List.getElem?_map] at he
        cases hel2 : elems[i]? with
        | none => rw [hel2] at he; cases he
        | some e' =>
          rw [hel2] at he
          cases he
          have hi : i < len := by have := (List.getElem?_eq_some_iff.1 hel2).1; omega
          rw [List.getElem?_map, List.getElem?_map, List.getElem?_range hi] at ha
          cases ha
          exact (hL i hi).2.2.2.2 e' hel2 d)
      refine ⟨((List.range len).map L).map Prod.fst, ?_, .mk (fun x hx => (hfits x hx).1) (fun x hx => (hfits x hx).2), fun d => by have := hbulk d; omega⟩
      · obtain ⟨b, off, spot⟩ := a
        by_cases hp : 0 < len
        · obtain ⟨_, hcl, hc0⟩ := World.cells?_some (hL 0 hp).1
          have h12 : ∀ (q : At × Value), (atC q.1 q.2).toList.length = 12 := fun q => by obtain ⟨x, y⟩ := q; cases x; rfl
          obtain ⟨u0, hu0⟩ : ∃ u, (atC (L 0).1 (L 0).2).toList[0]? = some u := ⟨_, List.getElem?_eq_getElem (by rw [h12]; omega)⟩
          have hspot : spot = none := by
            have := hc0 0 (by omega)
            have := World.cell?_spot (this.trans hu0)
            simpa [Addr.add] using this
          subst hspot
          have hbw : b < w.heap.size := by
            have := World.cells?_block (hL 0 hp).1 (by omega)
            simpa [Addr.add] using this
          have hr : AttrsAt w (fun _ => True) (.slice (some ⟨b, off, none⟩) ((List.range len).map L).length cap) (((List.range len).map L).map Prod.fst) := by
            refine .row trivial hbw (fun j u hj => ?_) ⟨by simp; omega, hcm⟩ (fun q hq => ?_)
            · obtain ⟨i, t, hi, ht, rfl, hu⟩ := rowsA_range L len j u hj
              obtain ⟨_, _, hck⟩ := World.cells?_some (hL i hi).1
              have := hck t ht
              rw [Array.getElem?_toList, hu, Go.Deep.add_add, Lib.add_plain] at this
              exact this
            · obtain ⟨i, hi, rfl⟩ := List.mem_map.1 hq
              exact (hL i (List.mem_range.1 hi)).2.1
          simpa using hr
        · have h0 : len = 0 := by omega
          subst h0
          exact .nil
set_option maxRecDepth 100000 in
theorem trod_objB {H : Type} {enc : TypeId × Value → H} {w : World} {base : Nat} {spare : Nat → Bool} {held : Bool} {fuel : Nat} {cs : List Value} {y : DataW H × List MemPlace} (hcs : cs.length = 8)
    (h : DataW.trod enc Tryz.prog w base spare held fuel 71 cs = some y) :
    ∃ (kind name : List UInt8) (o l c : Int) (nd : Bool) (nt : List UInt8) (pv : Value) (n : Nat) (y4 : DataW H × List MemPlace) (fs : List (DataW H)), (∀ ps, cs = (obC ⟨kind, name, o, l, c, ps, nd, nt⟩ pv).toList) ∧
      DataW.trod enc Tryz.prog w base spare held n 32 [pv] = some y4 ∧ y.1 = .agg fs ∧ Rows.uptoBulk y4.1 + 1 ≤ Rows.uptoBulkAll fs ∧ kind.length ≤ Rows.uptoBulkAll fs ∧ name.length ≤ Rows.uptoBulkAll fs ∧ nt.length ≤ Rows.uptoBulkAll fs := by
  obtain ⟨c0, c1, c2, c3, c4, c5, c6, c7, rfl⟩ := list8 hcs
  obtain ⟨xs, n, hn, hx, hl, hlen, hfs⟩ := DataW.trod_struct Tryz.underlying71 h
  match xs, hlen with
  | [y0, y1, y2, y3, y4, y5], _ =>
    have h0 := hfs 0 _ rfl
    have h1 := hfs 1 _ rfl
    have h2 := hfs 2 _ rfl
    have h3 := hfs 3 _ rfl
    have h4 := hfs 4 _ rfl
    have h5 := hfs 5 _ rfl
    simp [pS, pG, pB, pL] at h0 h1 h2 h3 h4 h5
    obtain ⟨kd, e0, d0, _⟩ := DataW.trod_string Tryz.underlying9 h0
    obtain ⟨nm, e1, d1, _⟩ := DataW.trod_string Tryz.underlying9 h1
    obtain ⟨s0, s1, s2, m, es, _, g0, g1, g2⟩ := Go.Deep.trod_struct3 Tryz.underlying27 h2
    simp [pI] at g0 g1 g2
    obtain ⟨o, q0, _, _⟩ := DataW.trod_int Tryz.underlying3 g0
    obtain ⟨l, q1, _, _⟩ := DataW.trod_int Tryz.underlying3 g1
    obtain ⟨c, q2, _, _⟩ := DataW.trod_int Tryz.underlying3 g2
    obtain ⟨nd, e4, _⟩ := DataW.trod_bool Tryz.underlying4 h4
    obtain ⟨nt, e5, d5, _⟩ := DataW.trod_string Tryz.underlying9 h5
    simp at e0 e1 q0 q1 q2 e4 e5
    subst e0 e1 q0 q1 q2 e4 e5
    refine ⟨kd.data.toList, nm.data.toList, o, l, c, nd, nt.data.toList, c5, n, y3, _, fun ps => ?_, h3, congrArg Prod.fst hx, ?_, ?_, ?_, ?_⟩
    · simp [obC]
    · simp [Rows.uptoBulkAll, Rows.uptoBulk, d0]; omega
    · simp [Rows.uptoBulkAll, Rows.uptoBulk, d0]; omega
    · simp [Rows.uptoBulkAll, Rows.uptoBulk, d1]; omega
    · simp [Rows.uptoBulkAll, Rows.uptoBulk, d5]; omega
theorem objs_openB {H : Type} {enc : TypeId × Value → H} {w : World} {spare : Nat → Bool} {held : Bool} (fuel : Nat) (v : Value) (y : DataW H × List MemPlace) (h : DataW.trod enc Tryz.prog w 0 spare held fuel 22 [v] = some y) (hy : Rows.uptoBulk y.1 ≤ 1048576) :
    ∃ l : List Ob, ObjsAt w (fun _ => True) v l ∧ (∀ o, o ∈ l → o.fits ∧ NumB o.attrs) ∧ (objsT l).length ≤ 11 * Rows.uptoBulk y.1 := by
  rcases DataW.trod_slice Tryz.underlying22 h with ⟨hcs, _⟩ | ⟨a, len, cap, elems, rest, n, hfu, hcs, hx, _, hlc, hcm, hel, hV, _, _⟩
  · simp at hcs
    subst hcs
    exact ⟨[], .nil, (fun a ha => by cases ha), by simp [objsT]⟩
  · simp at hcs
    subst hcs
    rw [pO] at hV
    have hyB : Rows.uptoBulk y.1 = Rows.uptoBulkAll (elems.map (·.1)) + Rows.uptoBulkAll (rest.map (·.1)) + 1 := by rw [hx]; rfl
    have inh : Inhabited (Ob × Value) := ⟨(⟨[], [], 0, 0, 0, [], false, []⟩, .slice none 0 0)⟩
    obtain ⟨L, hL⟩ := Go.Deep.choose_lt (α := Ob × Value) (n := len) (p := fun i q => w.cells? 0 (a.add (i * 8)) 8 = some (obC q.1 q.2).toList ∧ AttrsAt w (fun _ => True) q.2 q.1.attrs ∧ NumB q.1.attrs ∧ q.1.fits ∧ ∀ e, elems[i]? = some e → (objT q.1).length ≤ 11 * Rows.uptoBulk e.1) (fun i hi => by
      have hVi := hV i hi
      have hi2 : i < elems.length := by omega
      rw [List.getElem?_eq_getElem hi2] at hVi
      obtain ⟨cs', h1, h2⟩ := Option.bind_eq_some_iff.1 hVi
      obtain ⟨_, hcl, _⟩ := World.cells?_some h1
      obtain ⟨kind, name, o, l, c, nd, nt, pv, n2, y4, fs, e1, e3, e4, e5, e6, e7, e8⟩ := trod_objB hcl h2
      have hbe := bulk_mem (List.mem_map.2 ⟨elems[i], List.getElem_mem hi2, rfl⟩ : elems[i].1 ∈ elems.map (·.1))
      have hag : Rows.uptoBulk elems[i].1 = Rows.uptoBulkAll fs + 1 := by rw [e4]; rfl
      obtain ⟨ps, hps, hnb, htl⟩ := attrs_openB n2 pv y4 e3 (by omega)
      exact ⟨(⟨kind, name, o, l, c, ps, nd, nt⟩, pv), by rw [h1, e1 ps], hps, hnb, ⟨by unfold Txt; dsimp only; omega, by unfold Txt; dsimp only; omega, by unfold Txt; dsimp only; omega⟩, fun e he => by
        rw [List.getElem?_eq_getElem hi2] at he
        cases he
        have hn := noted_len nd nt
        have ht := htl 0
        unfold objT
        simp
        omega⟩)
    have hfits : ∀ x, x ∈ ((List.range len).map L).map Prod.fst → x.fits ∧ NumB x.attrs := fun x hx => by
      obtain ⟨q, hq, rfl⟩ := List.mem_map.1 hx
      obtain ⟨i, hi, rfl⟩ := List.mem_map.1 hq
      exact ⟨(hL i (List.mem_range.1 hi)).2.2.2.1, (hL i (List.mem_range.1 hi)).2.2.1⟩
    have hbulk := objsT_bulk (((List.range len).map L).map Prod.fst) (elems.map (·.1)) (by simp; omega) (fun i a e ha he => by
      rw [List.getElem?_map] at he
      cases hel2 : elems[i]? with
      | none => rw [hel2] at he; cases he
      | some e' =>
        rw [hel2] at he
        cases he
        have hi : i < len := by have := (List.getElem?_eq_some_iff.1 hel2).1; omega
        rw [List.getElem?_map, List.getElem?_map, List.getElem?_range hi] at ha
        cases ha
        exact (hL i hi).2.2.2.2 e' hel2)
    refine ⟨((List.range len).map L).map Prod.fst, ?_, hfits, by omega⟩
    · obtain ⟨b, off, spot⟩ := a
      by_cases hp : 0 < len
      · obtain ⟨_, hcl, hc0⟩ := World.cells?_some (hL 0 hp).1
        have hspot : spot = none := by
          have := hc0 0 (by omega)
          have := World.cell?_spot (this.trans rfl)
          simpa [Addr.add] using this
        subst hspot
        have hbw : b < w.heap.size := by
          have := World.cells?_block (hL 0 hp).1 (by omega)
          simpa [Addr.add] using this
        have hr : ObjsAt w (fun _ => True) (.slice (some ⟨b, off, none⟩) ((List.range len).map L).length cap) (((List.range len).map L).map Prod.fst) := by
          refine .row trivial hbw (fun j u hj => ?_) ⟨by simp; omega, hcm⟩ (fun q hq => ?_)
          · obtain ⟨i, t, hi, ht, rfl, hu⟩ := rowsO_range L len j u hj
            obtain ⟨_, _, hck⟩ := World.cells?_some (hL i hi).1
            have := hck t ht
            rw [Array.getElem?_toList, hu, Go.Deep.add_add, Lib.add_plain] at this
            exact this
          · obtain ⟨i, hi, rfl⟩ := List.mem_map.1 hq
            exact (hL i (List.mem_range.1 hi)).2.1
        simpa using hr
      · have h0 : len = 0 := by omega
        subst h0
        exact .nil
set_option maxRecDepth 100000 in
/-- A tree that came in. -/
theorem tree_openB {H : Type} {enc : TypeId × Value → H} {w : World} {spare : Nat → Bool} {held : Bool} {r : Reach} {b0 : Nat} {v : Value} {d : DataW H} {p : List MemPlace}
    (hv : Value.okWide Tryz.prog w r b0 24 v) (h : DataW.Trod enc Tryz.prog w 0 spare held 24 v d p) (hd : Rows.uptoBulk d ≤ 1048576) :
    ∃ (t : Tr) (pv : Value), v = .agg (trC t pv) ∧ ObjsAt w (fun _ => True) pv t.objs ∧ t.fits ∧ (∀ o, o ∈ t.objs → o.fits ∧ NumB o.attrs) ∧ (treeT t).length ≤ 11 * 1048576 := by
  obtain ⟨cs, rfl, hsz⟩ := okWide_struct Tryz.underlying24 hv
  rw [pT] at hsz
  obtain ⟨c0, c1, c2, c3, c4, rfl⟩ := array5 hsz
  obtain ⟨fuel, hf⟩ := h
  obtain ⟨xs, n, hn, hx, hl, hlen, hfs⟩ := DataW.trod_struct Tryz.underlying24 hf
  match xs, hlen with
  | [y0, y1, y2, y3, y4], _ =>
    have h0 := hfs 0 _ rfl
    have h1 := hfs 1 _ rfl
    have h2 := hfs 2 _ rfl
    have h3 := hfs 3 _ rfl
    have h4 := hfs 4 _ rfl
    simp [pG, pB, pOL, Value.cells] at h0 h1 h2 h3 h4
    obtain ⟨tv, e0, d0, _⟩ := DataW.trod_string Tryz.underlying9 h0
    obtain ⟨tc, e1, d1, _⟩ := DataW.trod_string Tryz.underlying9 h1
    obtain ⟨nd, e3, _⟩ := DataW.trod_bool Tryz.underlying4 h3
    obtain ⟨nt, e4, d4, _⟩ := DataW.trod_string Tryz.underlying9 h4
    simp at e0 e1 e3 e4
    subst e0 e1 e3 e4
    have hd2 : d = .agg [y0.1, y1.1, y2.1, y3.1, y4.1] := congrArg Prod.fst hx
    rw [hd2] at hd
    have hd3 := hd
    simp [Rows.uptoBulkAll, Rows.uptoBulk, d0, d1, d4] at hd3
    obtain ⟨objs, hO, hl2, hlb⟩ := objs_openB n c2 y2 h2 (by omega)
    have hn := noted_len nd nt.data.toList
    refine ⟨⟨tv.data.toList, tc.data.toList, objs, nd, nt.data.toList⟩, c2, ?_, hO, ⟨by unfold Txt; dsimp only; simp; omega, by unfold Txt; dsimp only; simp; omega, by unfold Txt; dsimp only; simp; omega⟩, hl2, ?_⟩
    · simp [trC]
    · unfold treeT
      simp
      omega
end Go.Proofs.YtlbgppijeoonjaaGreatDoor.Cnt
