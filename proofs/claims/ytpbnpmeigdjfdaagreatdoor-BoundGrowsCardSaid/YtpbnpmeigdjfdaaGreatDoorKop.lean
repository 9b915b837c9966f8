import Derived.Test.YtpbnpmeigdjfdaaGreatDoorXKrs
import Derived.OpenShut
import Derived.Deep.Strs
import Derived.SizedLaws
import Derived.ChangeOld
namespace Go.Proofs.YtpbnpmeigdjfdaaGreatDoor
open Go.ChangeShapes Go.RowKit Go.WideShapes
set_option linter.unusedSimpArgs false
set_option linter.unusedVariables false
set_option maxHeartbeats 16000000
set_option maxRecDepth 100000
def Sized (l : List Nat) : Prop := ∀ n, n ∈ l → n ≤ reachBytes
theorem sized_of_all {l : List Nat} (h : l.all (· ≤ reachBytes) = true) : Sized l := fun n hn => by simpa using List.all_eq_true.1 h n hn
theorem sized_rows {H : Type} {P : Program} {t e : TypeId} {es sp : List (DataW H)} (hu : P.underlying t = some (.slice e)) (h : Sized (DataW.weights P t (.slice es sp))) : es.length * P.bytesOf e ≤ reachBytes := by
 unfold DataW.weights at h
 simp only [hu] at h
 exact Nat.le_trans (Nat.mul_le_mul_right _ (Nat.le_add_right _ _)) (h _ (List.mem_cons_self ..))
theorem sized_field {H : Type} {P : Program} {t : TypeId} {fs : Array Field} {parts : List (DataW H)} (hu : P.underlying t = some (.struct fs)) (h : Sized (DataW.weights P t (.agg parts))) {j : Nat} {u : TypeId} {d : DataW H} (hj : (fs.toList.map (·.type))[j]? = some u) (hd : parts[j]? = some d) : Sized (d.weights P u) := by
 unfold DataW.weights at h
 simp only [hu] at h
 exact fun n hn => h n (DataW.weights_mem_each hj hd n hn)
theorem S_eq (s : ByteArray) : Value.string s = S s.data.toList := by cases s; simp [S]
theorem rows_open {α : Type} (inh : Inhabited α) {H : Type} {enc : TypeId × Value → H} {w : World} {spare : Nat → Bool} {held : Bool} {fuel : Nat} {T E : TypeId} {k : Nat} (hk : 0 < k) (hu : Tryz.prog.underlying T = some (.slice E)) (hc : Tryz.prog.cellsOf E = k) {P : α → Nat → Value → Prop} {v : Value} {y : DataW H × List MemPlace}
  (h : DataW.trod enc Tryz.prog w 0 spare held fuel T [v] = some y)
  (one : ∀ n cs z, cs.length = k → DataW.trod enc Tryz.prog w 0 spare held n E cs = some z → ∃ x : α, ∀ i, i < k → ∃ u, cs[i]? = some u ∧ P x i u) :
  ∃ (s : Sl) (l : List α), v = .slice s.a s.n s.c ∧ RowsAt w k P s l ∧ (Sized (y.1.weights Tryz.prog T) → l.length * Tryz.prog.bytesOf E ≤ reachBytes) := by
 rcases DataW.trod_slice hu h with ⟨hcs, _⟩ | ⟨a, len, cap, elems, rest, n, hfu, hcs, hx, _, hlc, hcm, hel, hV, _, _⟩
 ·simp at hcs
  subst hcs
  exact ⟨⟨none, 0, 0⟩, [], rfl, ⟨rfl, Nat.le_refl _, Nat.zero_le _, fun j x hj => by simp at hj⟩, fun _ => by simp⟩
 ·simp at hcs
  subst hcs
  rw [hc] at hV
  obtain ⟨L, hL⟩ := Go.Deep.choose_lt (α := α) (n := len) (p := fun i x => ∃ cs, w.cells? 0 (a.add (i * k)) k = some cs ∧ ∀ t, t < k → ∃ u, cs[t]? = some u ∧ P x t u) (fun i hi => by
   have hVi := hV i hi
   rw [List.getElem?_eq_getElem (by omega : i < elems.length)] at hVi
   obtain ⟨cs', h1, h2⟩ := Option.bind_eq_some_iff.1 hVi
   obtain ⟨_, hcl, _⟩ := World.cells?_some h1
   obtain ⟨x, hx⟩ := one n cs' _ hcl h2
   exact ⟨x, cs', h1, hx⟩)
  obtain ⟨b, off, spot⟩ := a
  refine ⟨⟨some ⟨b, off, spot⟩, len, cap⟩, (List.range len).map L, rfl, ⟨by simp, hlc, hcm, fun j x hj => ?_⟩, fun hz => ?_⟩
  ·rw [List.getElem?_map] at hj
   obtain ⟨i, hi, rfl⟩ := Option.map_eq_some_iff.1 hj
   have hjl : j < len := by have := (List.getElem?_eq_some_iff.1 hi).1; simpa using this
   obtain rfl : j = i := by rw [List.getElem?_range hjl] at hi; exact Option.some.inj hi
   obtain ⟨cs, h1, h2⟩ := hL j hjl
   obtain ⟨_, hcl, hcc⟩ := World.cells?_some h1
   have hspot : spot = none := by
    obtain ⟨cs0, g1, g2⟩ := hL 0 (by omega)
    obtain ⟨_, gl, gc⟩ := World.cells?_some g1
    obtain ⟨u, gu, _⟩ := g2 0 hk
    have := World.cell?_spot ((gc 0 hk).trans gu)
    simpa [Addr.add] using this
   subst hspot
   refine ⟨b, off, rfl, ?_, fun t ht => ?_⟩
   ·have := World.cells?_block h1 hk
    rw [WideShapes.add_plain] at this
    exact this
   ·obtain ⟨u, hu1, hu2⟩ := h2 t ht
    have := (hcc t ht).trans hu1
    rw [WideShapes.add_plain, WideShapes.add_plain] at this
    exact ⟨u, this, hu2⟩
  ·rw [hx] at hz
   have := sized_rows hu hz
   rw [List.length_map, hel] at this
   simpa using this
def evP2 (x : Ev) (i : Nat) (u : Value) : Prop := evP x i u ∧ x.mask < 4294967296
theorem p_int : Tryz.prog.cellsOf 3 = 1 := by kernel_rfl
theorem p_string : Tryz.prog.cellsOf 9 = 1 := by kernel_rfl
theorem p_bool : Tryz.prog.cellsOf 4 = 1 := by kernel_rfl
theorem p_uint32 : Tryz.prog.cellsOf 161 = 1 := by kernel_rfl
theorem p_uint64 : Tryz.prog.cellsOf 38 = 1 := by kernel_rfl
theorem p_Lint : Tryz.prog.cellsOf 64 = 1 := by kernel_rfl
theorem p_apiResourceKind : Tryz.prog.cellsOf 80 = 1 := by kernel_rfl
theorem p_apiActionKind : Tryz.prog.cellsOf 166 = 1 := by kernel_rfl
theorem p_apiMessageKind : Tryz.prog.cellsOf 171 = 1 := by kernel_rfl
theorem p_apiAction : Tryz.prog.cellsOf 168 = 4 := by kernel_rfl
theorem p_apiOs : Tryz.prog.cellsOf 23 = 9 := by kernel_rfl
theorem p_Lstring : Tryz.prog.cellsOf 24 = 1 := by kernel_rfl
theorem p_LapiTask : Tryz.prog.cellsOf 25 = 1 := by kernel_rfl
theorem p_LapiResource : Tryz.prog.cellsOf 26 = 1 := by kernel_rfl
theorem p_LapiEvent : Tryz.prog.cellsOf 27 = 1 := by kernel_rfl
theorem p_LapiCounter : Tryz.prog.cellsOf 28 = 1 := by kernel_rfl
theorem p_LapiAlarm : Tryz.prog.cellsOf 29 = 1 := by kernel_rfl
theorem p_LapiIsr : Tryz.prog.cellsOf 30 = 1 := by kernel_rfl
theorem p_LapiMessage : Tryz.prog.cellsOf 31 = 1 := by kernel_rfl
theorem one_int {H : Type} {enc : TypeId × Value → H} {w : World} {spare : Nat → Bool} {held : Bool} (n : Nat) (cs : List Value) (z : DataW H × List MemPlace) (hl : cs.length = 1) (h : DataW.trod enc Tryz.prog w 0 spare held n 3 cs = some z) : ∃ x : Int, ∀ i, i < 1 → ∃ u, cs[i]? = some u ∧ intP x i u := by
 obtain ⟨x, rfl, _, _⟩ := DataW.trod_int Tryz.underlying3 h
 exact ⟨x, fun i hi => by obtain rfl : i = 0 := (by omega); exact ⟨_, rfl, rfl⟩⟩
theorem one_str {H : Type} {enc : TypeId × Value → H} {w : World} {spare : Nat → Bool} {held : Bool} (n : Nat) (cs : List Value) (z : DataW H × List MemPlace) (hl : cs.length = 1) (h : DataW.trod enc Tryz.prog w 0 spare held n 9 cs = some z) : ∃ x : List UInt8, ∀ i, i < 1 → ∃ u, cs[i]? = some u ∧ strP x i u := by
 obtain ⟨x, rfl, _, _⟩ := DataW.trod_string Tryz.underlying9 h
 exact ⟨x.data.toList, fun i hi => by obtain rfl : i = 0 := (by omega); exact ⟨_, rfl, S_eq x⟩⟩
theorem ints_open {H : Type} {enc : TypeId × Value → H} {w : World} {spare : Nat → Bool} {held : Bool} {fuel : Nat} {v : Value} {y : DataW H × List MemPlace} (h : DataW.trod enc Tryz.prog w 0 spare held fuel 64 [v] = some y) : ∃ l, IntsV w l v := by
 obtain ⟨s, l, e, hr, _⟩ := rows_open ⟨0⟩ (by omega) Tryz.underlying64 p_int h one_int
 exact ⟨l, s, e, hr⟩
theorem list3 {α : Type} {l : List α} (h : l.length = 3) : ∃ c0 c1 c2, l = [c0, c1, c2] := by
 match l, h with
 | [c0, c1, c2], _ => exact ⟨c0, c1, c2, rfl⟩
theorem list4 {α : Type} {l : List α} (h : l.length = 4) : ∃ c0 c1 c2 c3, l = [c0, c1, c2, c3] := by
 match l, h with
 | [c0, c1, c2, c3], _ => exact ⟨c0, c1, c2, c3, rfl⟩
theorem list5 {α : Type} {l : List α} (h : l.length = 5) : ∃ c0 c1 c2 c3 c4, l = [c0, c1, c2, c3, c4] := by
 match l, h with
 | [c0, c1, c2, c3, c4], _ => exact ⟨c0, c1, c2, c3, c4, rfl⟩
theorem list8 {α : Type} {l : List α} (h : l.length = 8) : ∃ c0 c1 c2 c3 c4 c5 c6 c7, l = [c0, c1, c2, c3, c4, c5, c6, c7] := by
 match l, h with
 | [c0, c1, c2, c3, c4, c5, c6, c7], _ => exact ⟨c0, c1, c2, c3, c4, c5, c6, c7, rfl⟩
theorem list9 {α : Type} {l : List α} (h : l.length = 9) : ∃ c0 c1 c2 c3 c4 c5 c6 c7 c8, l = [c0, c1, c2, c3, c4, c5, c6, c7, c8] := by
 match l, h with
 | [c0, c1, c2, c3, c4, c5, c6, c7, c8], _ => exact ⟨c0, c1, c2, c3, c4, c5, c6, c7, c8, rfl⟩
theorem list10 {α : Type} {l : List α} (h : l.length = 10) : ∃ c0 c1 c2 c3 c4 c5 c6 c7 c8 c9, l = [c0, c1, c2, c3, c4, c5, c6, c7, c8, c9] := by
 match l, h with
 | [c0, c1, c2, c3, c4, c5, c6, c7, c8, c9], _ => exact ⟨c0, c1, c2, c3, c4, c5, c6, c7, c8, c9, rfl⟩
theorem list18 {α : Type} {l : List α} (h : l.length = 18) : ∃ c0 c1 c2 c3 c4 c5 c6 c7 c8 c9 c10 c11 c12 c13 c14 c15 c16 c17, l = [c0, c1, c2, c3, c4, c5, c6, c7, c8, c9, c10, c11, c12, c13, c14, c15, c16, c17] := by
 match l, h with
 | [c0, c1, c2, c3, c4, c5, c6, c7, c8, c9, c10, c11, c12, c13, c14, c15, c16, c17], _ => exact ⟨c0, c1, c2, c3, c4, c5, c6, c7, c8, c9, c10, c11, c12, c13, c14, c15, c16, c17, rfl⟩
theorem one_rs {H : Type} {enc : TypeId × Value → H} {w : World} {spare : Nat → Bool} {held : Bool} (fuel : Nat) (cs : List Value) (y : DataW H × List MemPlace) (hcs : cs.length = 3) (h : DataW.trod enc Tryz.prog w 0 spare held fuel 82 cs = some y) : ∃ x : Rs, ∀ i, i < 3 → ∃ u, cs[i]? = some u ∧ rsP x i u := by
 obtain ⟨c0, c1, c2, rfl⟩ := list3 hcs
 obtain ⟨xs, n, hn, hx, hl, hlen, hfs⟩ := DataW.trod_struct Tryz.underlying82 h
 match xs, hlen with
 | [y0, y1, y2], _ =>
  have h0 := hfs 0 _ rfl
  have h1 := hfs 1 _ rfl
  have h2 := hfs 2 _ rfl
  simp [p_apiResourceKind, p_int, p_string] at h0 h1 h2
  obtain ⟨v0, e0, _, _⟩ := DataW.trod_string Tryz.underlying9 h0
  obtain ⟨v1, e1, _, _⟩ := DataW.trod_int Tryz.underlying80 h1
  obtain ⟨v2, e2, _, _⟩ := DataW.trod_int Tryz.underlying3 h2
  simp at e0 e1 e2
  subst e0 e1 e2
  refine ⟨⟨v0.data.toList, v1, v2⟩, fun i hi => ?_⟩
  have hi2 : i = 0 ∨ i = 1 ∨ i = 2 := by omega
  rcases hi2 with rfl | rfl | rfl
  ·exact ⟨_, rfl, S_eq v0⟩
  ·exact ⟨_, rfl, rfl⟩
  ·exact ⟨_, rfl, rfl⟩
theorem one_ev {H : Type} {enc : TypeId × Value → H} {w : World} {spare : Nat → Bool} {held : Bool} (fuel : Nat) (cs : List Value) (y : DataW H × List MemPlace) (hcs : cs.length = 3) (h : DataW.trod enc Tryz.prog w 0 spare held fuel 163 cs = some y) : ∃ x : Ev, ∀ i, i < 3 → ∃ u, cs[i]? = some u ∧ evP2 x i u := by
 obtain ⟨c0, c1, c2, rfl⟩ := list3 hcs
 obtain ⟨xs, n, hn, hx, hl, hlen, hfs⟩ := DataW.trod_struct Tryz.underlying163 h
 match xs, hlen with
 | [y0, y1, y2], _ =>
  have h0 := hfs 0 _ rfl
  have h1 := hfs 1 _ rfl
  have h2 := hfs 2 _ rfl
  simp [p_bool, p_string, p_uint32] at h0 h1 h2
  obtain ⟨v0, e0, _, _⟩ := DataW.trod_string Tryz.underlying9 h0
  obtain ⟨v1z, e1, _, b1⟩ := DataW.trod_int Tryz.underlying161 h1
  obtain ⟨v1, rfl⟩ := Int.eq_ofNat_of_zero_le (bounds_u32 b1).1
  obtain ⟨v2, e2, _⟩ := DataW.trod_bool Tryz.underlying4 h2
  simp at e0 e1 e2
  subst e0 e1 e2
  have hbd : v1 < 4294967296 := by have := (bounds_u32 b1).2; omega
  refine ⟨⟨v0.data.toList, v1, v2⟩, fun i hi => ?_⟩
  have hi2 : i = 0 ∨ i = 1 ∨ i = 2 := by omega
  rcases hi2 with rfl | rfl | rfl
  ·exact ⟨_, rfl, S_eq v0, hbd⟩
  ·exact ⟨_, rfl, rfl, hbd⟩
  ·exact ⟨_, rfl, rfl, hbd⟩
theorem one_ct {H : Type} {enc : TypeId × Value → H} {w : World} {spare : Nat → Bool} {held : Bool} (fuel : Nat) (cs : List Value) (y : DataW H × List MemPlace) (hcs : cs.length = 4) (h : DataW.trod enc Tryz.prog w 0 spare held fuel 165 cs = some y) : ∃ x : Ct, ∀ i, i < 4 → ∃ u, cs[i]? = some u ∧ ctP x i u := by
 obtain ⟨c0, c1, c2, c3, rfl⟩ := list4 hcs
 obtain ⟨xs, n, hn, hx, hl, hlen, hfs⟩ := DataW.trod_struct Tryz.underlying165 h
 match xs, hlen with
 | [y0, y1, y2, y3], _ =>
  have h0 := hfs 0 _ rfl
  have h1 := hfs 1 _ rfl
  have h2 := hfs 2 _ rfl
  have h3 := hfs 3 _ rfl
  simp [p_string, p_uint32] at h0 h1 h2 h3
  obtain ⟨v0, e0, _, _⟩ := DataW.trod_string Tryz.underlying9 h0
  obtain ⟨v1z, e1, _, b1⟩ := DataW.trod_int Tryz.underlying161 h1
  obtain ⟨v1, rfl⟩ := Int.eq_ofNat_of_zero_le (bounds_u32 b1).1
  obtain ⟨v2z, e2, _, b2⟩ := DataW.trod_int Tryz.underlying161 h2
  obtain ⟨v2, rfl⟩ := Int.eq_ofNat_of_zero_le (bounds_u32 b2).1
  obtain ⟨v3z, e3, _, b3⟩ := DataW.trod_int Tryz.underlying161 h3
  obtain ⟨v3, rfl⟩ := Int.eq_ofNat_of_zero_le (bounds_u32 b3).1
  simp at e0 e1 e2 e3
  subst e0 e1 e2 e3
  refine ⟨⟨v0.data.toList, v1, v2, v3⟩, fun i hi => ?_⟩
  have hi2 : i = 0 ∨ i = 1 ∨ i = 2 ∨ i = 3 := by omega
  rcases hi2 with rfl | rfl | rfl | rfl
  ·exact ⟨_, rfl, S_eq v0⟩
  ·exact ⟨_, rfl, rfl⟩
  ·exact ⟨_, rfl, rfl⟩
  ·exact ⟨_, rfl, rfl⟩
theorem one_tk {H : Type} {enc : TypeId × Value → H} {w : World} {spare : Nat → Bool} {held : Bool} (fuel : Nat) (cs : List Value) (y : DataW H × List MemPlace) (hcs : cs.length = 8) (h : DataW.trod enc Tryz.prog w 0 spare held fuel 79 cs = some y) : ∃ x : Tk, ∀ i, i < 8 → ∃ u, cs[i]? = some u ∧ tkP w x i u := by
 obtain ⟨c0, c1, c2, c3, c4, c5, c6, c7, rfl⟩ := list8 hcs
 obtain ⟨xs, n, hn, hx, hl, hlen, hfs⟩ := DataW.trod_struct Tryz.underlying79 h
 match xs, hlen with
 | [y0, y1, y2, y3, y4, y5, y6, y7], _ =>
  have h0 := hfs 0 _ rfl
  have h1 := hfs 1 _ rfl
  have h2 := hfs 2 _ rfl
  have h3 := hfs 3 _ rfl
  have h4 := hfs 4 _ rfl
  have h5 := hfs 5 _ rfl
  have h6 := hfs 6 _ rfl
  have h7 := hfs 7 _ rfl
  simp [p_Lint, p_bool, p_int, p_string] at h0 h1 h2 h3 h4 h5 h6 h7
  obtain ⟨v0, e0, _, _⟩ := DataW.trod_string Tryz.underlying9 h0
  obtain ⟨v1, e1, _, _⟩ := DataW.trod_int Tryz.underlying3 h1
  obtain ⟨v2, e2, _⟩ := DataW.trod_bool Tryz.underlying4 h2
  obtain ⟨v3, e3, _, _⟩ := DataW.trod_int Tryz.underlying3 h3
  obtain ⟨v4, w4⟩ := ints_open h4
  obtain ⟨v5, w5⟩ := ints_open h5
  obtain ⟨v6, w6⟩ := ints_open h6
  obtain ⟨v7, w7⟩ := ints_open h7
  simp at e0 e1 e2 e3
  subst e0 e1 e2 e3
  refine ⟨⟨v0.data.toList, v1, v2, v3, v4, v5, v6, v7⟩, fun i hi => ?_⟩
  have hi2 : i = 0 ∨ i = 1 ∨ i = 2 ∨ i = 3 ∨ i = 4 ∨ i = 5 ∨ i = 6 ∨ i = 7 := by omega
  rcases hi2 with rfl | rfl | rfl | rfl | rfl | rfl | rfl | rfl
  ·exact ⟨_, rfl, S_eq v0⟩
  ·exact ⟨_, rfl, rfl⟩
  ·exact ⟨_, rfl, rfl⟩
  ·exact ⟨_, rfl, rfl⟩
  ·exact ⟨_, rfl, w4⟩
  ·exact ⟨_, rfl, w5⟩
  ·exact ⟨_, rfl, w6⟩
  ·exact ⟨_, rfl, w7⟩
theorem one_is {H : Type} {enc : TypeId × Value → H} {w : World} {spare : Nat → Bool} {held : Bool} (fuel : Nat) (cs : List Value) (y : DataW H × List MemPlace) (hcs : cs.length = 5) (h : DataW.trod enc Tryz.prog w 0 spare held fuel 103 cs = some y) : ∃ x : Is, ∀ i, i < 5 → ∃ u, cs[i]? = some u ∧ isP w x i u := by
 obtain ⟨c0, c1, c2, c3, c4, rfl⟩ := list5 hcs
 obtain ⟨xs, n, hn, hx, hl, hlen, hfs⟩ := DataW.trod_struct Tryz.underlying103 h
 match xs, hlen with
 | [y0, y1, y2, y3, y4], _ =>
  have h0 := hfs 0 _ rfl
  have h1 := hfs 1 _ rfl
  have h2 := hfs 2 _ rfl
  have h3 := hfs 3 _ rfl
  have h4 := hfs 4 _ rfl
  simp [p_Lint, p_int, p_string] at h0 h1 h2 h3 h4
  obtain ⟨v0, e0, _, _⟩ := DataW.trod_string Tryz.underlying9 h0
  obtain ⟨v1, e1, _, _⟩ := DataW.trod_int Tryz.underlying3 h1
  obtain ⟨v2, e2, _, _⟩ := DataW.trod_int Tryz.underlying3 h2
  obtain ⟨v3, w3⟩ := ints_open h3
  obtain ⟨v4, w4⟩ := ints_open h4
  simp at e0 e1 e2
  subst e0 e1 e2
  refine ⟨⟨v0.data.toList, v1, v2, v3, v4⟩, fun i hi => ?_⟩
  have hi2 : i = 0 ∨ i = 1 ∨ i = 2 ∨ i = 3 ∨ i = 4 := by omega
  rcases hi2 with rfl | rfl | rfl | rfl | rfl
  ·exact ⟨_, rfl, S_eq v0⟩
  ·exact ⟨_, rfl, rfl⟩
  ·exact ⟨_, rfl, rfl⟩
  ·exact ⟨_, rfl, w3⟩
  ·exact ⟨_, rfl, w4⟩
theorem one_al {H : Type} {enc : TypeId × Value → H} {w : World} {spare : Nat → Bool} {held : Bool} (fuel : Nat) (cs : List Value) (y : DataW H × List MemPlace) (hcs : cs.length = 9) (h : DataW.trod enc Tryz.prog w 0 spare held fuel 170 cs = some y) : ∃ x : Al, ∀ i, i < 9 → ∃ u, cs[i]? = some u ∧ alP w x i u := by
 obtain ⟨c0, c1, c2, c3, c4, c5, c6, c7, c8, rfl⟩ := list9 hcs
 obtain ⟨xs, n, hn, hx, hl, hlen, hfs⟩ := DataW.trod_struct Tryz.underlying170 h
 match xs, hlen with
 | [y0, y1, y2, y3, y4, y5], _ =>
  have h0 := hfs 0 _ rfl
  have h1 := hfs 1 _ rfl
  have h2 := hfs 2 _ rfl
  have h3 := hfs 3 _ rfl
  have h4 := hfs 4 _ rfl
  have h5 := hfs 5 _ rfl
  simp [p_Lint, p_apiAction, p_int, p_string, p_uint32] at h0 h1 h2 h3 h4 h5
  obtain ⟨v0, e0, _, _⟩ := DataW.trod_string Tryz.underlying9 h0
  obtain ⟨v1, e1, _, _⟩ := DataW.trod_int Tryz.underlying3 h1
  obtain ⟨ys, m, _, _, _, ylen, yfs⟩ := DataW.trod_struct Tryz.underlying168 h2
  match ys, ylen with
  | [z0, z1, z2, z3], _ =>
   have g0 := yfs 0 _ rfl
   have g1 := yfs 1 _ rfl
   have g2 := yfs 2 _ rfl
   have g3 := yfs 3 _ rfl
   simp [p_apiActionKind, p_int, p_string] at g0 g1 g2 g3
   obtain ⟨akind, eg0, _, _⟩ := DataW.trod_int Tryz.underlying166 g0
   obtain ⟨atask, eg1, _, _⟩ := DataW.trod_int Tryz.underlying3 g1
   obtain ⟨aevent, eg2, _, _⟩ := DataW.trod_int Tryz.underlying3 g2
   obtain ⟨aname, eg3, _, _⟩ := DataW.trod_string Tryz.underlying9 g3
   obtain ⟨v3, w3⟩ := ints_open h3
   obtain ⟨v4z, e4, _, b4⟩ := DataW.trod_int Tryz.underlying161 h4
   obtain ⟨v4, rfl⟩ := Int.eq_ofNat_of_zero_le (bounds_u32 b4).1
   obtain ⟨v5z, e5, _, b5⟩ := DataW.trod_int Tryz.underlying161 h5
   obtain ⟨v5, rfl⟩ := Int.eq_ofNat_of_zero_le (bounds_u32 b5).1
   simp at e0 e1 eg0 eg1 eg2 eg3 e4 e5
   subst e0 e1 eg0 eg1 eg2 eg3 e4 e5
   refine ⟨⟨v0.data.toList, v1, ⟨akind, atask, aevent, aname.data.toList⟩, v3, v4, v5⟩, fun i hi => ?_⟩
   have hi2 : i = 0 ∨ i = 1 ∨ i = 2 ∨ i = 3 ∨ i = 4 ∨ i = 5 ∨ i = 6 ∨ i = 7 ∨ i = 8 := by omega
   rcases hi2 with rfl | rfl | rfl | rfl | rfl | rfl | rfl | rfl | rfl
   ·exact ⟨_, rfl, S_eq v0⟩
   ·exact ⟨_, rfl, rfl⟩
   ·exact ⟨_, rfl, rfl⟩
   ·exact ⟨_, rfl, rfl⟩
   ·exact ⟨_, rfl, rfl⟩
   ·exact ⟨_, rfl, S_eq aname⟩
   ·exact ⟨_, rfl, w3⟩
   ·exact ⟨_, rfl, rfl⟩
   ·exact ⟨_, rfl, rfl⟩
theorem one_ms {H : Type} {enc : TypeId × Value → H} {w : World} {spare : Nat → Bool} {held : Bool} (fuel : Nat) (cs : List Value) (y : DataW H × List MemPlace) (hcs : cs.length = 10) (h : DataW.trod enc Tryz.prog w 0 spare held fuel 173 cs = some y) : ∃ x : Ms, ∀ i, i < 10 → ∃ u, cs[i]? = some u ∧ msP x i u := by
 obtain ⟨c0, c1, c2, c3, c4, c5, c6, c7, c8, c9, rfl⟩ := list10 hcs
 obtain ⟨xs, n, hn, hx, hl, hlen, hfs⟩ := DataW.trod_struct Tryz.underlying173 h
 match xs, hlen with
 | [y0, y1, y2, y3, y4, y5, y6], _ =>
  have h0 := hfs 0 _ rfl
  have h1 := hfs 1 _ rfl
  have h2 := hfs 2 _ rfl
  have h3 := hfs 3 _ rfl
  have h4 := hfs 4 _ rfl
  have h5 := hfs 5 _ rfl
  have h6 := hfs 6 _ rfl
  simp [p_apiAction, p_apiMessageKind, p_int, p_string, p_uint64] at h0 h1 h2 h3 h4 h5 h6
  obtain ⟨v0, e0, _, _⟩ := DataW.trod_string Tryz.underlying9 h0
  obtain ⟨v1, e1, _, _⟩ := DataW.trod_int Tryz.underlying171 h1
  obtain ⟨v2, e2, _, _⟩ := DataW.trod_int Tryz.underlying3 h2
  obtain ⟨v3, e3, _, _⟩ := DataW.trod_int Tryz.underlying3 h3
  obtain ⟨v4z, e4, _, b4⟩ := DataW.trod_int Tryz.underlying38 h4
  obtain ⟨v4, rfl⟩ := Int.eq_ofNat_of_zero_le (bounds_u64 b4).1
  obtain ⟨v5, e5, _, _⟩ := DataW.trod_int Tryz.underlying3 h5
  obtain ⟨ys, m, _, _, _, ylen, yfs⟩ := DataW.trod_struct Tryz.underlying168 h6
  match ys, ylen with
  | [z0, z1, z2, z3], _ =>
   have g0 := yfs 0 _ rfl
   have g1 := yfs 1 _ rfl
   have g2 := yfs 2 _ rfl
   have g3 := yfs 3 _ rfl
   simp [p_apiActionKind, p_int, p_string] at g0 g1 g2 g3
   obtain ⟨akind, eg0, _, _⟩ := DataW.trod_int Tryz.underlying166 g0
   obtain ⟨atask, eg1, _, _⟩ := DataW.trod_int Tryz.underlying3 g1
   obtain ⟨aevent, eg2, _, _⟩ := DataW.trod_int Tryz.underlying3 g2
   obtain ⟨aname, eg3, _, _⟩ := DataW.trod_string Tryz.underlying9 g3
   simp at e0 e1 e2 e3 e4 e5 eg0 eg1 eg2 eg3
   subst e0 e1 e2 e3 e4 e5 eg0 eg1 eg2 eg3
   refine ⟨⟨v0.data.toList, v1, v2, v3, v4, v5, ⟨akind, atask, aevent, aname.data.toList⟩⟩, fun i hi => ?_⟩
   have hi2 : i = 0 ∨ i = 1 ∨ i = 2 ∨ i = 3 ∨ i = 4 ∨ i = 5 ∨ i = 6 ∨ i = 7 ∨ i = 8 ∨ i = 9 := by omega
   rcases hi2 with rfl | rfl | rfl | rfl | rfl | rfl | rfl | rfl | rfl | rfl
   ·exact ⟨_, rfl, S_eq v0⟩
   ·exact ⟨_, rfl, rfl⟩
   ·exact ⟨_, rfl, rfl⟩
   ·exact ⟨_, rfl, rfl⟩
   ·exact ⟨_, rfl, rfl⟩
   ·exact ⟨_, rfl, rfl⟩
   ·exact ⟨_, rfl, rfl⟩
   ·exact ⟨_, rfl, rfl⟩
   ·exact ⟨_, rfl, rfl⟩
   ·exact ⟨_, rfl, S_eq aname⟩
end Go.Proofs.YtpbnpmeigdjfdaaGreatDoor
