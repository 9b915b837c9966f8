import Derived.Test.YtmidaeljeoifdaaGreatDoorKba
import Derived.OpenShut
import Derived.Deep.Strs
import Derived.SizedLaws
import Derived.ChangeOld
namespace Go.Proofs.YtmidaeljeoifdaaGreatDoor
open Go.RowKit Go.ChangeShapes Go.WideShapes
set_option linter.unusedVariables false
def Sized (l : List Nat) : Prop := ∀ n, n ∈ l → n ≤ reachBytes
theorem sized_of_all {l : List Nat} (h : l.all (· ≤ reachBytes) = true) : Sized l := fun n hn => by simpa using List.all_eq_true.1 h n hn
theorem sized_rows {H : Type} {P : Program} {t e : TypeId} {es sp : List (DataW H)} (hu : P.underlying t = some (.slice e)) (h : Sized (DataW.weights P t (.slice es sp))) : es.length * P.bytesOf e ≤ reachBytes := by
 unfold DataW.weights at h
 simp only [hu] at h
 exact Nat.le_trans (Nat.mul_le_mul_right _ (Nat.le_add_right _ _)) (h _ (List.mem_cons_self ..))
theorem sized_field {H : Type} {P : Program} {t : TypeId} {fs : Array Field} {parts : List (DataW H)} (hu : P.underlying t = some (.struct fs)) (h : Sized (DataW.weights P t (.agg parts))) {j : Nat} {u : TypeId} {d : DataW H} (hj : (fs.toList.map (·.type))[j]? = some u) (hd : parts[j]? = some d) : Sized (d.weights P u) := by
 unfold DataW.weights at h
 simp only [hu] at h
 exact fun n hn => h n (DataW.weights_mem_each hj hd n hn)
theorem S_eq (s : ByteArray) : Value.string s = S s.data.toList := by cases s; simp [S]
theorem rows_open {α : Type} (inh : Inhabited α) {H : Type} {enc : TypeId × Value → H} {w : World} {spare : Nat → Bool} {held : Bool} {fuel : Nat} {T E : TypeId} {k : Nat} (hk : 0 < k) (hu : Tryz.prog.underlying T = some (.slice E)) (hc : Tryz.prog.cellsOf E = k) {P : α → Nat → Value → Prop} {v : Value} {y : DataW H × List MemPlace}
  (h : DataW.trod enc Tryz.prog w 0 spare held fuel T [v] = some y)
  (one : ∀ n cs z, cs.length = k → DataW.trod enc Tryz.prog w 0 spare held n E cs = some z → ∃ x : α, ∀ i, i < k → ∃ u, cs[i]? = some u ∧ P x i u) :
  ∃ (s : Sl) (l : List α), v = .slice s.a s.n s.c ∧ RowsAt w k P s l ∧ (Sized (y.1.weights Tryz.prog T) → l.length * Tryz.prog.bytesOf E ≤ reachBytes) := by
 rcases DataW.trod_slice hu h with ⟨hcs, _⟩ | ⟨a, len, cap, elems, rest, n, hfu, hcs, hx, _, hlc, hcm, hel, hV, _, _⟩
 ·simp at hcs
  subst hcs
  exact ⟨⟨none, 0, 0⟩, [], rfl, ⟨rfl, Nat.le_refl _, Nat.zero_le _, fun j x hj => by simp at hj⟩, fun _ => by simp⟩
 ·simp at hcs
  subst hcs
  rw [hc] at hV
  obtain ⟨L, hL⟩ := Go.Deep.choose_lt (α := α) (n := len) (p := fun i x => ∃ cs, w.cells? 0 (a.add (i * k)) k = some cs ∧ ∀ t, t < k → ∃ u, cs[t]? = some u ∧ P x t u) (fun i hi => by
   have hVi := hV i hi
   rw [List.getElem?_eq_getElem (by omega : i < elems.length)] at hVi
   obtain ⟨cs', h1, h2⟩ := Option.bind_eq_some_iff.1 hVi
   obtain ⟨_, hcl, _⟩ := World.cells?_some h1
   obtain ⟨x, hx⟩ := one n cs' _ hcl h2
   exact ⟨x, cs', h1, hx⟩)
  obtain ⟨b, off, spot⟩ := a
  refine ⟨⟨some ⟨b, off, spot⟩, len, cap⟩, (List.range len).map L, rfl, ⟨by simp, hlc, hcm, fun j x hj => ?_⟩, fun hz => ?_⟩
  ·rw [List.getElem?_map] at hj
   obtain ⟨i, hi, rfl⟩ := Option.map_eq_some_iff.1 hj
   have hjl : j < len := by have := (List.getElem?_eq_some_iff.1 hi).1; simpa using this
   obtain rfl : j = i := by rw [List.getElem?_range hjl] at hi; exact Option.some.inj hi
   obtain ⟨cs, h1, h2⟩ := hL j hjl
   obtain ⟨_, hcl, hcc⟩ := World.cells?_some h1
   have hspot : spot = none := by
    obtain ⟨cs0, g1, g2⟩ := hL 0 (by omega)
    obtain ⟨_, gl, gc⟩ := World.cells?_some g1
    obtain ⟨u, gu, _⟩ := g2 0 hk
    have := World.cell?_spot ((gc 0 hk).trans gu)
    simpa [Addr.add] using this
   subst hspot
   refine ⟨b, off, rfl, ?_, fun t ht => ?_⟩
   ·have := World.cells?_block h1 hk
    rw [WideShapes.add_plain] at this
    exact this
   ·obtain ⟨u, hu1, hu2⟩ := h2 t ht
    have := (hcc t ht).trans hu1
    rw [WideShapes.add_plain, WideShapes.add_plain] at this
    exact ⟨u, this, hu2⟩
  ·rw [hx] at hz
   have := sized_rows hu hz
   rw [List.length_map, hel] at this
   simpa using this
theorem p_int : Tryz.prog.cellsOf 3 = 1 := by kernel_rfl
theorem p_string : Tryz.prog.cellsOf 9 = 1 := by kernel_rfl
theorem p_bool : Tryz.prog.cellsOf 4 = 1 := by kernel_rfl
theorem p_uint32 : Tryz.prog.cellsOf 53 = 1 := by kernel_rfl
theorem p_uint64 : Tryz.prog.cellsOf 97 = 1 := by kernel_rfl
theorem p_Lint : Tryz.prog.cellsOf 54 = 1 := by kernel_rfl
theorem p_apiResourceKind : Tryz.prog.cellsOf 104 = 1 := by kernel_rfl
theorem p_apiActionKind : Tryz.prog.cellsOf 62 = 1 := by kernel_rfl
theorem p_apiMessageKind : Tryz.prog.cellsOf 96 = 1 := by kernel_rfl
theorem p_apiAction : Tryz.prog.cellsOf 64 = 4 := by kernel_rfl
theorem p_apiOs : Tryz.prog.cellsOf 37 = 9 := by kernel_rfl
theorem p_Lstring : Tryz.prog.cellsOf 38 = 1 := by kernel_rfl
theorem p_LapiTask : Tryz.prog.cellsOf 39 = 1 := by kernel_rfl
theorem p_LapiResource : Tryz.prog.cellsOf 40 = 1 := by kernel_rfl
theorem p_LapiEvent : Tryz.prog.cellsOf 41 = 1 := by kernel_rfl
theorem p_LapiCounter : Tryz.prog.cellsOf 42 = 1 := by kernel_rfl
theorem p_LapiAlarm : Tryz.prog.cellsOf 43 = 1 := by kernel_rfl
theorem p_LapiIsr : Tryz.prog.cellsOf 44 = 1 := by kernel_rfl
theorem p_LapiMessage : Tryz.prog.cellsOf 45 = 1 := by kernel_rfl
theorem one_int {H : Type} {enc : TypeId × Value → H} {w : World} {spare : Nat → Bool} {held : Bool} (n : Nat) (cs : List Value) (z : DataW H × List MemPlace) (hl : cs.length = 1) (h : DataW.trod enc Tryz.prog w 0 spare held n 3 cs = some z) : ∃ x : Int, ∀ i, i < 1 → ∃ u, cs[i]? = some u ∧ intP x i u := by
 obtain ⟨x, rfl, _, _⟩ := DataW.trod_int Tryz.underlying3 h
 exact ⟨x, fun i hi => by obtain rfl : i = 0 := by omega
              exact ⟨_, rfl, rfl⟩⟩
theorem ints_open {H : Type} {enc : TypeId × Value → H} {w : World} {spare : Nat → Bool} {held : Bool} {fuel : Nat} {v : Value} {y : DataW H × List MemPlace} (h : DataW.trod enc Tryz.prog w 0 spare held fuel 54 [v] = some y) : ∃ l, IntsV w l v := by
 obtain ⟨s, l, e, hr, _⟩ := rows_open ⟨0⟩ (by omega) Tryz.underlying54 p_int h one_int
 exact ⟨l, s, e, hr⟩
theorem list3 {α : Type} {l : List α} (h : l.length = 3) : ∃ c0 c1 c2, l = [c0, c1, c2] := by
 match l, h with
 | [c0, c1, c2], _ => exact ⟨c0, c1, c2, rfl⟩
theorem list4 {α : Type} {l : List α} (h : l.length = 4) : ∃ c0 c1 c2 c3, l = [c0, c1, c2, c3] := by
 match l, h with
 | [c0, c1, c2, c3], _ => exact ⟨c0, c1, c2, c3, rfl⟩
theorem list5 {α : Type} {l : List α} (h : l.length = 5) : ∃ c0 c1 c2 c3 c4, l = [c0, c1, c2, c3, c4] := by
 match l, h with
 | [c0, c1, c2, c3, c4], _ => exact ⟨c0, c1, c2, c3, c4, rfl⟩
theorem list8 {α : Type} {l : List α} (h : l.length = 8) : ∃ c0 c1 c2 c3 c4 c5 c6 c7, l = [c0, c1, c2, c3, c4, c5, c6, c7] := by
 match l, h with
 | [c0, c1, c2, c3, c4, c5, c6, c7], _ => exact ⟨c0, c1, c2, c3, c4, c5, c6, c7, rfl⟩
theorem list9 {α : Type} {l : List α} (h : l.length = 9) : ∃ c0 c1 c2 c3 c4 c5 c6 c7 c8, l = [c0, c1, c2, c3, c4, c5, c6, c7, c8] := by
 match l, h with
 | [c0, c1, c2, c3, c4, c5, c6, c7, c8], _ => exact ⟨c0, c1, c2, c3, c4, c5, c6, c7, c8, rfl⟩
theorem list10 {α : Type} {l : List α} (h : l.length = 10) : ∃ c0 c1 c2 c3 c4 c5 c6 c7 c8 c9, l = [c0, c1, c2, c3, c4, c5, c6, c7, c8, c9] := by
 match l, h with
 | [c0, c1, c2, c3, c4, c5, c6, c7, c8, c9], _ => exact ⟨c0, c1, c2, c3, c4, c5, c6, c7, c8, c9, rfl⟩
theorem list18 {α : Type} {l : List α} (h : l.length = 18) : ∃ c0 c1 c2 c3 c4 c5 c6 c7 c8 c9 c10 c11 c12 c13 c14 c15 c16 c17, l = [c0, c1, c2, c3, c4, c5, c6, c7, c8, c9, c10, c11, c12, c13, c14, c15, c16, c17] := by
 match l, h with
 | [c0, c1, c2, c3, c4, c5, c6, c7, c8, c9, c10, c11, c12, c13, c14, c15, c16, c17], _ => exact ⟨c0, c1, c2, c3, c4, c5, c6, c7, c8, c9, c10, c11, c12, c13, c14, c15, c16, c17, rfl⟩
end Go.Proofs.YtmidaeljeoifdaaGreatDoor
