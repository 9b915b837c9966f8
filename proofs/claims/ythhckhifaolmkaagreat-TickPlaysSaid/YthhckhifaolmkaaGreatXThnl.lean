import Derived.Test.YthhckhifaolmkaaGreatKba
import Derived.OpenShut
import Derived.Deep.Strs
import Derived.SizedLaws
import Derived.ChangeOld
import Derived.Test.YthhckhifaolmkaaGreatXTcq
namespace Go.Proofs.YthhckhifaolmkaaGreat
open Go.RowKit Go.ChangeShapes Go.WideShapes
set_option linter.unusedVariables false

/-! ### A configuration that came in, opened -/
def Sized (l : List Nat) : Prop := ∀ n, n ∈ l → n ≤ reachBytes
theorem sized_of_all {l : List Nat} (h : l.all (· ≤ reachBytes) = true) : Sized l := fun n hn => by simpa using List.all_eq_true.1 h n hn
theorem sized_rows {H : Type} {P : Program} {t e : TypeId} {es sp : List (DataW H)} (hu : P.underlying t = some (.slice e)) (h : Sized (DataW.weights P t (.slice es sp))) : es.length * P.bytesOf e ≤ reachBytes := by
  unfold DataW.weights at h
  simp only [hu] at h
  exact Nat.le_trans (Nat.mul_le_mul_right _ (Nat.le_add_right _ _)) (h _ (List.mem_cons_self ..))
theorem sized_field {H : Type} {P : Program} {t : TypeId} {fs : Array Field} {parts : List (DataW H)} (hu : P.underlying t = some (.struct fs)) (h : Sized (DataW.weights P t (.agg parts))) {j : Nat} {u : TypeId} {d : DataW H} (hj : (fs.toList.map (·.type))[j]? = some u) (hd : parts[j]? = some d) : Sized (d.weights P u) := by
  unfold DataW.weights at h
  simp only [hu] at h
  exact fun n hn => h n (DataW.weights_mem_each hj hd n hn)
theorem S_eq (s : ByteArray) : Value.string s = S s.data.toList := by cases s; simp [S]
theorem rows_open {α : Type} (inh : Inhabited α) {H : Type} {enc : TypeId × Value → H} {w : World} {spare : Nat → Bool} {held : Bool} {fuel : Nat} {T E : TypeId} {k : Nat} (hk : 0 < k) (hu : Tryz.prog.underlying T = some (.slice E)) (hc : Tryz.prog.cellsOf E = k) {P : α → Nat → Value → Prop} {v : Value} {y : DataW H × List MemPlace}
    (h : DataW.trod enc Tryz.prog w 0 spare held fuel T [v] = some y)
    (one : ∀ n cs z, cs.length = k → DataW.trod enc Tryz.prog w 0 spare held n E cs = some z → ∃ x : α, ∀ i, i < k → ∃ u, cs[i]? = some u ∧ P x i u) :
    ∃ (s : Sl) (l : List α), v = .slice s.a s.n s.c ∧ RowsAt w k P s l ∧ (Sized (y.1.weights Tryz.prog T) → l.length * Tryz.prog.bytesOf E ≤ reachBytes) := by
  rcases DataW.trod_slice hu h with ⟨hcs, _⟩ | ⟨a, len, cap, elems, rest, n, hfu, hcs, hx, _, hlc, hcm, hel, hV, _, _⟩
  · simp at hcs
    subst hcs
    exact ⟨⟨none, 0, 0⟩, [], rfl, ⟨rfl, Nat.le_refl _, Nat.zero_le _, fun j x hj => by simp at hj⟩, fun _ => by simp⟩
  · simp at hcs
    subst hcs
    rw [hc] at hV
    obtain ⟨L, hL⟩ := Go.Deep.choose_lt (α := α) (n := len) (p := fun i x => ∃ cs, w.cells? 0 (a.add (i * k)) k = some cs ∧ ∀ t, t < k → ∃ u, cs[t]? = some u ∧ P x t u) (fun i hi => by
      have hVi := hV i hi
      rw [List.getElem?_eq_getElem (by omega : i < elems.length)] at hVi
      obtain ⟨cs', h1, h2⟩ := Option.bind_eq_some_iff.1 hVi
      obtain ⟨_, hcl, _⟩ := World.cells?_some h1
      obtain ⟨x, hx⟩ := one n cs' _ hcl h2
      exact ⟨x, cs', h1, hx⟩)
    obtain ⟨b, off, spot⟩ := a
    refine ⟨⟨some ⟨b, off, spot⟩, len, cap⟩, (List.range len).map L, rfl, ⟨by simp, hlc, hcm, fun j x hj => ?_⟩, fun hz => ?_⟩
    · rw [List.getElem?_map] at hj
      obtain ⟨i, hi, rfl⟩ := Option.map_eq_some_iff.1 hj
      have hjl : j < len := by have := (List.getElem?_eq_some_iff.1 hi).1; simpa using this
      obtain rfl : j = i := by rw [List.getElem?_range hjl] at hi; exact Option.some.inj hi
      obtain ⟨cs, h1, h2⟩ := hL j hjl
      obtain ⟨_, hcl, hcc⟩ := World.cells?_some h1
      have hspot : spot = none := by
        obtain ⟨cs0, g1, g2⟩ := hL 0 (by omega)
        obtain ⟨_, gl, gc⟩ := World.cells?_some g1
        obtain ⟨u, gu, _⟩ := g2 0 hk
        have := World.cell?_spot ((gc 0 hk).trans gu)
        simpa [Addr.add] using this
      subst hspot
      refine ⟨b, off, rfl, ?_, fun t ht => ?_⟩
      · have := World.cells?_block h1 hk
        rw [WideShapes.add_plain] at this
        exact this
      · obtain ⟨u, hu1, hu2⟩ := h2 t ht
        have := (hcc t ht).trans hu1
        rw [WideShapes.add_plain, WideShapes.add_plain] at this
        exact ⟨u, this, hu2⟩
    · rw [hx] at hz
      have := sized_rows hu hz
      rw [List.length_map, hel] at this
      simpa using this
def evP2 (x : Ev) (i : Nat) (u : Value) : Prop := evP x i u ∧ x.mask < 4294967296
theorem p_int : Tryz.prog.cellsOf 3 = 1 := by kernel_rfl
theorem p_string : Tryz.prog.cellsOf 9 = 1 := by kernel_rfl
theorem p_bool : Tryz.prog.cellsOf 4 = 1 := by kernel_rfl
theorem p_uint32 : Tryz.prog.cellsOf 22 = 1 := by kernel_rfl
theorem p_uint64 : Tryz.prog.cellsOf 39 = 1 := by kernel_rfl
theorem p_Lint : Tryz.prog.cellsOf 40 = 1 := by kernel_rfl
theorem p_apiActionKind : Tryz.prog.cellsOf 91 = 1 := by kernel_rfl
theorem p_apiMessageKind : Tryz.prog.cellsOf 182 = 1 := by kernel_rfl
theorem one_int {H : Type} {enc : TypeId × Value → H} {w : World} {spare : Nat → Bool} {held : Bool} (n : Nat) (cs : List Value) (z : DataW H × List MemPlace) (hl : cs.length = 1) (h : DataW.trod enc Tryz.prog w 0 spare held n 3 cs = some z) : ∃ x : Int, ∀ i, i < 1 → ∃ u, cs[i]? = some u ∧ intP x i u := by
  obtain ⟨x, rfl, _, _⟩ := DataW.trod_int Tryz.underlying3 h
  exact ⟨x, fun i hi => by obtain rfl : i = 0 := (by omega); exact ⟨_, rfl, rfl⟩⟩
theorem one_str {H : Type} {enc : TypeId × Value → H} {w : World} {spare : Nat → Bool} {held : Bool} (n : Nat) (cs : List Value) (z : DataW H × List MemPlace) (hl : cs.length = 1) (h : DataW.trod enc Tryz.prog w 0 spare held n 9 cs = some z) : ∃ x : List UInt8, ∀ i, i < 1 → ∃ u, cs[i]? = some u ∧ strP x i u := by
  obtain ⟨x, rfl, _, _⟩ := DataW.trod_string Tryz.underlying9 h
  exact ⟨x.data.toList, fun i hi => by obtain rfl : i = 0 := (by omega); exact ⟨_, rfl, S_eq x⟩⟩
theorem ints_open {H : Type} {enc : TypeId × Value → H} {w : World} {spare : Nat → Bool} {held : Bool} {fuel : Nat} {v : Value} {y : DataW H × List MemPlace} (h : DataW.trod enc Tryz.prog w 0 spare held fuel 40 [v] = some y) : ∃ l, IntsV w l v := by
  obtain ⟨s, l, e, hr, _⟩ := rows_open ⟨0⟩ (by omega) Tryz.underlying40 p_int h one_int
  exact ⟨l, s, e, hr⟩
theorem list3 {α : Type} {l : List α} (h : l.length = 3) : ∃ c0 c1 c2, l = [c0, c1, c2] := by
  match l, h with
  | [c0, c1, c2], _ => exact ⟨c0, c1, c2, rfl⟩
theorem list4 {α : Type} {l : List α} (h : l.length = 4) : ∃ c0 c1 c2 c3, l = [c0, c1, c2, c3] := by
  match l, h with
  | [c0, c1, c2, c3], _ => exact ⟨c0, c1, c2, c3, rfl⟩
theorem list5 {α : Type} {l : List α} (h : l.length = 5) : ∃ c0 c1 c2 c3 c4, l = [c0, c1, c2, c3, c4] := by
  match l, h with
  | [c0, c1, c2, c3, c4], _ => exact ⟨c0, c1, c2, c3, c4, rfl⟩
theorem list8 {α : Type} {l : List α} (h : l.length = 8) : ∃ c0 c1 c2 c3 c4 c5 c6 c7, l = [c0, c1, c2, c3, c4, c5, c6, c7] := by
  match l, h with
  | [c0, c1, c2, c3, c4, c5, c6, c7], _ => exact ⟨c0, c1, c2, c3, c4, c5, c6, c7, rfl⟩
theorem list9 {α : Type} {l : List α} (h : l.length = 9) : ∃ c0 c1 c2 c3 c4 c5 c6 c7 c8, l = [c0, c1, c2, c3, c4, c5, c6, c7, c8] := by
  match l, h with
  | [c0, c1, c2, c3, c4, c5, c6, c7, c8], _ => exact ⟨c0, c1, c2, c3, c4, c5, c6, c7, c8, rfl⟩
theorem list10 {α : Type} {l : List α} (h : l.length = 10) : ∃ c0 c1 c2 c3 c4 c5 c6 c7 c8 c9, l = [c0, c1, c2, c3, c4, c5, c6, c7, c8, c9] := by
  match l, h with
  | [c0, c1, c2, c3, c4, c5, c6, c7, c8, c9], _ => exact ⟨c0, c1, c2, c3, c4, c5, c6, c7, c8, c9, rfl⟩
theorem list18 {α : Type} {l : List α} (h : l.length = 18) : ∃ c0 c1 c2 c3 c4 c5 c6 c7 c8 c9 c10 c11 c12 c13 c14 c15 c16 c17, l = [c0, c1, c2, c3, c4, c5, c6, c7, c8, c9, c10, c11, c12, c13, c14, c15, c16, c17] := by
  match l, h with
  | [c0, c1, c2, c3, c4, c5, c6, c7, c8, c9, c10, c11, c12, c13, c14, c15, c16, c17], _ => exact ⟨c0, c1, c2, c3, c4, c5, c6, c7, c8, c9, c10, c11, c12, c13, c14, c15, c16, c17, rfl⟩
set_option maxRecDepth 100000 in
theorem one_ct {H : Type} {enc : TypeId × Value → H} {w : World} {spare : Nat → Bool} {held : Bool} (fuel : Nat) (cs : List Value) (y : DataW H × List MemPlace) (hcs : cs.length = 4) (h : DataW.trod enc Tryz.prog w 0 spare held fuel 140 cs = some y) : ∃ x : Ct, ∀ i, i < 4 → ∃ u, cs[i]? = some u ∧ ctP x i u := by
  obtain ⟨c0, c1, c2, c3, rfl⟩ := list4 hcs
  obtain ⟨xs, n, hn, hx, hl, hlen, hfs⟩ := DataW.trod_struct Tryz.underlying140 h
  match xs, hlen with
  | [y0, y1, y2, y3], _ =>
    have h0 := hfs 0 _ rfl
    have h1 := hfs 1 _ rfl
    have h2 := hfs 2 _ rfl
    have h3 := hfs 3 _ rfl
    simp [p_string, p_uint32] at h0 h1 h2 h3
    obtain ⟨v0, e0, _, _⟩ := DataW.trod_string Tryz.underlying9 h0
    obtain ⟨v1z, e1, _, b1⟩ := DataW.trod_int Tryz.underlying22 h1
    obtain ⟨v1, rfl⟩ := Int.eq_ofNat_of_zero_le (bounds_u32 b1).1
    obtain ⟨v2z, e2, _, b2⟩ := DataW.trod_int Tryz.underlying22 h2
    obtain ⟨v2, rfl⟩ := Int.eq_ofNat_of_zero_le (bounds_u32 b2).1
    obtain ⟨v3z, e3, _, b3⟩ := DataW.trod_int Tryz.underlying22 h3
    obtain ⟨v3, rfl⟩ := Int.eq_ofNat_of_zero_le (bounds_u32 b3).1
    simp at e0 e1 e2 e3
    subst e0 e1 e2 e3
    refine ⟨⟨v0.data.toList, v1, v2, v3⟩, fun i hi => ?_⟩
    have hi2 : i = 0 ∨ i = 1 ∨ i = 2 ∨ i = 3 := by omega
    rcases hi2 with rfl | rfl | rfl | rfl
    · exact ⟨_, rfl, S_eq v0⟩
    · exact ⟨_, rfl, rfl⟩
    · exact ⟨_, rfl, rfl⟩
    · exact ⟨_, rfl, rfl⟩
end Go.Proofs.YthhckhifaolmkaaGreat

namespace Go.Proofs.YthhckhifaolmkaaGreat
open Go.RowKit Go.ChangeShapes Go.WideShapes
set_option linter.unusedVariables false

/-! ### Tables that came in, opened -/
def tkrP2 (w : World) (x : TkR) (i : Nat) (u : Value) : Prop := tkrP w x i u ∧ x.mask < 4294967296 ∧ x.auto < 4294967296
def ctrP2 (x : CtR) (i : Nat) (u : Value) : Prop := ctrP x i u ∧ x.max < 4294967296 ∧ x.base < 4294967296 ∧ x.min < 4294967296
def alrP2 (x : AlR) (i : Nat) (u : Value) : Prop := alrP x i u ∧ x.ac.mask < 4294967296 ∧ x.auto < 4294967296 ∧ x.time < 4294967296 ∧ x.cycle < 4294967296
def msrP2 (x : MsR) (i : Nat) (u : Value) : Prop := msrP x i u ∧ x.init < 18446744073709551616 ∧ x.ac.mask < 4294967296
theorem p9_int : Tryz.prog.cellsOf 3 = 1 := by kernel_rfl
theorem p9_bool : Tryz.prog.cellsOf 4 = 1 := by kernel_rfl
theorem p9_uint32 : Tryz.prog.cellsOf 22 = 1 := by kernel_rfl
theorem p9_uint64 : Tryz.prog.cellsOf 39 = 1 := by kernel_rfl
theorem p9_Lint : Tryz.prog.cellsOf 40 = 1 := by kernel_rfl
theorem p9_apiActionKind : Tryz.prog.cellsOf 91 = 1 := by kernel_rfl
theorem p9_apiMessageKind : Tryz.prog.cellsOf 182 = 1 := by kernel_rfl
theorem p9_apiActionRow : Tryz.prog.cellsOf 93 = 3 := by kernel_rfl
theorem p9_LapiTaskRow : Tryz.prog.cellsOf 29 = 1 := by kernel_rfl
theorem p9_LapiRingRow : Tryz.prog.cellsOf 30 = 1 := by kernel_rfl
theorem p9_LapiResourceRow : Tryz.prog.cellsOf 31 = 1 := by kernel_rfl
theorem p9_LapiCounterRow : Tryz.prog.cellsOf 32 = 1 := by kernel_rfl
theorem p9_LapiAlarmRow : Tryz.prog.cellsOf 33 = 1 := by kernel_rfl
theorem p9_LapiIsrRow : Tryz.prog.cellsOf 34 = 1 := by kernel_rfl
theorem p9_LapiMessageRow : Tryz.prog.cellsOf 35 = 1 := by kernel_rfl
theorem list29 {α : Type} {l : List α} (h : l.length = 2) : ∃ c0 c1, l = [c0, c1] := by
  match l, h with
  | [c0, c1], _ => exact ⟨c0, c1, rfl⟩
theorem list79 {α : Type} {l : List α} (h : l.length = 7) : ∃ c0 c1 c2 c3 c4 c5 c6, l = [c0, c1, c2, c3, c4, c5, c6] := by
  match l, h with
  | [c0, c1, c2, c3, c4, c5, c6], _ => exact ⟨c0, c1, c2, c3, c4, c5, c6, rfl⟩
theorem list139 {α : Type} {l : List α} (h : l.length = 13) : ∃ c0 c1 c2 c3 c4 c5 c6 c7 c8 c9 c10 c11 c12, l = [c0, c1, c2, c3, c4, c5, c6, c7, c8, c9, c10, c11, c12] := by
  match l, h with
  | [c0, c1, c2, c3, c4, c5, c6, c7, c8, c9, c10, c11, c12], _ => exact ⟨c0, c1, c2, c3, c4, c5, c6, c7, c8, c9, c10, c11, c12, rfl⟩
set_option maxRecDepth 100000 in
theorem one9_tkr {H : Type} {enc : TypeId × Value → H} {w : World} {spare : Nat → Bool} {held : Bool} (fuel : Nat) (cs : List Value) (y : DataW H × List MemPlace) (hcs : cs.length = 8) (h : DataW.trod enc Tryz.prog w 0 spare held fuel 95 cs = some y) : ∃ x : TkR, ∀ i, i < 8 → ∃ u, cs[i]? = some u ∧ tkrP2 w x i u := by
  obtain ⟨c0, c1, c2, c3, c4, c5, c6, c7, rfl⟩ := list8 hcs
  obtain ⟨xs, n, hn, hx, hl, hlen, hfs⟩ := DataW.trod_struct Tryz.underlying95 h
  match xs, hlen with
  | [y0, y1, y2, y3, y4, y5, y6, y7], _ =>
    have h0 := hfs 0 _ rfl
    have h1 := hfs 1 _ rfl
    have h2 := hfs 2 _ rfl
    have h3 := hfs 3 _ rfl
    have h4 := hfs 4 _ rfl
    have h5 := hfs 5 _ rfl
    have h6 := hfs 6 _ rfl
    have h7 := hfs 7 _ rfl
    simp [p9_Lint, p9_bool, p9_int, p9_uint32] at h0 h1 h2 h3 h4 h5 h6 h7
    obtain ⟨vprio, e0, _, _⟩ := DataW.trod_int Tryz.underlying3 h0
    obtain ⟨vring, e1, _, _⟩ := DataW.trod_int Tryz.underlying3 h1
    obtain ⟨vfull, e2, _⟩ := DataW.trod_bool Tryz.underlying4 h2
    obtain ⟨vlimit, e3, _, _⟩ := DataW.trod_int Tryz.underlying3 h3
    obtain ⟨vmaskz, e4, _, bvmask⟩ := DataW.trod_int Tryz.underlying22 h4
    obtain ⟨vmask, rfl⟩ := Int.eq_ofNat_of_zero_le (bounds_u32 bvmask).1
    obtain ⟨vinner, e5, _, _⟩ := DataW.trod_int Tryz.underlying3 h5
    obtain ⟨vown, w6⟩ := ints_open h6
    obtain ⟨vautoz, e7, _, bvauto⟩ := DataW.trod_int Tryz.underlying22 h7
    obtain ⟨vauto, rfl⟩ := Int.eq_ofNat_of_zero_le (bounds_u32 bvauto).1
    simp at e0 e1 e2 e3 e4 e5 e7
    subst e0 e1 e2 e3 e4 e5 e7
    have kvmask : vmask < 4294967296 := by have := (bounds_u32 bvmask).2; omega
    have kvauto : vauto < 4294967296 := by have := (bounds_u32 bvauto).2; omega
    refine ⟨⟨vprio, vring, vfull, vlimit, vmask, vinner, vown, vauto⟩, fun i hi => ?_⟩
    rcases (by omega : i = 0 ∨ i = 1 ∨ i = 2 ∨ i = 3 ∨ i = 4 ∨ i = 5 ∨ i = 6 ∨ i = 7) with rfl | rfl | rfl | rfl | rfl | rfl | rfl | rfl
    · exact ⟨_, rfl, rfl, kvmask, kvauto⟩
    · exact ⟨_, rfl, rfl, kvmask, kvauto⟩
    · exact ⟨_, rfl, rfl, kvmask, kvauto⟩
    · exact ⟨_, rfl, rfl, kvmask, kvauto⟩
    · exact ⟨_, rfl, rfl, kvmask, kvauto⟩
    · exact ⟨_, rfl, rfl, kvmask, kvauto⟩
    · exact ⟨_, rfl, w6, kvmask, kvauto⟩
    · exact ⟨_, rfl, rfl, kvmask, kvauto⟩
set_option maxRecDepth 100000 in
theorem one9_rgr {H : Type} {enc : TypeId × Value → H} {w : World} {spare : Nat → Bool} {held : Bool} (fuel : Nat) (cs : List Value) (y : DataW H × List MemPlace) (hcs : cs.length = 2) (h : DataW.trod enc Tryz.prog w 0 spare held fuel 97 cs = some y) : ∃ x : RgR, ∀ i, i < 2 → ∃ u, cs[i]? = some u ∧ rgrP x i u := by
  obtain ⟨c0, c1, rfl⟩ := list29 hcs
  obtain ⟨xs, n, hn, hx, hl, hlen, hfs⟩ := DataW.trod_struct Tryz.underlying97 h
  match xs, hlen with
  | [y0, y1], _ =>
    have h0 := hfs 0 _ rfl
    have h1 := hfs 1 _ rfl
    simp [p9_int] at h0 h1
    obtain ⟨vprio, e0, _, _⟩ := DataW.trod_int Tryz.underlying3 h0
    obtain ⟨vcap, e1, _, _⟩ := DataW.trod_int Tryz.underlying3 h1
    simp at e0 e1
    subst e0 e1
    refine ⟨⟨vprio, vcap⟩, fun i hi => ?_⟩
    rcases (by omega : i = 0 ∨ i = 1) with rfl | rfl
    · exact ⟨_, rfl, rfl⟩
    · exact ⟨_, rfl, rfl⟩
set_option maxRecDepth 100000 in
theorem one9_rsr {H : Type} {enc : TypeId × Value → H} {w : World} {spare : Nat → Bool} {held : Bool} (fuel : Nat) (cs : List Value) (y : DataW H × List MemPlace) (hcs : cs.length = 2) (h : DataW.trod enc Tryz.prog w 0 spare held fuel 151 cs = some y) : ∃ x : RsR, ∀ i, i < 2 → ∃ u, cs[i]? = some u ∧ rsrP x i u := by
  obtain ⟨c0, c1, rfl⟩ := list29 hcs
  obtain ⟨xs, n, hn, hx, hl, hlen, hfs⟩ := DataW.trod_struct Tryz.underlying151 h
  match xs, hlen with
  | [y0, y1], _ =>
    have h0 := hfs 0 _ rfl
    have h1 := hfs 1 _ rfl
    simp [p9_bool, p9_int] at h0 h1
    obtain ⟨vinner, e0, _⟩ := DataW.trod_bool Tryz.underlying4 h0
    obtain ⟨vceil, e1, _, _⟩ := DataW.trod_int Tryz.underlying3 h1
    simp at e0 e1
    subst e0 e1
    refine ⟨⟨vinner, vceil⟩, fun i hi => ?_⟩
    rcases (by omega : i = 0 ∨ i = 1) with rfl | rfl
    · exact ⟨_, rfl, rfl⟩
    · exact ⟨_, rfl, rfl⟩
set_option maxRecDepth 100000 in
theorem one9_ctr {H : Type} {enc : TypeId × Value → H} {w : World} {spare : Nat → Bool} {held : Bool} (fuel : Nat) (cs : List Value) (y : DataW H × List MemPlace) (hcs : cs.length = 3) (h : DataW.trod enc Tryz.prog w 0 spare held fuel 81 cs = some y) : ∃ x : CtR, ∀ i, i < 3 → ∃ u, cs[i]? = some u ∧ ctrP2 x i u := by
  obtain ⟨c0, c1, c2, rfl⟩ := list3 hcs
  obtain ⟨xs, n, hn, hx, hl, hlen, hfs⟩ := DataW.trod_struct Tryz.underlying81 h
  match xs, hlen with
  | [y0, y1, y2], _ =>
    have h0 := hfs 0 _ rfl
    have h1 := hfs 1 _ rfl
    have h2 := hfs 2 _ rfl
    simp [p9_uint32] at h0 h1 h2
    obtain ⟨vmaxz, e0, _, bvmax⟩ := DataW.trod_int Tryz.underlying22 h0
    obtain ⟨vmax, rfl⟩ := Int.eq_ofNat_of_zero_le (bounds_u32 bvmax).1
    obtain ⟨vbasez, e1, _, bvbase⟩ := DataW.trod_int Tryz.underlying22 h1
    obtain ⟨vbase, rfl⟩ := Int.eq_ofNat_of_zero_le (bounds_u32 bvbase).1
    obtain ⟨vminz, e2, _, bvmin⟩ := DataW.trod_int Tryz.underlying22 h2
    obtain ⟨vmin, rfl⟩ := Int.eq_ofNat_of_zero_le (bounds_u32 bvmin).1
    simp at e0 e1 e2
    subst e0 e1 e2
    have kvmax : vmax < 4294967296 := by have := (bounds_u32 bvmax).2; omega
    have kvbase : vbase < 4294967296 := by have := (bounds_u32 bvbase).2; omega
    have kvmin : vmin < 4294967296 := by have := (bounds_u32 bvmin).2; omega
    refine ⟨⟨vmax, vbase, vmin⟩, fun i hi => ?_⟩
    rcases (by omega : i = 0 ∨ i = 1 ∨ i = 2) with rfl | rfl | rfl
    · exact ⟨_, rfl, rfl, kvmax, kvbase, kvmin⟩
    · exact ⟨_, rfl, rfl, kvmax, kvbase, kvmin⟩
    · exact ⟨_, rfl, rfl, kvmax, kvbase, kvmin⟩
set_option maxRecDepth 100000 in
theorem one9_alr {H : Type} {enc : TypeId × Value → H} {w : World} {spare : Nat → Bool} {held : Bool} (fuel : Nat) (cs : List Value) (y : DataW H × List MemPlace) (hcs : cs.length = 7) (h : DataW.trod enc Tryz.prog w 0 spare held fuel 99 cs = some y) : ∃ x : AlR, ∀ i, i < 7 → ∃ u, cs[i]? = some u ∧ alrP2 x i u := by
  obtain ⟨c0, c1, c2, c3, c4, c5, c6, rfl⟩ := list79 hcs
  obtain ⟨xs, n, hn, hx, hl, hlen, hfs⟩ := DataW.trod_struct Tryz.underlying99 h
  match xs, hlen with
  | [y0, y1, y2, y3, y4], _ =>
    have h0 := hfs 0 _ rfl
    have h1 := hfs 1 _ rfl
    have h2 := hfs 2 _ rfl
    have h3 := hfs 3 _ rfl
    have h4 := hfs 4 _ rfl
    simp [p9_apiActionRow, p9_int, p9_uint32] at h0 h1 h2 h3 h4
    obtain ⟨vctr, e0, _, _⟩ := DataW.trod_int Tryz.underlying3 h0
    obtain ⟨ys, m, _, _, _, ylen, yfs⟩ := DataW.trod_struct Tryz.underlying93 h1
    match ys, ylen with
    | [z0, z1, z2], _ =>
      have g0 := yfs 0 _ rfl
      have g1 := yfs 1 _ rfl
      have g2 := yfs 2 _ rfl
      simp [p9_apiActionKind, p9_int, p9_uint32] at g0 g1 g2
      obtain ⟨akind, eg0, _, _⟩ := DataW.trod_int Tryz.underlying91 g0
      obtain ⟨atask, eg1, _, _⟩ := DataW.trod_int Tryz.underlying3 g1
      obtain ⟨amaskz, eg2, _, bamask⟩ := DataW.trod_int Tryz.underlying22 g2
      obtain ⟨amask, rfl⟩ := Int.eq_ofNat_of_zero_le (bounds_u32 bamask).1
      obtain ⟨vautoz, e2, _, bvauto⟩ := DataW.trod_int Tryz.underlying22 h2
      obtain ⟨vauto, rfl⟩ := Int.eq_ofNat_of_zero_le (bounds_u32 bvauto).1
      obtain ⟨vtimez, e3, _, bvtime⟩ := DataW.trod_int Tryz.underlying22 h3
      obtain ⟨vtime, rfl⟩ := Int.eq_ofNat_of_zero_le (bounds_u32 bvtime).1
      obtain ⟨vcyclez, e4, _, bvcycle⟩ := DataW.trod_int Tryz.underlying22 h4
      obtain ⟨vcycle, rfl⟩ := Int.eq_ofNat_of_zero_le (bounds_u32 bvcycle).1
      simp at e0 eg0 eg1 eg2 e2 e3 e4
      subst e0 eg0 eg1 eg2 e2 e3 e4
      have kamask : amask < 4294967296 := by have := (bounds_u32 bamask).2; omega
      have kvauto : vauto < 4294967296 := by have := (bounds_u32 bvauto).2; omega
      have kvtime : vtime < 4294967296 := by have := (bounds_u32 bvtime).2; omega
      have kvcycle : vcycle < 4294967296 := by have := (bounds_u32 bvcycle).2; omega
      refine ⟨⟨vctr, ⟨akind, atask, amask⟩, vauto, vtime, vcycle⟩, fun i hi => ?_⟩
      rcases (by omega : i = 0 ∨ i = 1 ∨ i = 2 ∨ i = 3 ∨ i = 4 ∨ i = 5 ∨ i = 6) with rfl | rfl | rfl | rfl | rfl | rfl | rfl
      · exact ⟨_, rfl, rfl, kamask, kvauto, kvtime, kvcycle⟩
      · exact ⟨_, rfl, rfl, kamask, kvauto, kvtime, kvcycle⟩
      · exact ⟨_, rfl, rfl, kamask, kvauto, kvtime, kvcycle⟩
      · exact ⟨_, rfl, rfl, kamask, kvauto, kvtime, kvcycle⟩
      · exact ⟨_, rfl, rfl, kamask, kvauto, kvtime, kvcycle⟩
      · exact ⟨_, rfl, rfl, kamask, kvauto, kvtime, kvcycle⟩
      · exact ⟨_, rfl, rfl, kamask, kvauto, kvtime, kvcycle⟩
set_option maxRecDepth 100000 in
theorem one9_isr {H : Type} {enc : TypeId × Value → H} {w : World} {spare : Nat → Bool} {held : Bool} (fuel : Nat) (cs : List Value) (y : DataW H × List MemPlace) (hcs : cs.length = 3) (h : DataW.trod enc Tryz.prog w 0 spare held fuel 88 cs = some y) : ∃ x : IsR, ∀ i, i < 3 → ∃ u, cs[i]? = some u ∧ isrP w x i u := by
  obtain ⟨c0, c1, c2, rfl⟩ := list3 hcs
  obtain ⟨xs, n, hn, hx, hl, hlen, hfs⟩ := DataW.trod_struct Tryz.underlying88 h
  match xs, hlen with
  | [y0, y1, y2], _ =>
    have h0 := hfs 0 _ rfl
    have h1 := hfs 1 _ rfl
    have h2 := hfs 2 _ rfl
    simp [p9_Lint, p9_int] at h0 h1 h2
    obtain ⟨vcat, e0, _, _⟩ := DataW.trod_int Tryz.underlying3 h0
    obtain ⟨vprio, e1, _, _⟩ := DataW.trod_int Tryz.underlying3 h1
    obtain ⟨vown, w2⟩ := ints_open h2
    simp at e0 e1
    subst e0 e1
    refine ⟨⟨vcat, vprio, vown⟩, fun i hi => ?_⟩
    rcases (by omega : i = 0 ∨ i = 1 ∨ i = 2) with rfl | rfl | rfl
    · exact ⟨_, rfl, rfl⟩
    · exact ⟨_, rfl, rfl⟩
    · exact ⟨_, rfl, w2⟩
set_option maxRecDepth 100000 in
theorem one9_msr {H : Type} {enc : TypeId × Value → H} {w : World} {spare : Nat → Bool} {held : Bool} (fuel : Nat) (cs : List Value) (y : DataW H × List MemPlace) (hcs : cs.length = 8) (h : DataW.trod enc Tryz.prog w 0 spare held fuel 184 cs = some y) : ∃ x : MsR, ∀ i, i < 8 → ∃ u, cs[i]? = some u ∧ msrP2 x i u := by
  obtain ⟨c0, c1, c2, c3, c4, c5, c6, c7, rfl⟩ := list8 hcs
  obtain ⟨xs, n, hn, hx, hl, hlen, hfs⟩ := DataW.trod_struct Tryz.underlying184 h
  match xs, hlen with
  | [y0, y1, y2, y3, y4, y5], _ =>
    have h0 := hfs 0 _ rfl
    have h1 := hfs 1 _ rfl
    have h2 := hfs 2 _ rfl
    have h3 := hfs 3 _ rfl
    have h4 := hfs 4 _ rfl
    have h5 := hfs 5 _ rfl
    simp [p9_apiActionRow, p9_apiMessageKind, p9_int, p9_uint64] at h0 h1 h2 h3 h4 h5
    obtain ⟨vkind, e0, _, _⟩ := DataW.trod_int Tryz.underlying182 h0
    obtain ⟨vlen, e1, _, _⟩ := DataW.trod_int Tryz.underlying3 h1
    obtain ⟨vfrm, e2, _, _⟩ := DataW.trod_int Tryz.underlying3 h2
    obtain ⟨vinitz, e3, _, bvinit⟩ := DataW.trod_int Tryz.underlying39 h3
    obtain ⟨vinit, rfl⟩ := Int.eq_ofNat_of_zero_le (bounds_u64 bvinit).1
    obtain ⟨vqueue, e4, _, _⟩ := DataW.trod_int Tryz.underlying3 h4
    obtain ⟨ys, m, _, _, _, ylen, yfs⟩ := DataW.trod_struct Tryz.underlying93 h5
    match ys, ylen with
    | [z0, z1, z2], _ =>
      have g0 := yfs 0 _ rfl
      have g1 := yfs 1 _ rfl
      have g2 := yfs 2 _ rfl
      simp [p9_apiActionKind, p9_int, p9_uint32] at g0 g1 g2
      obtain ⟨akind, eg0, _, _⟩ := DataW.trod_int Tryz.underlying91 g0
      obtain ⟨atask, eg1, _, _⟩ := DataW.trod_int Tryz.underlying3 g1
      obtain ⟨amaskz, eg2, _, bamask⟩ := DataW.trod_int Tryz.underlying22 g2
      obtain ⟨amask, rfl⟩ := Int.eq_ofNat_of_zero_le (bounds_u32 bamask).1
      simp at e0 e1 e2 e3 e4 eg0 eg1 eg2
      subst e0 e1 e2 e3 e4 eg0 eg1 eg2
      have kvinit : vinit < 18446744073709551616 := by have := (bounds_u64 bvinit).2; omega
      have kamask : amask < 4294967296 := by have := (bounds_u32 bamask).2; omega
      refine ⟨⟨vkind, vlen, vfrm, vinit, vqueue, ⟨akind, atask, amask⟩⟩, fun i hi => ?_⟩
      rcases (by omega : i = 0 ∨ i = 1 ∨ i = 2 ∨ i = 3 ∨ i = 4 ∨ i = 5 ∨ i = 6 ∨ i = 7) with rfl | rfl | rfl | rfl | rfl | rfl | rfl | rfl
      · exact ⟨_, rfl, rfl, kvinit, kamask⟩
      · exact ⟨_, rfl, rfl, kvinit, kamask⟩
      · exact ⟨_, rfl, rfl, kvinit, kamask⟩
      · exact ⟨_, rfl, rfl, kvinit, kamask⟩
      · exact ⟨_, rfl, rfl, kvinit, kamask⟩
      · exact ⟨_, rfl, rfl, kvinit, kamask⟩
      · exact ⟨_, rfl, rfl, kvinit, kamask⟩
      · exact ⟨_, rfl, rfl, kvinit, kamask⟩
theorem q9_t : Tryz.prog.cellsOf 95 = 8 := by kernel_rfl
theorem q9_g : Tryz.prog.cellsOf 97 = 2 := by kernel_rfl
theorem q9_r : Tryz.prog.cellsOf 151 = 2 := by kernel_rfl
theorem q9_k : Tryz.prog.cellsOf 81 = 3 := by kernel_rfl
theorem q9_a : Tryz.prog.cellsOf 99 = 7 := by kernel_rfl
theorem q9_i : Tryz.prog.cellsOf 88 = 3 := by kernel_rfl
theorem q9_s : Tryz.prog.cellsOf 184 = 8 := by kernel_rfl
theorem p9_Tb : Tryz.prog.cellsOf 37 = 13 := by kernel_rfl
theorem array13 {α : Type} {l : Array α} (h : l.size = 13) : ∃ c0 c1 c2 c3 c4 c5 c6 c7 c8 c9 c10 c11 c12, l = #[c0, c1, c2, c3, c4, c5, c6, c7, c8, c9, c10, c11, c12] := by
  obtain ⟨l⟩ := l
  obtain ⟨c0, c1, c2, c3, c4, c5, c6, c7, c8, c9, c10, c11, c12, e⟩ := list139 (l := l) (by simpa using h)
  exact ⟨c0, c1, c2, c3, c4, c5, c6, c7, c8, c9, c10, c11, c12, by rw [e]⟩
set_option maxRecDepth 100000 in
theorem tables_open {H : Type} {enc : TypeId × Value → H} {w : World} {spare : Nat → Bool} {held : Bool} {r : Reach} {b0 : Nat} {v : Value} {d : DataW H} {p : List MemPlace}
    (hv : Value.okWide Tryz.prog w r b0 37 v) (h : DataW.Trod enc Tryz.prog w 0 spare held 37 v d p) :
    ∃ (tb : Tb) (vv : Ts), v = .agg (tbC tb vv) ∧ TbAt w tb vv ∧ WfT tb := by
  obtain ⟨cs, rfl, hsz⟩ := okWide_struct Tryz.underlying37 hv
  rw [p9_Tb] at hsz
  obtain ⟨c0, c1, c2, c3, c4, c5, c6, c7, c8, c9, c10, c11, c12, rfl⟩ := array13 hsz
  obtain ⟨fuel, hf⟩ := h
  obtain ⟨xs, n, hn, hx, hl, hlen, hfs⟩ := DataW.trod_struct Tryz.underlying37 hf
  match xs, hlen with
  | [y0, y1, y2, y3, y4, y5, y6, y7, y8, y9, y10, y11, y12], _ =>
    have h0 := hfs 0 _ rfl
    have h1 := hfs 1 _ rfl
    have h2 := hfs 2 _ rfl
    have h3 := hfs 3 _ rfl
    have h4 := hfs 4 _ rfl
    have h5 := hfs 5 _ rfl
    have h6 := hfs 6 _ rfl
    have h7 := hfs 7 _ rfl
    have h8 := hfs 8 _ rfl
    have h9 := hfs 9 _ rfl
    have h10 := hfs 10 _ rfl
    have h11 := hfs 11 _ rfl
    have h12 := hfs 12 _ rfl
    simp [p9_LapiAlarmRow, p9_LapiCounterRow, p9_LapiIsrRow, p9_LapiMessageRow, p9_LapiResourceRow, p9_LapiRingRow, p9_LapiTaskRow, p9_int, Value.cells] at h0 h1 h2 h3 h4 h5 h6 h7 h8 h9 h10 h11 h12
    obtain ⟨nUses, e0, _, _⟩ := DataW.trod_int Tryz.underlying3 h0
    obtain ⟨nModes, e1, _, _⟩ := DataW.trod_int Tryz.underlying3 h1
    obtain ⟨nDepth, e9, _, _⟩ := DataW.trod_int Tryz.underlying3 h9
    obtain ⟨nFrames, e10, _, _⟩ := DataW.trod_int Tryz.underlying3 h10
    obtain ⟨nErrors, e11, _, _⟩ := DataW.trod_int Tryz.underlying3 h11
    obtain ⟨nCalls, e12, _, _⟩ := DataW.trod_int Tryz.underlying3 h12
    simp at e0 e1 e9 e10 e11 e12
    subst e0 e1 e9 e10 e11 e12
    obtain ⟨st, lt, rfl, rt, _⟩ := rows_open ⟨(⟨0, 0, false, 0, 0, 0, [], 0⟩ : TkR)⟩ (by omega) Tryz.underlying29 q9_t h2 one9_tkr
    obtain ⟨sg, lg, rfl, rg, _⟩ := rows_open ⟨(⟨0, 0⟩ : RgR)⟩ (by omega) Tryz.underlying30 q9_g h3 one9_rgr
    obtain ⟨sr, lr, rfl, rr, _⟩ := rows_open ⟨(⟨false, 0⟩ : RsR)⟩ (by omega) Tryz.underlying31 q9_r h4 one9_rsr
    obtain ⟨sk, lk, rfl, rk, _⟩ := rows_open ⟨(⟨0, 0, 0⟩ : CtR)⟩ (by omega) Tryz.underlying32 q9_k h5 one9_ctr
    obtain ⟨sa, la, rfl, ra, _⟩ := rows_open ⟨(⟨0, ⟨0, 0, 0⟩, 0, 0, 0⟩ : AlR)⟩ (by omega) Tryz.underlying33 q9_a h6 one9_alr
    obtain ⟨si, li, rfl, ri, _⟩ := rows_open ⟨(⟨0, 0, []⟩ : IsR)⟩ (by omega) Tryz.underlying34 q9_i h7 one9_isr
    obtain ⟨ss, ls, rfl, rs, _⟩ := rows_open ⟨(⟨0, 0, 0, 0, 0, ⟨0, 0, 0⟩⟩ : MsR)⟩ (by omega) Tryz.underlying35 q9_s h8 one9_msr
    refine ⟨⟨nUses, nModes, lt, lg, lr, lk, la, li, ls, nDepth, nFrames, nErrors, nCalls⟩, ⟨st, sg, sr, sk, sa, si, ss⟩, ?_, ⟨rt.below (Below.refl _ _) (fun _ _ _ _ h => h.1), rg, rr, rk.below (Below.refl _ _) (fun _ _ _ _ h => h.1), ra.below (Below.refl _ _) (fun _ _ _ _ h => h.1), ri, rs.below (Below.refl _ _) (fun _ _ _ _ h => h.1)⟩, ⟨fun x hx => ?_, fun x hx => ?_, fun x hx => ?_, fun x hx => ?_⟩⟩
    · simp [tbC]
    · obtain ⟨j, hj⟩ := List.getElem?_of_mem hx
      obtain ⟨_, _, _, _, hr⟩ := rt.row j x hj
      obtain ⟨_, _, hb⟩ := hr 0 (by omega)
      exact hb.2
    · obtain ⟨j, hj⟩ := List.getElem?_of_mem hx
      obtain ⟨_, _, _, _, hr⟩ := rk.row j x hj
      obtain ⟨_, _, hb⟩ := hr 0 (by omega)
      exact hb.2
    · obtain ⟨j, hj⟩ := List.getElem?_of_mem hx
      obtain ⟨_, _, _, _, hr⟩ := ra.row j x hj
      obtain ⟨_, _, hb⟩ := hr 0 (by omega)
      exact hb.2
    · obtain ⟨j, hj⟩ := List.getElem?_of_mem hx
      obtain ⟨_, _, _, _, hr⟩ := rs.row j x hj
      obtain ⟨_, _, hb⟩ := hr 0 (by omega)
      exact hb.2
end Go.Proofs.YthhckhifaolmkaaGreat

