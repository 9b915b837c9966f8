import Derived.Test.YtglnfifdjlgbcaaGreatDoorXRhi1
import Derived.OpenShut
import Derived.Deep.Strs
import Derived.SizedLaws
import Derived.ChangeOld
import Derived.Laws.AppendOwnNone
import Derived.Maps.AppendAt
import Derived.RangeFuncNested
import Derived.RangeFuncBound
import Derived.RangeFuncCalls
import Derived.RangeFuncLeaves
import Derived.RangeFuncBox
import Derived.Shelf.Abstract
import Derived.Shelf.RegionOpen
import Derived.WalkKit
import Derived.OwnWalkIn
import Derived.TacticsInMore
import Derived.LoopNIn
import Derived.LoopIn
import Derived.Maps.OwnIn
import Derived.Deep.Cut
namespace Go.Proofs.YtglnfifdjlgbcaaGreatDoor.Re
open Go.RowKit Go.ChangeShapes Go.WideShapes
set_option linter.unusedVariables false

/-! ### Rows that came in -/
structure Sl where
  a : Option Addr
  n : Nat
  c : Nat
structure RowsAt {α : Type} (w : World) (k : Nat) (P : α → Nat → Value → Prop) (s : Sl) (l : List α) : Prop where
  n : s.n = l.length
  c : s.n ≤ s.c
  m : s.c ≤ maxLen
  row : ∀ (j : Nat) (x : α), l[j]? = some x → ∃ g off, s.a = some ⟨g, off, none⟩ ∧ g < w.heap.size ∧ ∀ i, i < k → ∃ u, w.cell? ⟨g, off + j * k + i, none⟩ = some u ∧ P x i u
def intP (x : Int) (_ : Nat) (u : Value) : Prop := u = I x ∧ (Lit.int .i64 x).wf = true
def boolP (x : Bool) (_ : Nat) (u : Value) : Prop := u = .bool x
def actP (x : Int × Int) (i : Nat) (u : Value) : Prop := (i = 0 → u = I x.1 ∧ (Lit.int .i64 x.1).wf = true) ∧ (i = 1 → u = I x.2 ∧ (Lit.int .i64 x.2).wf = true)
def txtP (x : ByteArray × Int) (i : Nat) (u : Value) : Prop := (i = 0 → u = .string x.1) ∧ (i = 1 → u = I x.2)
def Sized (l : List Nat) : Prop := ∀ n, n ∈ l → n ≤ reachBytes
theorem sized_of_all {l : List Nat} (h : l.all (· ≤ reachBytes) = true) : Sized l := fun n hn => by simpa using List.all_eq_true.1 h n hn
theorem sized_rows {H : Type} {P : Program} {t e : TypeId} {es sp : List (DataW H)} (hu : P.underlying t = some (.slice e)) (h : Sized (DataW.weights P t (.slice es sp))) : es.length * P.bytesOf e ≤ reachBytes := by
  unfold DataW.weights at h
  simp only [hu] at h
  exact Nat.le_trans (Nat.mul_le_mul_right _ (Nat.le_add_right _ _)) (h _ (List.mem_cons_self ..))
theorem sized_field {H : Type} {P : Program} {t : TypeId} {fs : Array Field} {parts : List (DataW H)} (hu : P.underlying t = some (.struct fs)) (h : Sized (DataW.weights P t (.agg parts))) {j : Nat} {u : TypeId} {d : DataW H} (hj : (fs.toList.map (·.type))[j]? = some u) (hd : parts[j]? = some d) : Sized (d.weights P u) := by
  unfold DataW.weights at h
  simp only [hu] at h
  exact fun n hn => h n (DataW.weights_mem_each hj hd n hn)
theorem rows_open {α : Type} (inh : Inhabited α) {H : Type} {enc : TypeId × Value → H} {w : World} {spare : Nat → Bool} {held : Bool} {fuel : Nat} {T E : TypeId} {k : Nat} (hk : 0 < k) (hu : Tryz.prog.underlying T = some (.slice E)) (hc : Tryz.prog.cellsOf E = k) {P : α → Nat → Value → Prop} {v : Value} {y : DataW H × List MemPlace}
    (h : DataW.trod enc Tryz.prog w 0 spare held fuel T [v] = some y)
    (one : ∀ n cs z, cs.length = k → DataW.trod enc Tryz.prog w 0 spare held n E cs = some z → ∃ x : α, ∀ i, i < k → ∃ u, cs[i]? = some u ∧ P x i u) :
    ∃ (s : Sl) (l : List α), v = .slice s.a s.n s.c ∧ RowsAt w k P s l ∧ (Sized (y.1.weights Tryz.prog T) → l.length * Tryz.prog.bytesOf E ≤ reachBytes) := by
  rcases DataW.trod_slice hu h with ⟨hcs, _⟩ | ⟨a, len, cap, elems, rest, n, hfu, hcs, hx, _, hlc, hcm, hel, hV, _, _⟩
  · simp at hcs
    subst hcs
    exact ⟨⟨none, 0, 0⟩, [], rfl, ⟨rfl, Nat.le_refl _, Nat.zero_le _, fun j x hj => by simp at hj⟩, fun _ => by simp⟩
  · simp at hcs
    subst hcs
    rw [hc] at hV
    obtain ⟨L, hL⟩ := Go.Deep.choose_lt (α := α) (n := len) (p := fun i x => ∃ cs, w.cells? 0 (a.add (i * k)) k = some cs ∧ ∀ t, t < k → ∃ u, cs[t]? = some u ∧ P x t u) (fun i hi => by
      have hVi := hV i hi
      rw [List.getElem?_eq_getElem (by omega : i < elems.length)] at hVi
      obtain ⟨cs', h1, h2⟩ := Option.bind_eq_some_iff.1 hVi
      obtain ⟨_, hcl, _⟩ := World.cells?_some h1
      obtain ⟨x, hx⟩ := one n cs' _ hcl h2
      exact ⟨x, cs', h1, hx⟩)
    obtain ⟨b, off, spot⟩ := a
    refine ⟨⟨some ⟨b, off, spot⟩, len, cap⟩, (List.range len).map L, rfl, ⟨by simp, hlc, hcm, fun j x hj => ?_⟩, fun hz => ?_⟩
    · rw [List.getElem?_map] at hj
      obtain ⟨i, hi, rfl⟩ := Option.map_eq_some_iff.1 hj
      have hjl : j < len := by have := (List.getElem?_eq_some_iff.1 hi).1; simpa using this
      obtain rfl : j = i := by rw [List.getElem?_range hjl] at hi; exact Option.some.inj hi
      obtain ⟨cs, h1, h2⟩ := hL j hjl
      obtain ⟨_, hcl, hcc⟩ := World.cells?_some h1
      have hspot : spot = none := by
        obtain ⟨cs0, g1, g2⟩ := hL 0 (by omega)
        obtain ⟨_, gl, gc⟩ := World.cells?_some g1
        obtain ⟨u, gu, _⟩ := g2 0 hk
        have := World.cell?_spot ((gc 0 hk).trans gu)
        simpa [Addr.add] using this
      subst hspot
      refine ⟨b, off, rfl, ?_, fun t ht => ?_⟩
      · have := World.cells?_block h1 hk
        rw [WideShapes.add_plain] at this
        exact this
      · obtain ⟨u, hu1, hu2⟩ := h2 t ht
        have := (hcc t ht).trans hu1
        rw [WideShapes.add_plain, WideShapes.add_plain] at this
        exact ⟨u, this, hu2⟩
    · rw [hx] at hz
      have := sized_rows hu hz
      rw [List.length_map, hel] at this
      simpa using this

theorem p_int : Tryz.prog.cellsOf 3 = 1 := by kernel_rfl
theorem p_bool : Tryz.prog.cellsOf 4 = 1 := by kernel_rfl
theorem p_string : Tryz.prog.cellsOf 9 = 1 := by kernel_rfl
theorem one_int {H : Type} {enc : TypeId × Value → H} {w : World} {spare : Nat → Bool} {held : Bool} (n : Nat) (cs : List Value) (z : DataW H × List MemPlace) (hl : cs.length = 1) (h : DataW.trod enc Tryz.prog w 0 spare held n 3 cs = some z) : ∃ x : Int, ∀ i, i < 1 → ∃ u, cs[i]? = some u ∧ intP x i u := by
  obtain ⟨x, rfl, _, hw⟩ := DataW.trod_int Tryz.underlying3 h
  exact ⟨x, fun i hi => by obtain rfl : i = 0 := by omega
                           exact ⟨_, rfl, rfl, hw⟩⟩
theorem one_bool {H : Type} {enc : TypeId × Value → H} {w : World} {spare : Nat → Bool} {held : Bool} (n : Nat) (cs : List Value) (z : DataW H × List MemPlace) (hl : cs.length = 1) (h : DataW.trod enc Tryz.prog w 0 spare held n 4 cs = some z) : ∃ x : Bool, ∀ i, i < 1 → ∃ u, cs[i]? = some u ∧ boolP x i u := by
  obtain ⟨x, rfl, _⟩ := DataW.trod_bool Tryz.underlying4 h
  exact ⟨x, fun i hi => by obtain rfl : i = 0 := by omega
                           exact ⟨_, rfl, rfl⟩⟩
theorem list2 {α : Type} {l : List α} (h : l.length = 2) : ∃ c0 c1, l = [c0, c1] := by
  match l, h with
  | [c0, c1], _ => exact ⟨c0, c1, rfl⟩
theorem RowsAt.cell {α : Type} {w W : World} {k : Nat} {P : α → Nat → Value → Prop} {a : Option Addr} {n c : Nat} {l : List α} (h : RowsAt w k P ⟨a, n, c⟩ l) (hb : Below w.heap.size w W) {j : Nat} {x : α} (hj : l[j]? = some x) : ∃ g off, a = some ⟨g, off, none⟩ ∧ ∀ i, i < k → ∃ u, W.cell? ⟨g, off + j * k + i, none⟩ = some u ∧ P x i u := by
  obtain ⟨g, off, e, hg, hr⟩ := h.row j x hj
  refine ⟨g, off, e, fun i hi => ?_⟩
  obtain ⟨u, hu, hp⟩ := hr i hi
  exact ⟨u, (World.cell?_of_block (hb.block g hg)).trans hu, hp⟩
end Go.Proofs.YtglnfifdjlgbcaaGreatDoor.Re

namespace Go.Proofs.YtglnfifdjlgbcaaGreatDoor.Re
open Go.RowKit
set_option linter.unusedVariables false
set_option linter.unusedSimpArgs false

/-! ### Rings of string: what only reads -/
abbrev sP (B : Nat) : Value := .pointer (some ⟨B, 0, none⟩)
section
variable {w : World} {B g n f hi : Nat} {R l : List Value}
end
end Go.Proofs.YtglnfifdjlgbcaaGreatDoor.Re

namespace Go.Proofs.YtglnfifdjlgbcaaGreatDoor.Re
open Go.RowKit
set_option linter.unusedVariables false
set_option linter.unusedSimpArgs false

/-! ### Rings of string: New, Last, First, Take, At -/
section
variable {w : World} {B g n f hi : Nat} {R l : List Value}
end
end Go.Proofs.YtglnfifdjlgbcaaGreatDoor.Re

namespace Go.Proofs.YtglnfifdjlgbcaaGreatDoor.Re
open Go.RowKit
set_option linter.unusedVariables false
set_option linter.unusedSimpArgs false

/-! ### Rings of string: New, Last, First, Take, At -/
theorem sinfo : (Tryz.prog.info? 9).map (fun i => (i.zero, i.size, i.bytes)) = some (some (Value.string ⟨#[]⟩), 1, 16) := by kernel_rfl
theorem smade (n : Nat) : madeCells #[(Value.string ⟨#[]⟩)] (n * 1) = (List.replicate n (Value.string ⟨#[]⟩)).toArray := by
  rw [Nat.mul_one, ← toList_madeCells_one]
section
variable {w : World} {B g n f hi : Nat} {R l : List Value}
end
end Go.Proofs.YtglnfifdjlgbcaaGreatDoor.Re

namespace Go.Proofs.YtglnfifdjlgbcaaGreatDoor.Re
open Go.RowKit
set_option linter.unusedVariables false
set_option linter.unusedSimpArgs false

/-! ### Rings of string: First, Take -/
section
variable {w : World} {B g n f hi : Nat} {R l : List Value}
end
end Go.Proofs.YtglnfifdjlgbcaaGreatDoor.Re

namespace Go.Proofs.YtglnfifdjlgbcaaGreatDoor.Re
open Go.RowKit
set_option linter.unusedVariables false
set_option linter.unusedSimpArgs false

/-! ### Rings of string: Take -/
section
variable {w : World} {B g n f hi : Nat} {R l : List Value}
end
end Go.Proofs.YtglnfifdjlgbcaaGreatDoor.Re

namespace Go.Proofs.YtglnfifdjlgbcaaGreatDoor.Re
open Go.RowKit
set_option linter.unusedVariables false
set_option linter.unusedSimpArgs false

/-! ### Rings of string: their face -/
section
variable {w : World} {B g n hi : Nat} {l : List Value}
end
end Go.Proofs.YtglnfifdjlgbcaaGreatDoor.Re

namespace Go.Proofs.YtglnfifdjlgbcaaGreatDoor.Re
open Go.RowKit
set_option linter.unusedVariables false
set_option linter.unusedSimpArgs false

/-! ### Rings of ints: the row as a list -/
section
variable {w : World} {B g n f hi : Nat} {R l : List Value}
theorem Rg.hf {T E : TypeId} (h : Rg w T E B g n f hi R l) : f = 0 ∨ f < n := by have := h.r.p; rw [h.k] at this; exact this
theorem parts_one (h : iRg w B g n f hi R l) (hx : f + l.length ≤ n) : Calls Tryz.prog 242 #[iP B] w fun e w' => e = .returned (.tuple #[.slice (some ⟨g, f, none⟩) l.length (n - f), .slice none 0 0]) ∧ Below w.heap.size w w' := by
  obtain ⟨-, c1, c2, c3, -⟩ := h.cells
  have hm := h.m
  have hs := isl_mid g n f l.length hx h.hf (f : Int) ((f : Int) + l.length) rfl rfl
  have h1 : (f : Int) + l.length ≤ n := by omega
  clear h
  go_enter Tryz.func242, Tryz.ntmps242
  go_wp2
  go_quiet (fail)
  go_wp2
  go_quiet (fail)
  go_wp2
  go_ret2
  exact ⟨rfl, below_drewN _ (below_drewN _ (Below.refl _ _))⟩
theorem parts_two (h : iRg w B g n f hi R l) (hx : n < f + l.length) : Calls Tryz.prog 242 #[iP B] w fun e w' => e = .returned (.tuple #[.slice (some ⟨g, f, none⟩) (n - f) (n - f), .slice (some ⟨g, 0, none⟩) (f + l.length - n) n]) ∧ Below w.heap.size w w' := by
  obtain ⟨-, c1, c2, c3, -⟩ := h.cells
  have hm := h.m
  have hle := h.lle
  have hf2 : f < n := by have := h.hf; omega
  have hs := isl_from g n f hf2
  have hs2 := isl_to g n (f + l.length - n) (by omega) ((f : Int) + l.length - n) (by omega)
  have h1 : ¬ (f : Int) + l.length ≤ n := by omega
  clear h
  go_enter Tryz.func242, Tryz.ntmps242
  go_wp2
  go_quiet (fail)
  go_wp2
  go_quiet (fail)
  go_wp2
  go_ret2
  exact ⟨rfl, below_drewN _ (below_drewN _ (Below.refl _ _))⟩
/-- the row's cells, where it lies in one stretch -/
theorem Rg.one {T E : TypeId} (h : Rg w T E B g n f hi R l) (hx : f + l.length ≤ n) : ∀ j u, l[j]? = some u → w.cell? ((⟨g, f, none⟩ : Addr).add j) = some u := fun j u hj => by
  rw [addr_add]
  have hjl := (List.getElem?_eq_some_iff.1 hj).1
  have := h.r.a j hjl
  rw [h.k, Nat.mod_eq_of_lt (by omega), hj] at this
  exact h.at this
theorem Rg.two1 {T E : TypeId} (h : Rg w T E B g n f hi R l) : ∀ j u, (R.drop f)[j]? = some u → w.cell? ((⟨g, f, none⟩ : Addr).add j) = some u := fun j u hj => by
  rw [addr_add]
  rw [List.getElem?_drop] at hj
  exact h.at hj
theorem Rg.two2 {T E : TypeId} (h : Rg w T E B g n f hi R l) (m : Nat) : ∀ j u, (R.take m)[j]? = some u → w.cell? ((⟨g, 0, none⟩ : Addr).add j) = some u := fun j u hj => by
  rw [addr_add, Nat.zero_add]
  rw [List.getElem?_take] at hj
  split at hj
  · exact h.at hj
  · cases hj
theorem Rg.twoL {T E : TypeId} (h : Rg w T E B g n f hi R l) (hx : n < f + l.length) : R.drop f ++ R.take (f + l.length - n) = l := by
  have := h.r.two (by rw [h.k]; exact hx)
  rw [h.k] at this
  exact this
theorem own_some {b E m : Nat} {v : Value} {xs : List Value} (h : w.ownsRow b E 1 v m xs) (hn : v ≠ .slice none 0 0) : ∃ X cap, v = .slice (some ⟨X, 0, none⟩) m cap := by
  rcases h.2 with ⟨h1, _⟩ | ⟨g, cap, cur, h1, _⟩
  · exact absurd h1 hn
  · exact ⟨g, cap, h1⟩
set_option maxHeartbeats 4000000 in
theorem list_any (h : iRg w B g n f hi R l) (hone : ∀ u ∈ l, u.oneCell' = true) : Calls Tryz.prog 240 #[iP B] w fun e w' => ∃ X cap, e = .returned (.slice (some ⟨X, 0, none⟩) l.length cap) ∧ w'.ownsRow w.heap.size 3 1 (.slice (some ⟨X, 0, none⟩) l.length cap) l.length l ∧ Below w.heap.size w w' := by
  obtain ⟨i0, hi0, hz0, hz1, hz2⟩ := info_parts iinfo
  have hm := h.m
  have hle := h.lle
  have hk : ∀ w1, Below w.heap.size w w1 → w1.cell? ⟨B, 3, none⟩ = some (I l.length) ∧ ∃ w2, (Instr.makeSlice 31 (I 0) (I l.length)).run Tryz.prog w1 = .ok (.slice (some ⟨w1.heap.size, 0, none⟩) 0 l.length) w2 ∧ w2.ownsRow w.heap.size 3 1 (.slice (some ⟨w1.heap.size, 0, none⟩) 0 l.length) 0 [] ∧ Below w.heap.size w w2 := fun w1 b1 => by
    refine ⟨(h.below b1).cells.2.2.2.1, ?_⟩
    obtain ⟨w2, hmk, hO2, hg2⟩ := run_make_own (P := Tryz.prog) w1 w.heap.size 31 3 i0 (.int .i64 0) 1 Tryz.underlying31 hi0 hz0 hz1 .i64 .i64 l.length (by rw [hz2]; omega) (by unfold maxLen; omega) b1.size
    exact ⟨w2, hmk, hO2, b1.grown hg2 b1.size (fun k e => by cases e)⟩
  by_cases hx : f + l.length ≤ n
  · have hp := parts_one h hx
    go_enter Tryz.func240, Tryz.ntmps240
    go_wp2_with (first
      | (go_at_call 242; refine hp.mono ?_; rintro e w1 ⟨rfl, b1⟩; obtain ⟨c3, w2, hmk, hO2, b2⟩ := hk w1 b1)
      | (at_builtin; refine wpList_append_own _ rfl (.tmp 16) (.tmp 17) 31 rfl w.heap.size 3 i0 (.int .i64 0) 1 8 Tryz.underlying31 hi0 hz0 hz1 hz2 rfl (by decide) _ _ _ rfl hO2 ⟨g, f, none⟩ l.length (n - f) l rfl (by simp) ((h.below b2).one hx) hone (by unfold maxLen; omega) (by omega) b2.size ?_; intro v3 w3 h3 hg3 hn3; have b3 := b2.grown hg3 b2.size (fun k e => by cases e; exact b1.size); rw [Nat.zero_add, List.nil_append] at h3; have n3 : v3 ≠ .slice none 0 0 := (fun e => by have := (hn3.1 e).1; cases this); clear hmk hg3 hO2 c3 hn3)
      | (at_builtin; refine wpList_append_own_none rfl (.tmp 18) (.tmp 19) 31 rfl w.heap.size 3 i0 1 Tryz.underlying31 hi0 _ _ _ rfl h3 rfl ?_))
    go_ret
    obtain ⟨X, cap, rfl⟩ := own_some h3 n3
    exact ⟨X, cap, rfl, h3, b3⟩
  · have hx2 : n < f + l.length := by omega
    have hp := parts_two h hx2
    have HL : Hid (R.drop f ++ R.take (f + l.length - n) = l) := h.twoL hx2
    have hf2 : f < n := by have := h.hf; omega
    have l1 : (R.drop f).length = n - f := by simp [h.k]
    have l2 : (R.take (f + l.length - n)).length = f + l.length - n := by simp [h.k]; omega
    have o1 : ∀ u ∈ R.drop f, u.oneCell' = true := fun u hu => hone u (by rw [← HL.out]; exact List.mem_append_left _ hu)
    have o2 : ∀ u ∈ R.take (f + l.length - n), u.oneCell' = true := fun u hu => hone u (by rw [← HL.out]; exact List.mem_append_right _ hu)
    have hg := h.lts.2
    go_enter Tryz.func240, Tryz.ntmps240
    go_wp2_with (first
      | (go_at_call 242; refine hp.mono ?_; rintro e w1 ⟨rfl, b1⟩; obtain ⟨c3, w2, hmk, hO2, b2⟩ := hk w1 b1)
      | (at_builtin; refine wpList_append_own _ rfl (.tmp 16) (.tmp 17) 31 rfl w.heap.size 3 i0 (.int .i64 0) 1 8 Tryz.underlying31 hi0 hz0 hz1 hz2 rfl (by decide) _ _ _ rfl hO2 ⟨g, f, none⟩ (n - f) (n - f) (R.drop f) rfl (by simp [h.k]) ((h.below b2).two1) o1 (by unfold maxLen; omega) (by omega) b2.size ?_; intro v3 w3 h3 hg3 hn3; have b3 := b2.grown hg3 b2.size (fun k e => by cases e; exact b1.size); rw [Nat.zero_add, List.nil_append] at h3; have n3 : v3 ≠ .slice none 0 0 := (fun e => by have := (hn3.1 e).1; cases this); clear hmk hg3 hO2 c3 hn3)
      | (at_builtin; refine wpList_append_own _ rfl (.tmp 18) (.tmp 19) 31 rfl w.heap.size 3 i0 (.int .i64 0) 1 8 Tryz.underlying31 hi0 hz0 hz1 hz2 rfl (by decide) _ _ _ rfl h3 ⟨g, 0, none⟩ (f + l.length - n) n (R.take (f + l.length - n)) rfl (by rw [Nat.mul_one]; exact l2) ((h.below b3).two2 _) o2 (by unfold maxLen; omega) (by omega) b3.size ?_; intro v4 w4 h4 hg4 hn4; have b4 := b3.grown hg4 b3.size (fun k e => (h3.lt k e).1); rw [HL.out] at h4; have n4 : v4 ≠ .slice none 0 0 := (fun e => n3 (hn4.1 e).1); clear hg4 h3 hn4))
    go_ret
    rw [show n - f + (f + l.length - n) = l.length by omega] at h4
    obtain ⟨X, cap, rfl⟩ := own_some h4 n4
    exact ⟨X, cap, rfl, h4, b4⟩
end
end Go.Proofs.YtglnfifdjlgbcaaGreatDoor.Re

namespace Go.Proofs.YtglnfifdjlgbcaaGreatDoor.Re
open Go.RowKit Go.Shelf
set_option linter.unusedVariables false
set_option linter.unusedSimpArgs false
attribute [local go_sem] Oper.semAt_some

/-! ### Ranging over a ring of ints -/
/-- What a round keeps: cells that are none of M's; and none of them becomes M's. -/
structure Kq (M : World → Nat → Prop) (W W' : World) : Prop where
  size : W.heap.size ≤ W'.heap.size
  same : ∀ (b : Nat) (cs : Array Value) (ty : TypeId), ¬ M W b → W.heap[b]? = some (.cells cs ty) → W'.heap[b]? = some (.cells cs ty) ∧ ¬ M W' b
theorem Kq.trans {M : World → Nat → Prop} {A B C : World} (h : Kq M A B) (k : Kq M B C) : Kq M A C :=
  ⟨Nat.le_trans h.size k.size, fun b cs ty hm hb => k.same b cs ty (h.same b cs ty hm hb).2 (h.same b cs ty hm hb).1⟩
theorem Kq.refl (M : World → Nat → Prop) (A : World) : Kq M A A := ⟨Nat.le_refl _, fun b cs ty hm hb => ⟨hb, hm⟩⟩
theorem Kq.put {M : World → Nat → Prop} {w : World} (hM : ∀ W l o b, w.heap.size ≤ l → M (W.putObj l o) b → M W b) (W : World) (l : Nat) (o o' : Obj) (hl : w.heap.size ≤ l) (h : W.heap[l]? = some o) (hc : o.isCells = false) (_ : o.isWalk = false) : Kq M W (W.putObj l o') := by
  have hg := grownBy_putObj' W l o'
  refine ⟨hg.size, fun b cs ty hm hb => ⟨(hg.block b (heap_lt hb) (fun e => ?_)).trans hb, fun e => hm (hM W l o' b hl e)⟩⟩
  cases e
  rw [h] at hb
  cases hb
  cases hc
theorem All_any (B : Nat) (w : World) : Calls Tryz.prog 171 #[iP B] w fun e w' => e = .returned (.func (.func 239) #[] #[.pointer (some ⟨w.heap.size, 0, none⟩)]) ∧ w' = w.alloc (.cells #[iP B] 182) := by
  go_enter Tryz.func171, Tryz.ntmps171
  go_wp2
  go_ret
  exact ⟨rfl, rfl⟩
def intsV (l : List Int) : List Value := l.map fun x => I x
theorem ones2 (l : List Int) : ∀ u ∈ intsV l, u.oneCell' = true := fun u hu => by
  obtain ⟨x, _, rfl⟩ := List.mem_map.1 hu
  rfl
set_option maxRecDepth 100000 in
set_option maxHeartbeats 4000000 in
/-- The iterator, for every loop body that keeps what is none of M's. -/
theorem All1_in (n : Nat) (hn : 1 ≤ n) (l Bn : Nat) (M : World → Nat → Prop) (xs : List Int) (B g m hi : Nat) (J Jx : List Int → World → Prop)
    (W : World) (hBn : W.cell? ⟨Bn, 0, none⟩ = some (iP B)) (hL : iQ W B g m hi (intsV xs)) (hMW : ∀ W' b, Below W.heap.size W W' → M W' b → b < W.heap.size) (hJ : AbidesFrom W.heap.size J)
    (hY : ∀ pre x W, J pre W → pre.length < xs.length → YieldAt Fence.wide (n - 1) Tryz.prog l #[.int .i64 x] W fun e W' =>
      (e = .returned (.bool true) ∧ J (pre ++ [x]) W' ∧ Kq M W W') ∨ (e = .returned (.bool false) ∧ Jx (pre ++ [x]) W'))
    (h0 : J [] W) :
    CallsIn Fence.wide n Tryz.prog 239 #[.func (.yield l) #[] #[], .pointer (some ⟨Bn, 0, none⟩)] W fun e W' => (∃ v, e = .returned v) ∧
      ((∃ ys, ys = xs ∧ J ys W') ∨ (∃ pre, pre <+: xs ∧ Jx pre W')) := by
  obtain ⟨f, R, hR⟩ := hL
  have hN := inone_any hR
  have hLi := list_any hR (ones2 xs)
  have hle := hR.lle
  have hm := hR.m
  refine callsIn_of_wp Tryz.func239 rfl trivial ?_ rfl
  simp only [Tryz.ntmps239, List.size_toArray, List.length_cons, List.length_nil, Nat.reduceAdd, Nat.reduceSub, Array.replicate_succ, Array.replicate_zero, List.push_toArray, List.append_toArray, List.nil_append, List.cons_append]
  gi_wp2_with (first
    | (refine ⟨trivial, ?_⟩; gi_at_call 238; refine (callsIn_wide.2 hN).mono ?_; rintro e w1 ⟨rfl, rfl⟩)
    | (refine ⟨trivial, ?_⟩; gi_at_call 240; refine (callsIn_wide.2 hLi).mono ?_; rintro e w1 ⟨X, cap, rfl, ho, hb⟩))
  have hX := ho.lt X rfl
  obtain ⟨cur, hcur⟩ : ∃ cur, w1.heap[X]? = some (.cells cur 3) := by
    rcases ho.2 with ⟨h1, _⟩ | ⟨g', cap', cur, h1, _, hh, _⟩
    · cases h1
    · cases h1; exact ⟨cur, hh⟩
  have hxs : ∀ k x, xs[k]? = some x → cur[k]? = some (I x) := fun k x hk => by
    have hkl := (List.getElem?_eq_some_iff.1 hk).1
    have := ho.cellAt k (by simp [intsV]; exact hkl)
    rw [cell_of_row w1 X k _ _ (0, 0) hcur] at this
    rw [this]
    simp [intsV, hk]
  have hlen : (intsV xs).length = xs.length := by simp [intsV]
  have HR : Hid (J [] w1 ∧ w1.heap[X]? = some (.cells cur 3) ∧ ¬ M w1 X) := ⟨hJ [] W w1 none h0 (grown_of_below hb) (fun r e => by cases e), hcur, fun e => by have := hMW w1 X hb e; omega⟩
  rw [hlen] at hle
  simp only [hlen]
  clear hcur ho hLi hN hR h0
  gi_loopw [10] (fun i wr => ∃ k : Nat, k ≤ xs.length ∧ i = .int .i64 k ∧ Hid (J (xs.take k) wr ∧ wr.heap[X]? = some (.cells cur 3) ∧ ¬ M wr X))
    (fun i _ => xs.length - (intOf i).toNat)
  case atStart => exact ⟨0, Nat.zero_le _, rfl, HR.out⟩
  case round =>
    clear HR
    obtain ⟨k, hk, rfl, HJ⟩ := hrel
    obtain ⟨hJs, hcu, hMx⟩ := HJ.out
    by_cases hlt : k < xs.length
    · obtain ⟨x, hx⟩ : ∃ x, xs[k]? = some x := ⟨_, List.getElem?_eq_getElem hlt⟩
      have hltI : (k : Int) < xs.length := by omega
      obtain ⟨fn, tmps, assign, body, hy, hRR⟩ := hY _ x wr hJs (by simp; omega)
      have hcx : wr.cell? ⟨X, k, none⟩ = some (I x) := by rw [cell_of_row wr X k _ _ (0, 0) hcu]; exact hxs k x hx
      have htk : Hid (xs.take (k + 1) = xs.take k ++ [x]) := by
        show _ = _
        rw [List.take_add_one, hx]; rfl
      clear HJ
      gi_wp2
      refine hRR.mono ?_
      rintro e W3 (⟨rfl, hJ3, hk3⟩ | ⟨rfl, hJx3⟩)
      · have H9 : Hid (J (xs.take (k + 1)) W3 ∧ W3.heap[X]? = some (.cells cur 3) ∧ ¬ M W3 X) := by
          rw [htk.out]
          exact ⟨hJ3, hk3.same X _ _ hMx hcu⟩
        clear hJ3 hk3 hcu hMx hJs hcx htk
        gi_wp2
        go_roundw
        case rel => exact ⟨k + 1, by omega, by go_num, H9.out⟩
        case measure => simp [intOf]; omega
      · gi_wp2
        refine bodyPost_ret (results_none rfl _ _ _) rfl ?_
        exact ⟨⟨_, rfl⟩, .inr ⟨_, ⟨xs.drop (k + 1), by rw [← htk.out]; exact List.take_append_drop _ _⟩, hJx3⟩⟩
    · obtain rfl : k = xs.length := by omega
      have hge : ¬ ((xs.length : Int) < xs.length) := by omega
      gi_wp2
      go_end0
      rw [List.take_length] at hJs
      exact ⟨⟨_, rfl⟩, .inl (by simpa using hJs)⟩
/-- r.All() hands back a value that 'SeqStopsK'. -/
theorem All_stops (n : Nat) (hn : 1 ≤ n) (Bn : Nat) (M : World → Nat → Prop) (xs : List Int) (B g m hi : Nat) (w : World) (hBl : Bn < w.heap.size) (hBn : w.cell? ⟨Bn, 0, none⟩ = some (iP B)) (hL : iQ w B g m hi (intsV xs)) (hMW : ∀ W' b, Below w.heap.size w W' → M W' b → b < w.heap.size) :
    SeqStopsK Fence.wide n Tryz.prog 239 #[.pointer (some ⟨Bn, 0, none⟩)] (fun x : Int => #[Value.int .i64 x]) (Kq M) (fun ys => ys = xs) (fun pre => pre <+: xs) xs.length w := fun l J Jx W hW hJ _ hY h0 =>
  All1_in n hn l Bn M xs B g m hi J Jx W ((hW.cell (p := ⟨Bn, 0, none⟩) hBl).trans hBn) (hL.below hW) (fun W' b hb hm => Nat.lt_of_lt_of_le (hMW W' b (hW.trans (hb.mono hW.size)) hm) hW.size) hJ hY h0
/-- M for a caller that appends to a row in a box: the box itself, and the row. -/
def Mbox (c : Nat) (W : World) (b : Nat) : Prop := b = c ∨ ∃ v, W.cell? ⟨c, 0, none⟩ = some v ∧ v.ownBlock = some b
theorem Mbox.app {W w1 : World} {c : Nat} {v v' : Value} {O : Obj} {t : TypeId} (hv : Boxed W c t v) (hv2 : Boxed (w1.setCell ⟨c, 0, none⟩ v') c t v') (hg : (W.alloc O).grownBy w1 v.ownBlock) (hat : v'.ownBlock = v.ownBlock ∨ v'.ownBlock = some (W.alloc O).heap.size) : Kq (Mbox c) W (w1.setCell ⟨c, 0, none⟩ v') := by
  have hs := hg.size
  rw [World.size_alloc] at hs
  refine ⟨by have := (grown_set w1 c 0 v').size; omega, fun b cs ty hm hb => ?_⟩
  have hlt := heap_lt hb
  have hbc : b ≠ c := fun e => hm (.inl e)
  have hbv : v.ownBlock ≠ some b := fun e => hm (.inr ⟨v, hv.cell, e⟩)
  refine ⟨?_, ?_⟩
  · rw [heap_setCell_other w1 ⟨c, 0, none⟩ b _ hbc, hg.block b (by simp; omega) (fun e => hbv e.symm)]
    exact heap_over _ _ hb
  · rintro (e | ⟨u, hu, e⟩)
    · exact hbc e
    · rw [hv2.cell] at hu
      cases hu
      rcases hat with h9 | h9
      · exact hbv (h9.symm.trans e)
      · rw [h9] at e
        simp at e
        omega
theorem seq_some (W : World) (f : Fn) (a b : Array Value) : (binOp .eql 133 (.func f a b) Value.nilFunc).run Tryz.prog W = .ok (.bool false) W := by kernel_rfl
end Go.Proofs.YtglnfifdjlgbcaaGreatDoor.Re

namespace Go.Proofs.YtglnfifdjlgbcaaGreatDoor.Re
open Go.RowKit
set_option linter.unusedVariables false
set_option linter.unusedSimpArgs false

/-! ### The document's ring -/
theorem own_base {w : World} {b b' e k n : Nat} {v : Value} {xs : List Value} (h : w.ownsRow b e k v n xs) (hb : b' ≤ b) : w.ownsRow b' e k v n xs := by
  obtain ⟨hl, h0 | ⟨g, cap, cur, hv, hb1, hh, rr⟩⟩ := h
  · exact ⟨hl, .inl h0⟩
  · exact ⟨hl, .inr ⟨g, cap, cur, hv, by omega, hh, rr⟩⟩
/-- An append of a row that may be nil. -/
theorem run_append_both {P : Program} (w : World) (base b2 : Nat) (t ty e : TypeId) (i : TypeInfo) (z : Value) (bytes : Nat) (ht : P.underlying t = some (.slice e)) (hi : P.info? e = some i) (hz : i.zero = some z)
    (hsize : i.size = 1) (hby : i.bytes = bytes) (hzs : z.cells.size = 1) (v u : Value) (n m : Nat) (xs ys : List Value) (hown : w.ownsRow base e 1 v n xs) (hu : w.ownsRow b2 e 1 u m ys) (h1 : ∀ y ∈ ys, y.oneCell' = true)
    (h63 : n + m ≤ maxLen) (hbytes : (n + m) * bytes ≤ 140737488355328) (hbase : base ≤ w.heap.size) :
    ∃ v' w', (Builtin.append_ #[t, t] ty #[v, u]).run P w = .ok v' w' ∧ w'.ownsRow base e 1 v' (n + m) (xs ++ ys) ∧ w.grownBy w' v.ownBlock := by
  rcases hu.2 with ⟨rfl, rfl⟩ | ⟨g, cap, cur, rfl, _⟩
  · have hy : ys = [] := List.eq_nil_of_length_eq_zero (by have := hu.1; simpa using this)
    subst hy
    exact ⟨v, w, run_append_owned_none (P := P) w base t ty e i 1 ht hi v n xs hown, by simpa using hown, grown_refl _ _⟩
  · obtain ⟨v', w', hr, h2, h3, _⟩ := run_append_own (P := P) w base t ty e i z 1 bytes ht hi hz hsize hby hzs (by decide) v n xs hown ⟨g, 0, none⟩ m cap ys (by rw [Nat.mul_one]; have := hu.1; omega) (hu.cells rfl) h1 h63 hbytes hbase
    exact ⟨v', w', hr, h2, h3⟩
theorem wpList_append_both {P : Program} (w : World) {ops : Array Oper} {rest : List Oper} {o : Oper} {a : Act} {Q : Exit → Act → World → Prop} (hgd : o.guard = none) (s x : Operand) (t : TypeId)
    (ho : o.op = .call { callee := .builtin .append, args := #[s, x], argTypes := #[t, t] })
    (base b2 : Nat) (e : TypeId) (i : TypeInfo) (z : Value) (bytes : Nat) (ht : P.underlying t = some (.slice e)) (hi : P.info? e = some i) (hz : i.zero = some z)
    (hsize : i.size = 1) (hby : i.bytes = bytes) (hzs : z.cells.size = 1) (v u : Value) (n m : Nat) (xs ys : List Value) (hs : a.eval s = v) (hx : a.eval x = u) (hown : w.ownsRow base e 1 v n xs) (hu : w.ownsRow b2 e 1 u m ys) (h1 : ∀ y ∈ ys, y.oneCell' = true)
    (h63 : n + m ≤ maxLen) (hbytes : (n + m) * bytes ≤ 140737488355328) (hbase : base ≤ w.heap.size)
    (h : ∀ v' w', w'.ownsRow base e 1 v' (n + m) (xs ++ ys) → w.grownBy w' v.ownBlock → wpList P ops Q rest (a.put o.dst v') w') :
    wpList P ops Q (o :: rest) a w := by
  refine wpList_plain hgd fun K hK => ?_
  obtain ⟨v', w', hr, h2, h3⟩ := run_append_both (P := P) w base b2 t o.type e i z bytes ht hi hz hsize hby hzs v u n m xs ys hown hu h1 h63 hbytes hbase
  unfold Oper.wp execOp
  simp only [ho, resolve, invoke, builtin, Sem.run_bind, Sem.run_pure, Result.andThen_ok, List.map_toArray, List.map_cons, List.map_nil, hs, hx, hr]
  exact hK _ _ (h v' w' h2 h3)
theorem step_append_both {P : Program} {ops : Array Oper} {o : Oper} {a : Act} {w : World} {K : Act → World → Prop} {Q : Exit → Act → World → Prop} {E : Prop} (hgd : o.guard = none) (s x : Operand) (t : TypeId)
    (ho : o.op = .call { callee := .builtin .append, args := #[s, x], argTypes := #[t, t] })
    (base b2 : Nat) (e : TypeId) (i : TypeInfo) (z : Value) (bytes : Nat) (ht : P.underlying t = some (.slice e)) (hi : P.info? e = some i) (hz : i.zero = some z)
    (hsize : i.size = 1) (hby : i.bytes = bytes) (hzs : z.cells.size = 1) (v u : Value) (n m : Nat) (xs ys : List Value) (hs : a.eval s = v) (hx : a.eval x = u) (hown : w.ownsRow base e 1 v n xs) (hu : w.ownsRow b2 e 1 u m ys) (h1 : ∀ y ∈ ys, y.oneCell' = true)
    (h63 : n + m ≤ maxLen) (hbytes : (n + m) * bytes ≤ 140737488355328) (hbase : base ≤ w.heap.size)
    (h : ∀ v' w', w'.ownsRow base e 1 v' (n + m) (xs ++ ys) → w.grownBy w' v.ownBlock → K (a.put o.dst v') w') :
    if Region.wanted o (yielded ops a.tmps) = true then Oper.wp P o a w K Q else E := by
  have hw : Region.wanted o (yielded ops a.tmps) = true := by simp [Region.wanted, hgd]
  rw [if_pos hw]
  obtain ⟨v', w', hr, h2, h3⟩ := run_append_both (P := P) w base b2 t o.type e i z bytes ht hi hz hsize hby hzs v u n m xs ys hown hu h1 h63 hbytes hbase
  unfold Oper.wp
  simp [execOp, ho, resolve, invoke, builtin, hs, hx, hr, Result.andThen]
  exact h v' w' h2 h3
theorem ones (l : List Int) : ∀ u ∈ (l.map fun x => I x), u.oneCell' = true := fun u hu => by
  obtain ⟨x, _, rfl⟩ := List.mem_map.1 hu
  rfl
abbrev dP (D : Nat) : Value := .pointer (some ⟨D, 0, none⟩)
section
variable {w : World} {D n hi : Nat} {v : Value} {l : List Int}
end
end Go.Proofs.YtglnfifdjlgbcaaGreatDoor.Re

namespace Go.Proofs.YtglnfifdjlgbcaaGreatDoor.Re
open Go.RowKit
set_option linter.unusedVariables false
set_option linter.unusedSimpArgs false

/-! ### The document's ring: its calls -/
theorem own_sl {w : World} {b E n : Nat} {v : Value} {xs : List Value} (h : w.ownsRow b E 1 v n xs) : ∃ a cc, v = .slice a n cc := by
  rcases h.2 with ⟨h1, h0⟩ | ⟨g, cap, cur, h1, _⟩
  · exact ⟨none, 0, by rw [h0]; exact h1⟩
  · exact ⟨_, _, h1⟩
section
variable {w : World} {D n hi : Nat} {v : Value} {l : List Int}
end
end Go.Proofs.YtglnfifdjlgbcaaGreatDoor.Re

namespace Go.Proofs.YtglnfifdjlgbcaaGreatDoor.Re
open Go.RowKit
set_option linter.unusedVariables false
set_option linter.unusedSimpArgs false

/-! ### Rings of ints: Clear, Copy -/
theorem sets_row (g E : Nat) : ∀ (vs : List Value) (k : Nat) (w : World) (R : List Value), w.heap[g]? = some (.cells R.toArray E) → ∃ R' : List Value, (w.setCells g k vs).heap[g]? = some (.cells R'.toArray E) ∧ R'.length = R.length ∧ Fx [g] w (w.setCells g k vs)
  | [], k, w, R, h => ⟨R, h, rfl, Fx.refl _ _⟩
  | v :: vs, k, w, R, h => by
    have h2 : (w.setCell ⟨g, k, none⟩ v).heap[g]? = some (.cells (R.set k v).toArray E) := by
      rw [heap_setCell_same w g k _ _ v h]; simp
    obtain ⟨R', h3, h4, h5⟩ := sets_row g E vs (k + 1) (w.setCell ⟨g, k, none⟩ v) _ h2
    exact ⟨R', h3, by simpa using h4, ((Fx.refl [g] w).set (.inl (by simp)) k v).trans h5⟩
theorem clear_zero (w : World) (a : Option Addr) (c : Nat) (ty : TypeId) : (Builtin.clear_ #[31] ty #[.slice a 0 c]).run Tryz.prog w = .ok (.tuple #[]) w := by
  have ht := Tryz.underlying31
  cases a <;> simp [Builtin.clear_, run_underlying ht]
theorem clear_row {w : World} {g : Nat} {R : List Value} (hq : w.heap[g]? = some (.cells R.toArray 3)) (k m c : Nat) (h : k + m ≤ R.length) : ∃ (w' : World) (R' : List Value), (∀ ty, (Builtin.clear_ #[31] ty #[.slice (some ⟨g, k, none⟩) m c]).run Tryz.prog w = .ok (.tuple #[]) w') ∧ w'.heap[g]? = some (.cells R'.toArray 3) ∧ R'.length = R.length ∧ Fx [g] w w' := by
  rcases Nat.eq_zero_or_pos m with rfl | hm
  · exact ⟨w, R, fun ty => clear_zero w _ _ ty, hq, rfl, Fx.refl _ _⟩
  · obtain ⟨R', h1, h2, h3⟩ := sets_row g 3 (List.replicate m (Value.int .i64 0)) k w R hq
    exact ⟨_, R', fun ty => iclear_run (n := 0) hq k m c hm h ty, h1, h2, h3⟩
section
variable {w : World} {B g n f hi : Nat} {R l : List Value}
theorem Rg.fresh {w3 : World} {R' : List Value} (h : iRg w B g n f hi R l) (hf : Fx [g] w w3) (hg : w3.heap[g]? = some (.cells R'.toArray 3)) (hR : R'.length = R.length) : iQ ((w3.setCell ⟨B, 2, none⟩ (I 0)).setCell ⟨B, 3, none⟩ (I 0)) B g n hi [] ∧ Fx [B, g] w ((w3.setCell ⟨B, 2, none⟩ (I 0)).setCell ⟨B, 3, none⟩ (I 0)) := by
  have hNE := h.ne
  have hB := hf.heap h.o (by simpa using hNE)
  have h5 := heap_setCell_same _ B 3 _ _ (I 0) (heap_setCell_same w3 B 2 _ _ (I 0) hB)
  refine ⟨⟨0, R', ?_, ?_, by rw [hR]; exact h.k, h.m, Rw.new _, ⟨Nat.zero_le _, h.y.2⟩, hNE⟩, ((hf.mono (by simp)).set (b := B) (.inl (by simp)) _ _).set (b := B) (.inl (by simp)) _ _⟩
  · rw [h5]; simp
  · rw [heap_setCell_other _ ⟨B, 3, none⟩ g _ (fun e => hNE e.symm), heap_setCell_other _ ⟨B, 2, none⟩ g _ (fun e => hNE e.symm)]
    exact hg
set_option maxHeartbeats 4000000 in
set_option maxRecDepth 100000 in
theorem iClear_any (h : iRg w B g n f hi R l) : Calls Tryz.prog 183 #[iP B] w fun e w' => e = .returned (I l.length) ∧ iQ w' B g n hi [] ∧ Fx [B, g] w w' := by
  obtain ⟨-, c1, c2, c3, -⟩ := h.cells
  have hN := inone_any h
  have hm := h.m
  have hle := h.lle
  have hNE := h.ne
  by_cases hx : f + l.length ≤ n
  · have hp := (parts_one h hx).mono (R' := fun e w' => e = .returned (.tuple #[.slice (some ⟨g, f, none⟩) l.length (n - f), .slice none 0 0]) ∧ ∃ (w3 : World) (R' : List Value), (∀ ty, (Builtin.clear_ #[31] ty #[.slice (some ⟨g, f, none⟩) l.length (n - f)]).run Tryz.prog w' = .ok (.tuple #[]) w3) ∧ w3.heap[g]? = some (.cells R'.toArray 3) ∧ R'.length = R.length ∧ Fx [g] w w3 ∧ w3.cell? ⟨B, 2, none⟩ = some (I f) ∧ w3.cell? ⟨B, 3, none⟩ = some (I l.length) ∧ ∀ j, w3.frozen? ⟨B, j, none⟩ = false) (fun e w' ⟨k, b⟩ => by
      refine ⟨k, ?_⟩
      have h1 := h.below b
      obtain ⟨w3, R', r1, r2, r3, r4⟩ := clear_row h1.q f l.length (n - f) (by rw [h1.k]; exact hx)
      have hB := r4.heap h1.o (by simpa using hNE)
      exact ⟨w3, R', r1, r2, r3, (Fx.of_below b).trans r4, by rw [cell_of_row w3 B _ _ _ (0, 0) hB]; rfl, by rw [cell_of_row w3 B _ _ _ (0, 0) hB]; rfl, fun j => frozen_of_row w3 B j _ _ hB⟩)
    have hc0 := fun w ty => clear_zero w none 0 ty
    go_enter Tryz.func183, Tryz.ntmps183
    go_wp2_with (first
      | (go_at_call 238; refine hN.mono ?_; rintro e w1 ⟨rfl, rfl⟩)
      | (go_at_call 242; refine hp.mono ?_; rintro e w1 ⟨rfl, w3, R', r1, r2, r3, r4, r5, r6, r7⟩))
    go_ret
    exact ⟨rfl, h.fresh r4 r2 r3⟩
  · have hx2 : n < f + l.length := by omega
    have hf2 : f < n := by have := h.hf; omega
    have hp := (parts_two h hx2).mono (R' := fun e w' => e = .returned (.tuple #[.slice (some ⟨g, f, none⟩) (n - f) (n - f), .slice (some ⟨g, 0, none⟩) (f + l.length - n) n]) ∧ ∃ (w2 w3 : World) (R' : List Value), (∀ ty, (Builtin.clear_ #[31] ty #[.slice (some ⟨g, f, none⟩) (n - f) (n - f)]).run Tryz.prog w' = .ok (.tuple #[]) w2) ∧ (∀ ty, (Builtin.clear_ #[31] ty #[.slice (some ⟨g, 0, none⟩) (f + l.length - n) n]).run Tryz.prog w2 = .ok (.tuple #[]) w3) ∧ w3.heap[g]? = some (.cells R'.toArray 3) ∧ R'.length = R.length ∧ Fx [g] w w3 ∧ w3.cell? ⟨B, 2, none⟩ = some (I f) ∧ w3.cell? ⟨B, 3, none⟩ = some (I l.length) ∧ ∀ j, w3.frozen? ⟨B, j, none⟩ = false) (fun e w' ⟨k, b⟩ => by
      refine ⟨k, ?_⟩
      have h1 := h.below b
      obtain ⟨w2, R2, q1, q2, q3, q4⟩ := clear_row h1.q f (n - f) (n - f) (by rw [h1.k]; omega)
      obtain ⟨w3, R', r1, r2, r3, r4⟩ := clear_row q2 0 (f + l.length - n) n (by rw [q3, h1.k]; omega)
      have hB := (q4.trans r4).heap h1.o (by simpa using hNE)
      exact ⟨w2, w3, R', q1, r1, r2, r3.trans q3, (Fx.of_below b).trans (q4.trans r4), by rw [cell_of_row w3 B _ _ _ (0, 0) hB]; rfl, by rw [cell_of_row w3 B _ _ _ (0, 0) hB]; rfl, fun j => frozen_of_row w3 B j _ _ hB⟩)
    go_enter Tryz.func183, Tryz.ntmps183
    go_wp2_with (first
      | (go_at_call 238; refine hN.mono ?_; rintro e w1 ⟨rfl, rfl⟩)
      | (go_at_call 242; refine hp.mono ?_; rintro e w1 ⟨rfl, w2, w3, R', q1, r1, r2, r3, r4, r5, r6, r7⟩))
    go_ret
    exact ⟨rfl, h.fresh r4 r2 r3⟩
end
end Go.Proofs.YtglnfifdjlgbcaaGreatDoor.Re

