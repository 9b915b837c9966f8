import Derived.Test.YtglnfifdjlgbcaaGreatDoorXVe
import Derived.Deep.RegionLaw
namespace Go.Proofs.YtglnfifdjlgbcaaGreatDoor.Ev
open Go.RowKit
set_option linter.unusedVariables false
set_option linter.unusedSimpArgs false

/-! ### The cells of a table -/
def zeros : Nat → List Value
  | 0 => []
  | k + 1 => .bool false :: .bool false :: U 0 :: U 0 :: zeros k
def tabL (b : Bool) (n : Int) : List Value := .bool b :: I n :: zeros 256
theorem info46 : (Tryz.prog.info? 192).map (fun i => (i.zero, i.size)) = some (some (.agg (tabL false 0).toArray), 1026) := by kernel_rfl
theorem size46 : (Tryz.prog.info? 192).map (·.size) = some 1026 := by kernel_rfl
theorem built0 : Tryz.prog.built 192 [] = some (tabL false 0).toArray := by kernel_rfl
theorem built2 (n : Int) : Tryz.prog.built 192 [(0, .bool true), (1, I n)] = some (tabL true n).toArray := by kernel_rfl
theorem zeros_len (k : Nat) : (zeros k).length = k * 4 := by
  induction k with
  | zero => rfl
  | succ k ih => simp only [zeros, List.length_cons, ih]; omega
theorem zeros_at : ∀ (k i : Nat), i < k → (zeros k)[i * 4]? = some (.bool false) ∧ (zeros k)[i * 4 + 1]? = some (.bool false) ∧ (zeros k)[i * 4 + 2]? = some (U 0) ∧ (zeros k)[i * 4 + 3]? = some (U 0)
  | 0, _, h => by omega
  | k + 1, 0, _ => ⟨rfl, rfl, rfl, rfl⟩
  | k + 1, i + 1, h => by
    have := zeros_at k i (by omega)
    rw [show (i + 1) * 4 = i * 4 + 4 by omega]
    exact this
theorem zeros_one (k : Nat) : ∀ v ∈ zeros k, v.oneCell' = true := by
  induction k with
  | zero => intro v hv; simp [zeros] at hv
  | succ k ih =>
    intro v hv
    simp only [zeros, List.mem_cons] at hv
    rcases hv with rfl | rfl | rfl | rfl | hv
    · rfl
    · rfl
    · rfl
    · rfl
    · exact ih v hv
/-- the cells of a table -/
def tabA (b : Bool) (n : Int) : Array Value := (tabL b n).toArray
theorem tabA_size (b : Bool) (n : Int) : (tabA b n).size = 1026 := by
  simp only [tabA, List.size_toArray, tabL, List.length_cons, zeros_len]
theorem ev_new {w : World} {B n : Nat} (hn : n ≤ 256) (h : w.heap[B]? = some (.cells (tabA true n) 192)) : Ev w B n (fun _ => et0) := by
  have hc : ∀ j v, (tabL true n)[j]? = some v → w.cell? ⟨B, j, none⟩ = some v := fun j v hv => by
    rw [cell_of_row w B j _ _ _ h]
    simpa [tabA] using hv
  refine ⟨⟨_, h, tabA_size _ _⟩, hc 0 _ rfl, hc 1 _ rfl, hn, fun i hi => ?_, fun i _ => rfl⟩
  obtain ⟨a, b, c, d⟩ := zeros_at 256 i hi
  refine ⟨hc _ _ ?_, hc _ _ ?_, hc _ _ ?_, hc _ _ ?_⟩
  · rw [show 2 + i * 4 = (i * 4) + 1 + 1 by omega]; exact a
  · rw [show 2 + i * 4 + 1 = (i * 4 + 1) + 1 + 1 by omega]; exact b
  · rw [show 2 + i * 4 + 2 = (i * 4 + 2) + 1 + 1 by omega]; exact c
  · rw [show 2 + i * 4 + 3 = (i * 4 + 3) + 1 + 1 by omega]; exact d
theorem wpList_alloc_big {P : Program} {ops : Array Oper} {rest : List Oper} {o : Oper} {a : Act} {w : World} {Q : Exit → Act → World → Prop} (hgd : o.guard = none) (ty : TypeId) (ho : o.op = .alloc ty)
    (cs : Array Value) (hz : ∀ w, (zeroValue ty).run P w = .ok (.agg cs) w)
    (h : wpList P ops Q rest (a.put o.dst (.pointer (some ⟨w.heap.size, 0, none⟩))) (w.alloc (.cells cs ty))) : wpList P ops Q (o :: rest) a w := by
  refine wpList_plain hgd fun K hK => ?_
  unfold Oper.wp execOp
  simp [ho, Instr.alloc, hz, Value.cells, go_sem]
  exact hK _ _ h
theorem wpList_build_to {P : Program} {ops : Array Oper} {rest : List Oper} {o : Oper} {a : Act} {w : World} {Q : Exit → Act → World → Prop} (hg : o.guard = none) (t : TypeId) (parts : Array (Nat × Operand)) (ho : o.op = .build t parts)
    (vals : List (Nat × Value)) (hv : (parts.map fun (i, x) => (i, a.eval x)).toList = vals) (cells : Array Value) (hb : P.built t vals = some cells)
    (h : wpList P ops Q rest (a.put o.dst (.agg cells)) w) : wpList P ops Q (o :: rest) a w := by
  subst hv
  exact wpList_build hg t parts ho (by rw [hb]; rfl) (by rw [hb]; exact h)
section
variable {w : World} {B n : Nat} {f : Nat → Et}
theorem Ev.one (h : Ev w B n f) {cs : Array Value} (hc : w.heap[B]? = some (.cells cs 192)) (hs : cs.size = 1026) : cs.all (·.oneCell') = true := by
  rw [Array.all_eq_true]
  intro j hj
  have hv : w.cell? ⟨B, j, none⟩ = some cs[j] := by rw [cell_of_row w B j _ _ _ hc]; simp [hj]
  rcases Nat.lt_or_ge j 2 with h2 | h2
  · rcases (by omega : j = 0 ∨ j = 1) with rfl | rfl
    · rw [h.c0] at hv; rw [← Option.some.inj hv]; rfl
    · rw [h.c1] at hv; rw [← Option.some.inj hv]; rfl
  · obtain ⟨a, b, c, d⟩ := h.e ((j - 2) / 4) (by omega)
    rcases (by omega : j = 2 + (j - 2) / 4 * 4 ∨ j = 2 + (j - 2) / 4 * 4 + 1 ∨ j = 2 + (j - 2) / 4 * 4 + 2 ∨ j = 2 + (j - 2) / 4 * 4 + 3) with e | e | e | e
    · rw [← e, hv] at a; rw [Option.some.inj a]; rfl
    · rw [← e, hv] at b; rw [Option.some.inj b]; rfl
    · rw [← e, hv] at c; rw [Option.some.inj c]; rfl
    · rw [← e, hv] at d; rw [Option.some.inj d]; rfl
theorem Ev.copy (h : Ev w B n f) {cs : Array Value} (hc : w.heap[B]? = some (.cells cs 192)) (hs : cs.size = 1026) {w' : World} {C : Nat} (hc' : w'.heap[C]? = some (.cells cs 192)) : Ev w' C n f := by
  have hv : ∀ {j : Nat} {u : Value}, w.cell? ⟨B, j, none⟩ = some u → w'.cell? ⟨C, j, none⟩ = some u := fun {j u} e => by
    rw [cell_of_row w B j _ _ _ hc] at e
    rw [cell_of_row w' C j _ _ _ hc']
    exact e
  refine ⟨⟨cs, hc', hs⟩, hv h.c0, hv h.c1, h.m, fun i hi => ?_, h.z⟩
  obtain ⟨a, b, c, d⟩ := h.e i hi
  exact ⟨hv a, hv b, hv c, hv d⟩
set_option maxRecDepth 100000 in
theorem Copy_ok (h : Ev w B n f) : Calls Tryz.prog 83 #[eP B] w fun e w' => e = .returned (eP w.heap.size) ∧ Ev w' w.heap.size n f ∧ Below w.heap.size w w' := by
  obtain ⟨cs, hc, hs⟩ := h.o
  have hN := none_any h
  have hi : Hid ((Tryz.prog.info? 192).map (·.size) = some cs.size) := by show _ = _; rw [hs]; exact size46
  have hz : Hid (∀ w, (zeroValue 192).run Tryz.prog w = .ok (.agg (tabA false 0)) w) := (zero_of_info info46).1
  have h0 : Hid ((tabA false 0).size = cs.size) := by show _ = _; rw [hs]; exact tabA_size _ _
  have hE : Hid (Ev w B n f) := h
  have h1 : Hid (cs.all (·.oneCell') = true) := h.one hc hs
  go_enter Tryz.func83, Tryz.ntmps83
  go_wp2_with (first
    | (go_at_call 182; refine hN.mono ?_; rintro e w1 ⟨rfl, rfl⟩)
    | (refine wpList_load_row rfl 192 _ rfl B rfl 192 cs (0, 0) _ hc Tryz.underlying192 rfl hi.out ?_)
    | (refine wpList_alloc_big rfl 192 rfl (tabA false 0) hz.out ?_)
    | (refine wpList_store_row rfl 192 _ _ rfl w.heap.size cs rfl rfl 192 (tabA false 0) (heap_alloc_new w _) hi.out h0.out h1.out ?_; rw [World.setRow_alloc_new]))
  go_ret
  exact ⟨rfl, hE.out.copy hc hs (heap_alloc_new w _), below_alloc _ _⟩
end
end Go.Proofs.YtglnfifdjlgbcaaGreatDoor.Ev

namespace Go.Proofs.YtglnfifdjlgbcaaGreatDoor.Ev
open Go.RowKit
set_option linter.unusedVariables false
set_option linter.unusedSimpArgs false

section
variable {w : World} {B n : Nat} {f : Nat → Et}
set_option maxRecDepth 100000 in
theorem New_big (w : World) (a : Option Addr) (n c : Nat) (hn : 256 < n) : Calls Tryz.prog 32 #[.slice a n c] w fun e w' => e = .returned (.tuple #[.pointer none, I 150]) ∧ w = w' := by
  have h1 : (256 : Int) < n := by omega
  go_enter Tryz.func32, Tryz.ntmps32
  go_wp2
  go_ret2
  exact ⟨rfl, rfl⟩
/-- the tasks that masks make -/
def tsk (l : List Int) (i : Nat) : Et := if l.getD i 0 ≠ 0 then et1 else et0
def tskTo (l : List Int) (k : Nat) (i : Nat) : Et := if i < k then tsk l i else et0
theorem tskTo_zero (l : List Int) : tskTo l 0 = fun _ => et0 := by funext i; simp [tskTo]
theorem tskTo_all (l : List Int) : tskTo l l.length = tsk l := by
  funext i
  unfold tskTo
  split
  · rfl
  · unfold tsk
    rw [List.getD_eq_getElem?_getD, List.getElem?_eq_none (by omega)]
    rfl
theorem tskTo_skip {l : List Int} {k : Nat} (h : l[k]? = some 0) : tskTo l (k + 1) = tskTo l k := by
  funext i
  unfold tskTo
  by_cases e : i < k
  · rw [if_pos e, if_pos (by omega)]
  · rw [if_neg e]
    split
    · obtain rfl : i = k := by omega
      unfold tsk
      rw [List.getD_eq_getElem?_getD, h]
      rfl
    · rfl
theorem tskTo_put {l : List Int} {k : Nat} {v : Int} (h : l[k]? = some v) (hv : v ≠ 0) : tskTo l (k + 1) = upf (tskTo l k) k et1 := by
  funext i
  show (if i < k + 1 then tsk l i else et0) = if i = k then et1 else if i < k then tsk l i else et0
  by_cases e : i = k
  · subst e
    rw [if_pos (by omega), if_pos rfl]
    unfold tsk
    rw [List.getD_eq_getElem?_getD, h]
    simp [hv]
  · rw [if_neg e]
    by_cases e2 : i < k
    · rw [if_pos e2, if_pos (by omega)]
    · rw [if_neg e2, if_neg (by omega)]
theorem tab_set (n : Int) : ((tabA false 0).setIfInBounds 0 (.bool true)).setIfInBounds 1 (I n) = tabA true n := by
  unfold tabA tabL
  simp only [List.setIfInBounds_toArray, List.set_cons_zero, List.set_cons_succ]
set_option maxRecDepth 100000 in
theorem New_ok (w : World) (a : Option Addr) (c : Nat) (l : List Int) (hl : l.length ≤ 256) (hc : ∀ j v, l[j]? = some v → ∃ g off, a = some ⟨g, off, none⟩ ∧ g < w.heap.size ∧ w.cell? ⟨g, off + j, none⟩ = some (U v)) :
    Calls Tryz.prog 32 #[.slice a l.length c] w fun e w' => e = .returned (.tuple #[eP w.heap.size, I 0]) ∧ Ev w' w.heap.size l.length (tsk l) ∧ Below w.heap.size w w' := by
  have h1 : ¬ ((256 : Int) < l.length) := by omega
  have hb0 := below_alloc w (.cells (tabA true l.length) 192)
  have E0 := ev_new hl (heap_alloc_new w (.cells (tabA true l.length) 192))
  rw [← tab_set] at hb0 E0
  have HI : Hid (Ev (w.alloc (.cells (((tabA false 0).setIfInBounds 0 (.bool true)).setIfInBounds 1 (I l.length)) 192)) w.heap.size l.length (tskTo l 0) ∧ Below w.heap.size w (w.alloc (.cells (((tabA false 0).setIfInBounds 0 (.bool true)).setIfInBounds 1 (I l.length)) 192))) := ⟨by rw [tskTo_zero]; exact E0, hb0⟩
  clear E0 hb0
  have hz : ∀ w, (zeroValue 192).run Tryz.prog w = .ok (.agg (tabA false 0)) w := (zero_of_info info46).1
  have hsz : (tabA false 0).size = 1026 := tabA_size _ _
  go_enter Tryz.func32, Tryz.ntmps32
  go_upto_region 4 with (first | fail)
  generalize (w.alloc (.cells (((tabA false 0).setIfInBounds 0 (.bool true)).setIfInBounds 1 (I l.length)) 192)) = w1 at *
  clear hz hsz
  generalize ((tabA false 0).setIfInBounds 0 (.bool true)).setIfInBounds 1 (I l.length) = gg at *
  go_wp2
  go_loopw [16] (fun i wr => ∃ k : Nat, k ≤ l.length ∧ i = I k ∧ Hid (Ev wr w.heap.size l.length (tskTo l k) ∧ Below w.heap.size w wr)) (fun i _ => l.length - (intOf i).toNat)
  case atStart => exact ⟨0, by omega, rfl, HI.out⟩
  case round =>
    clear HI
    obtain ⟨k, hk, rfl, HJ⟩ := hrel
    by_cases hlt : k < l.length
    · have hltI : (k : Int) < l.length := by omega
      obtain ⟨v, hv⟩ : ∃ v, l[k]? = some v := ⟨_, List.getElem?_eq_getElem hlt⟩
      obtain ⟨g, off, rfl, hg, hcell⟩ := hc k v hv
      have hcell2 : wr.cell? ⟨g, off + k, none⟩ = some (U v) := (HJ.out.2.cell (p := ⟨g, off + k, none⟩) hg).trans hcell
      by_cases h0 : v = 0
      · subst h0
        go_wp2
        go_roundw
        case rel => exact ⟨k + 1, by omega, by go_num, by rw [tskTo_skip hv]; exact HJ.out⟩
        case measure => simp [intOf]; omega
      · have h256 : k < 256 := by omega
        have hkI : (k : Int) < 256 := by omega
        have HJ2 : Hid (Ev wr.drew w.heap.size l.length (tskTo l k) ∧ Below w.heap.size w wr.drew) := ⟨HJ.out.1.below (Below.refl _ _).drew, HJ.out.2.drew⟩
        clear HJ
        go_wp2
        go_region_held_law (fun _ => True) (first | trivial) (first | (go_at_call 108; refine (fresh_bel _).mono ?_; rintro e w2 ⟨rfl, hb⟩; have E2 := HJ2.out.1.below hb; have B2 : Below w.heap.size w w2 := HJ2.out.2.trans (hb.mono HJ2.out.2.size); clear hb HJ2; obtain ⟨fz, a0, a1, a2, a3⟩ := E2.ask4 h256))
        all_goals
          have H9 : Hid (Ev (fr4 w2 w.heap.size k) w.heap.size l.length (tskTo l (k + 1)) ∧ Below w.heap.size w (fr4 w2 w.heap.size k)) := ⟨by rw [tskTo_put hv h0]; exact E2.fr4 h256, B2.trans ((fx_fr4 w2 w.heap.size k).below B2.size (by simp))⟩
          go_wp2
          go_roundw
          case rel => exact ⟨k + 1, by omega, by go_num, H9.out⟩
          case measure => simp [intOf]; omega
    · obtain rfl : k = l.length := by omega
      have hge : ¬ ((l.length : Int) < l.length) := by omega
      go_wp2
      go_ret2
      exact ⟨rfl, by rw [← tskTo_all]; exact HJ.out.1, HJ.out.2⟩
end
end Go.Proofs.YtglnfifdjlgbcaaGreatDoor.Ev

namespace Go.Proofs.YtglnfifdjlgbcaaGreatDoor.Ev
open Go.RowKit
set_option linter.unusedVariables false
set_option linter.unusedSimpArgs false

/-! ### Reset -/
def rstTo (f : Nat → Et) (k : Nat) (i : Nat) : Et := if i < k ∧ (f i).x = true then et1 else f i
theorem rstTo_zero (f : Nat → Et) : rstTo f 0 = f := by funext i; simp [rstTo]
theorem rstTo_x (f : Nat → Et) (k i : Nat) : (rstTo f k i).x = (f i).x := by
  unfold rstTo
  split
  · rename_i h; rw [h.2]; rfl
  · rfl
theorem rstTo_skip {f : Nat → Et} {k : Nat} (h : (f k).x = false) : rstTo f (k + 1) = rstTo f k := by
  funext i
  unfold rstTo
  by_cases e : i = k
  · subst e; simp [h]
  · by_cases e2 : i < k
    · simp [e2, show i < k + 1 by omega]
    · simp [e2, show ¬ i < k + 1 by omega]
theorem rstTo_put {f : Nat → Et} {k : Nat} (h : (f k).x = true) : rstTo f (k + 1) = upf (rstTo f k) k et1 := by
  funext i
  show _ = if i = k then et1 else rstTo f k i
  unfold rstTo
  by_cases e : i = k
  · subst e; simp [h]
  · rw [if_neg e]
    by_cases e2 : i < k
    · simp [e2, show i < k + 1 by omega]
    · simp [e2, show ¬ i < k + 1 by omega]
section
variable {w : World} {B n : Nat} {f : Nat → Et}
theorem Fresh_any (h : Ev w B n f) (k : Nat) (hk : k < n) : Calls Tryz.prog 40 #[eP B, I k] w fun e w' => e = .returned (I (stE n f k)) ∧ Ev w' B n (if (f k).x then upf f k et1 else f) ∧ Fx [B] w w' := by
  cases hx : (f k).x with
  | true =>
    rw [show stE n f k = 0 by unfold stE; rw [if_neg (by omega)]; simp [hx]]
    exact Fresh_ok h k hk hx
  | false =>
    have h1 : stE n f k = 1 := by unfold stE; rw [if_neg (by omega)]; simp [hx]
    refine (Fresh_no h k (by rw [h1]; decide)).mono ?_
    rintro e w1 ⟨rfl, rfl⟩
    exact ⟨rfl, by simpa using h, Fx.refl _ _⟩
set_option maxRecDepth 100000 in
theorem Reset_ok (h : Ev w B n f) : Calls Tryz.prog 91 #[eP B] w fun e w' => e = .returned (I 0) ∧ Ev w' B n (rstTo f n) ∧ Fx [B] w w' := by
  have hN := none_any h
  have c1 := h.c1
  have hm := h.m
  have HI : Hid (Ev w B n (rstTo f 0) ∧ Fx [B] w w) := ⟨by rw [rstTo_zero]; exact h, Fx.refl _ _⟩
  clear h
  go_enter Tryz.func91, Tryz.ntmps91
  go_wp2_with (first | (go_at_call 182; refine hN.mono ?_; rintro e w1 ⟨rfl, rfl⟩))
  clear hN c1
  go_loopw [10] (fun i wr => ∃ k : Nat, k ≤ n ∧ i = I k ∧ Hid (Ev wr B n (rstTo f k) ∧ Fx [B] w wr)) (fun i _ => n - (intOf i).toNat)
  case atStart => exact ⟨0, by omega, rfl, HI.out⟩
  case round =>
    clear HI
    obtain ⟨k, hk, rfl, HJ⟩ := hrel
    by_cases hlt : k < n
    · have hltI : (k : Int) < n := by omega
      have hF := Fresh_any HJ.out.1 k hlt
      rw [rstTo_x] at hF
      have F0 : Hid (Fx [B] w wr) := HJ.out.2
      clear HJ
      go_wp2_with (first | (go_at_call 40; refine hF.mono ?_; clear hF; rintro e w2 ⟨rfl, hE2, f2⟩; have H9 : Hid (Ev w2 B n (rstTo f (k + 1)) ∧ Fx [B] w w2) := ⟨by (cases hx : (f k).x with | true => rw [rstTo_put hx]; simpa [hx] using hE2 | false => rw [rstTo_skip hx]; simpa [hx] using hE2), F0.out.trans f2⟩; clear hE2 f2 F0))
      go_roundw
      case rel => exact ⟨k + 1, by omega, by go_num, H9.out⟩
      case measure => simp [intOf]; omega
    · obtain rfl : k = n := by omega
      have hge : ¬ ((k : Int) < k) := by omega
      go_wp2
      go_ret
      exact ⟨rfl, HJ.out.1, HJ.out.2⟩
end
end Go.Proofs.YtglnfifdjlgbcaaGreatDoor.Ev

namespace Go.Proofs.YtglnfifdjlgbcaaGreatDoor.Ev
open Go.RowKit
set_option linter.unusedVariables false
set_option linter.unusedSimpArgs false

/-! ### Every call, of every task -/
def setB (n : Nat) (f : Nat → Et) (t m : Int) : Bool := if stE n f t = 0 then dueE (f t.toNat) m else false
def setF (n : Nat) (f : Nat → Et) (t m : Int) : Nat → Et := if stE n f t = 0 then upf f t.toNat (setE (f t.toNat) m) else f
def clrF (n : Nat) (f : Nat → Et) (t m : Int) : Nat → Et := if stE n f t = 0 then upf f t.toNat ⟨(f t.toNat).x, (f t.toNat).s, anU (f t.toNat).on m, (f t.toNat).wa⟩ else f
def getI (n : Nat) (f : Nat → Et) (t : Int) : Int := if stE n f t = 0 then (f t.toNat).on else 0
def wtsI (n : Nat) (f : Nat → Et) (t : Int) : Int := if stE n f t = 0 then (f t.toNat).wa else 0
def waiB (n : Nat) (f : Nat → Et) (t m : Int) : Bool := if stE n f t = 0 then waitB (f t.toNat) m else false
def waiI (n : Nat) (f : Nat → Et) (t : Int) : Int := if stE n f t = 0 then waitI (f t.toNat) else stE n f t
def waiF (n : Nat) (f : Nat → Et) (t m : Int) : Nat → Et := if stE n f t = 0 then upf f t.toNat (waitE (f t.toNat) m) else f
def freF (n : Nat) (f : Nat → Et) (t : Int) : Nat → Et := if stE n f t = 0 then upf f t.toNat et1 else f
section
variable {w : World} {B n : Nat} {f : Nat → Et}
theorem Set_any (h : Ev w B n f) (t m : Int) : Calls Tryz.prog 112 #[eP B, I t, U m] w fun e w' => e = .returned (.tuple #[.bool (setB n f t m), I (stE n f t)]) ∧ Ev w' B n (setF n f t m) ∧ Fx [B] w w' := by
  by_cases hs : stE n f t = 0
  · obtain ⟨k, rfl, hk, hx⟩ := stE_zero hs
    simp only [setB, setF, hs, if_true, Int.toNat_natCast]
    exact Set_ok h k hk hx m
  · simp only [setB, setF, hs, if_false]
    refine (Set_no h t m hs).mono ?_
    rintro e w1 ⟨rfl, rfl⟩
    exact ⟨rfl, h, Fx.refl _ _⟩
theorem Clear_any (h : Ev w B n f) (t m : Int) : Calls Tryz.prog 236 #[eP B, I t, U m] w fun e w' => e = .returned (I (stE n f t)) ∧ Ev w' B n (clrF n f t m) ∧ Fx [B] w w' := by
  by_cases hs : stE n f t = 0
  · obtain ⟨k, rfl, hk, hx⟩ := stE_zero hs
    simp only [clrF, hs, if_true, Int.toNat_natCast]
    exact Clear_ok h k hk hx m
  · simp only [clrF, hs, if_false]
    refine (Clear_no h t m hs).mono ?_
    rintro e w1 ⟨rfl, rfl⟩
    exact ⟨rfl, h, Fx.refl _ _⟩
theorem Get_any (h : Ev w B n f) (t : Int) : Calls Tryz.prog 109 #[eP B, I t] w fun e w' => e = .returned (.tuple #[U (getI n f t), I (stE n f t)]) ∧ w = w' := by
  by_cases hs : stE n f t = 0
  · obtain ⟨k, rfl, hk, hx⟩ := stE_zero hs
    simp only [getI, hs, if_true, Int.toNat_natCast]
    exact Get_ok h k hk hx
  · simp only [getI, hs, if_false]
    exact Get_no h t hs
theorem Waits_any (h : Ev w B n f) (t : Int) : Calls Tryz.prog 237 #[eP B, I t] w fun e w' => e = .returned (U (wtsI n f t)) ∧ w = w' := by
  by_cases hs : stE n f t = 0
  · obtain ⟨k, rfl, hk, hx⟩ := stE_zero hs
    simp only [wtsI, hs, if_true, Int.toNat_natCast]
    exact Waits_ok h k hk hx
  · simp only [wtsI, hs, if_false]
    exact Waits_no h t hs
theorem Wait_any (h : Ev w B n f) (t m : Int) : Calls Tryz.prog 224 #[eP B, I t, U m] w fun e w' => e = .returned (.tuple #[.bool (waiB n f t m), I (waiI n f t)]) ∧ Ev w' B n (waiF n f t m) ∧ Fx [B] w w' := by
  by_cases hs : stE n f t = 0
  · obtain ⟨k, rfl, hk, hx⟩ := stE_zero hs
    simp only [waiB, waiI, waiF, hs, if_true, Int.toNat_natCast]
    exact Wait_ok h k hk hx m
  · simp only [waiB, waiI, waiF, hs, if_false]
    refine (Wait_no h t m hs).mono ?_
    rintro e w1 ⟨rfl, rfl⟩
    exact ⟨rfl, h, Fx.refl _ _⟩
theorem Fre_any (h : Ev w B n f) (t : Int) : Calls Tryz.prog 40 #[eP B, I t] w fun e w' => e = .returned (I (stE n f t)) ∧ Ev w' B n (freF n f t) ∧ Fx [B] w w' := by
  by_cases hs : stE n f t = 0
  · obtain ⟨k, rfl, hk, hx⟩ := stE_zero hs
    simp only [freF, hs, if_true, Int.toNat_natCast]
    exact Fresh_ok h k hk hx
  · simp only [freF, hs, if_false]
    refine (Fresh_no h t hs).mono ?_
    rintro e w1 ⟨rfl, rfl⟩
    exact ⟨rfl, h, Fx.refl _ _⟩
end
/-! ### heads -/
theorem two_cells (w : World) (a b : Int) (j : Nat) (v : Int) (h : [a, b][j]? = some v) : ∃ g off, (some ⟨w.heap.size, 0, none⟩ : Option Addr) = some ⟨g, off, none⟩ ∧ g < (w.alloc (.cells #[U a, U b] 40)).heap.size ∧ (w.alloc (.cells #[U a, U b] 40)).cell? ⟨g, off + j, none⟩ = some (U v) := by
  refine ⟨w.heap.size, 0, rfl, by simp, ?_⟩
  rw [cell_of_row _ _ _ _ _ (0, 0) (heap_alloc_new w _)]
  match j, h with
  | 0, h => cases h; rfl
  | 1, h => cases h; rfl
theorem New_two (w : World) (a b : Int) : Calls Tryz.prog 32 #[.slice (some ⟨w.heap.size, 0, none⟩) 2 2] (w.alloc (.cells #[U a, U b] 40)) fun e w' => e = .returned (.tuple #[eP (w.heap.size + 1), I 0]) ∧ Ev w' (w.heap.size + 1) 2 (tsk [a, b]) ∧ Below w.heap.size w w' := by
  refine (New_ok (w.alloc (.cells #[U a, U b] 40)) _ 2 [a, b] (by simp) (two_cells w a b)).mono ?_
  rintro e w' ⟨rfl, hE, hb⟩
  have hs : (w.alloc (.cells #[U a, U b] 40)).heap.size = w.heap.size + 1 := by simp
  rw [hs] at hE ⊢
  exact ⟨rfl, hE, (below_alloc w _).trans (hb.mono (by rw [hs]; omega))⟩
theorem hd1 : dueE (tsk [3, 0] 0) 1 = false := by kernel_rfl
theorem hd2 : setE (tsk [3, 0] 0) 1 = ⟨true, false, 1, 0⟩ := by kernel_rfl
theorem hd3 : dueE ⟨true, true, 1, 2⟩ 2 = true := by kernel_rfl
theorem hd4 : setE ⟨true, true, 1, 2⟩ 2 = ⟨true, false, 3, 0⟩ := by kernel_rfl
theorem hd5 : stE 2 (upf (tsk [3, 0]) 0 ⟨true, false, 3, 0⟩) 1 = 1 := by kernel_rfl
theorem hd6 : andU 1 2 = 0 := by kernel_rfl
end Go.Proofs.YtglnfifdjlgbcaaGreatDoor.Ev

