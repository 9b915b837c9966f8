import Derived.Test.YtphafnfmkhhamaaVe
import Derived.Deep.RegionLaw
namespace Go.Proofs.Ytphafnfmkhhamaa
open Go.RowKit
set_option linter.unusedVariables false
set_option linter.unusedSimpArgs false

/-! ### The cells of a table -/
def zeros : Nat → List Value
  | 0 => []
  | k + 1 => .bool false :: .bool false :: U 0 :: U 0 :: zeros k
def tabL (b : Bool) (n : Int) : List Value := .bool b :: I n :: zeros 256
theorem info46 : (Try.prog.info? 46).map (fun i => (i.zero, i.size)) = some (some (.agg (tabL false 0).toArray), 1026) := by kernel_rfl
theorem size46 : (Try.prog.info? 46).map (·.size) = some 1026 := by kernel_rfl
theorem built0 : Try.prog.built 46 [] = some (tabL false 0).toArray := by kernel_rfl
theorem built2 (n : Int) : Try.prog.built 46 [(0, .bool true), (1, I n)] = some (tabL true n).toArray := by kernel_rfl
theorem zeros_len (k : Nat) : (zeros k).length = k * 4 := by
  induction k with
  | zero => rfl
  | succ k ih => simp only [zeros, List.length_cons, ih]; omega
theorem zeros_at : ∀ (k i : Nat), i < k → (zeros k)[i * 4]? = some (.bool false) ∧ (zeros k)[i * 4 + 1]? = some (.bool false) ∧ (zeros k)[i * 4 + 2]? = some (U 0) ∧ (zeros k)[i * 4 + 3]? = some (U 0)
  | 0, _, h => by omega
  | k + 1, 0, _ => ⟨rfl, rfl, rfl, rfl⟩
  | k + 1, i + 1, h => by
    have := zeros_at k i (by omega)
    rw [show (i + 1) * 4 = i * 4 + 4 by omega]
    exact this
theorem zeros_one (k : Nat) : ∀ v ∈ zeros k, v.oneCell' = true := by
  induction k with
  | zero => intro v hv; simp [zeros] at hv
  | succ k ih =>
    intro v hv
    simp only [zeros, List.mem_cons] at hv
    rcases hv with rfl | rfl | rfl | rfl | hv
    · rfl
    · rfl
    · rfl
    · rfl
    · exact ih v hv
/-- the cells of a table -/
def tabA (b : Bool) (n : Int) : Array Value := (tabL b n).toArray
theorem tabA_size (b : Bool) (n : Int) : (tabA b n).size = 1026 := by
  simp only [tabA, List.size_toArray, tabL, List.length_cons, zeros_len]
theorem ev_new {w : World} {B n : Nat} (hn : n ≤ 256) (h : w.heap[B]? = some (.cells (tabA true n) 46)) : Ev w B n (fun _ => et0) := by
  have hc : ∀ j v, (tabL true n)[j]? = some v → w.cell? ⟨B, j, none⟩ = some v := fun j v hv => by
    rw [cell_of_row w B j _ _ _ h]
    simpa [tabA] using hv
  refine ⟨⟨_, h, tabA_size _ _⟩, hc 0 _ rfl, hc 1 _ rfl, hn, fun i hi => ?_, fun i _ => rfl⟩
  obtain ⟨a, b, c, d⟩ := zeros_at 256 i hi
  refine ⟨hc _ _ ?_, hc _ _ ?_, hc _ _ ?_, hc _ _ ?_⟩
  · rw [show 2 + i * 4 = (i * 4) + 1 + 1 by omega]; exact a
  · rw [show 2 + i * 4 + 1 = (i * 4 + 1) + 1 + 1 by omega]; exact b
  · rw [show 2 + i * 4 + 2 = (i * 4 + 2) + 1 + 1 by omega]; exact c
  · rw [show 2 + i * 4 + 3 = (i * 4 + 3) + 1 + 1 by omega]; exact d
theorem wpList_alloc_big {P : Program} {ops : Array Oper} {rest : List Oper} {o : Oper} {a : Act} {w : World} {Q : Exit → Act → World → Prop} (hgd : o.guard = none) (ty : TypeId) (ho : o.op = .alloc ty)
    (cs : Array Value) (hz : ∀ w, (zeroValue ty).run P w = .ok (.agg cs) w)
    (h : wpList P ops Q rest (a.put o.dst (.pointer (some ⟨w.heap.size, 0, none⟩))) (w.alloc (.cells cs ty))) : wpList P ops Q (o :: rest) a w := by
  refine wpList_plain hgd fun K hK => ?_
  unfold Oper.wp execOp
  simp [ho, Instr.alloc, hz, Value.cells, go_sem]
  exact hK _ _ h
theorem wpList_build_to {P : Program} {ops : Array Oper} {rest : List Oper} {o : Oper} {a : Act} {w : World} {Q : Exit → Act → World → Prop} (hg : o.guard = none) (t : TypeId) (parts : Array (Nat × Operand)) (ho : o.op = .build t parts)
    (vals : List (Nat × Value)) (hv : (parts.map fun (i, x) => (i, a.eval x)).toList = vals) (cells : Array Value) (hb : P.built t vals = some cells)
    (h : wpList P ops Q rest (a.put o.dst (.agg cells)) w) : wpList P ops Q (o :: rest) a w := by
  subst hv
  exact wpList_build hg t parts ho (by rw [hb]; rfl) (by rw [hb]; exact h)
section
variable {w : World} {B n : Nat} {f : Nat → Et}
theorem Ev.one (h : Ev w B n f) {cs : Array Value} (hc : w.heap[B]? = some (.cells cs 46)) (hs : cs.size = 1026) : cs.all (·.oneCell') = true := by
  rw [Array.all_eq_true]
  intro j hj
  have hv : w.cell? ⟨B, j, none⟩ = some cs[j] := by rw [cell_of_row w B j _ _ _ hc]; simp [hj]
  rcases Nat.lt_or_ge j 2 with h2 | h2
  · rcases (by omega : j = 0 ∨ j = 1) with rfl | rfl
    · rw [h.c0] at hv; rw [← Option.some.inj hv]; rfl
    · rw [h.c1] at hv; rw [← Option.some.inj hv]; rfl
  · obtain ⟨a, b, c, d⟩ := h.e ((j - 2) / 4) (by omega)
    rcases (by omega : j = 2 + (j - 2) / 4 * 4 ∨ j = 2 + (j - 2) / 4 * 4 + 1 ∨ j = 2 + (j - 2) / 4 * 4 + 2 ∨ j = 2 + (j - 2) / 4 * 4 + 3) with e | e | e | e
    · rw [← e, hv] at a; rw [Option.some.inj a]; rfl
    · rw [← e, hv] at b; rw [Option.some.inj b]; rfl
    · rw [← e, hv] at c; rw [Option.some.inj c]; rfl
    · rw [← e, hv] at d; rw [Option.some.inj d]; rfl
theorem Ev.copy (h : Ev w B n f) {cs : Array Value} (hc : w.heap[B]? = some (.cells cs 46)) (hs : cs.size = 1026) {w' : World} {C : Nat} (hc' : w'.heap[C]? = some (.cells cs 46)) : Ev w' C n f := by
  have hv : ∀ {j : Nat} {u : Value}, w.cell? ⟨B, j, none⟩ = some u → w'.cell? ⟨C, j, none⟩ = some u := fun {j u} e => by
    rw [cell_of_row w B j _ _ _ hc] at e
    rw [cell_of_row w' C j _ _ _ hc']
    exact e
  refine ⟨⟨cs, hc', hs⟩, hv h.c0, hv h.c1, h.m, fun i hi => ?_, h.z⟩
  obtain ⟨a, b, c, d⟩ := h.e i hi
  exact ⟨hv a, hv b, hv c, hv d⟩
set_option maxRecDepth 100000 in
theorem Copy_ok (h : Ev w B n f) : Calls Try.prog 24 #[eP B] w fun e w' => e = .returned (eP w.heap.size) ∧ Ev w' w.heap.size n f ∧ Below w.heap.size w w' := by
  obtain ⟨cs, hc, hs⟩ := h.o
  have hN := none_any h
  have hi : Hid ((Try.prog.info? 46).map (·.size) = some cs.size) := by show _ = _; rw [hs]; exact size46
  have hz : Hid (∀ w, (zeroValue 46).run Try.prog w = .ok (.agg (tabA false 0)) w) := (zero_of_info info46).1
  have h0 : Hid ((tabA false 0).size = cs.size) := by show _ = _; rw [hs]; exact tabA_size _ _
  have hE : Hid (Ev w B n f) := h
  have h1 : Hid (cs.all (·.oneCell') = true) := h.one hc hs
  go_enter Try.func24, Try.ntmps24
  go_wp2_with (first
    | (go_at_call 29; refine hN.mono ?_; rintro e w1 ⟨rfl, rfl⟩)
    | (refine wpList_load_row rfl 46 _ rfl B rfl 46 cs (0, 0) _ hc Try.underlying46 rfl hi.out ?_)
    | (refine wpList_alloc_big rfl 46 rfl (tabA false 0) hz.out ?_)
    | (refine wpList_store_row rfl 46 _ _ rfl w.heap.size cs rfl rfl 46 (tabA false 0) (heap_alloc_new w _) hi.out h0.out h1.out ?_; rw [World.setRow_alloc_new]))
  go_ret
  exact ⟨rfl, hE.out.copy hc hs (heap_alloc_new w _), below_alloc _ _⟩
end
end Go.Proofs.Ytphafnfmkhhamaa
