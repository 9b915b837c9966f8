import Derived.Test.YtapfbinaocaclaaEev
namespace Go.Proofs.Ytapfbinaocaclaa
open Go.RowKit Go.Maps
set_option linter.unusedVariables false
set_option linter.unusedSimpArgs false

/-! ### The example -/
def oneC (z : Int) : Cf := { cpu := [], osn := [], o1 := false, o2 := false, o3 := false, o4 := false, o5 := false, o6 := false, o7 := false, o8 := false, modes := [], tasks := [⟨[], 1, true, 0, [], [z], [], []⟩, ⟨[], 3, true, 0, [], [1], [], []⟩, ⟨[], 2, false, 0, [], [2], [], []⟩], ress := [⟨[], 1, 0⟩, ⟨[], 2, 0⟩, ⟨[], 3, 0⟩], evs := [], ctrs := [], als := [], isrs := [⟨[], 0, 70, [0], []⟩], msgs := [] }
def oneV (b : Nat) : Vs := ⟨nilS, ⟨some ⟨b + 4, 0, none⟩, 3, 3⟩, ⟨some ⟨b + 5, 0, none⟩, 3, 3⟩, nilS, nilS, nilS, ⟨some ⟨b + 7, 0, none⟩, 1, 1⟩, nilS⟩
def oneT (g0 b : Nat) : Array Value := #[S [], I 1, .bool true, I 0, .slice none 0 0, .slice (some ⟨g0, 0, none⟩) 1 1, .slice none 0 0, .slice none 0 0, S [], I 3, .bool true, I 0, .slice none 0 0, .slice (some ⟨b + 2, 0, none⟩) 1 1, .slice none 0 0, .slice none 0 0, S [], I 2, .bool false, I 0, .slice none 0 0, .slice (some ⟨b + 3, 0, none⟩) 1 1, .slice none 0 0, .slice none 0 0]
def oneR : Array Value := #[S [], I 1, I 0, S [], I 2, I 0, S [], I 3, I 0]
def oneI (b : Nat) : Array Value := #[S [], I 0, I 70, .slice (some ⟨b + 6, 0, none⟩) 1 1, .slice none 0 0]
theorem rows_nil {α : Type} (w : World) (k : Nat) (P : α → Nat → Value → Prop) : RowsAt w k P nilS [] := ⟨rfl, Nat.le_refl _, Nat.zero_le _, fun j x hj => by simp at hj⟩
theorem rows_row {w : World} {g : Nat} {l : List Int} (h : w.heap[g]? = some (.cells (l.map fun x => I x).toArray 3 (0, 0))) (hl : l.length ≤ maxLen) : RowsAt w 1 intP ⟨some ⟨g, 0, none⟩, l.length, l.length⟩ l := by
  refine ⟨rfl, Nat.le_refl _, hl, fun j x hj => ⟨g, 0, rfl, heap_lt h, fun i hi => ?_⟩⟩
  obtain rfl : i = 0 := by omega
  refine ⟨I x, ?_, rfl⟩
  rw [cell_of_row w g _ _ _ (0, 0) h]
  simp [hj]
theorem intsV_nil (w : World) : IntsV w [] (.slice none 0 0) := ⟨nilS, rfl, rows_nil _ _ _⟩
theorem intsV_one {w : World} {g : Nat} {x : Int} (h : w.heap[g]? = some (.cells #[I x] 3 (0, 0))) : IntsV w [x] (.slice (some ⟨g, 0, none⟩) 1 1) := ⟨⟨some ⟨g, 0, none⟩, 1, 1⟩, rfl, rows_row (l := [x]) h (by simp [maxLen])⟩
structure OneAt (W : World) (g0 b : Nat) (z : Int) : Prop where
  h0 : W.heap[g0]? = some (.cells #[I z] 3 (0, 0))
  h2 : W.heap[b + 2]? = some (.cells #[I 1] 3 (0, 0))
  h3 : W.heap[b + 3]? = some (.cells #[I 2] 3 (0, 0))
  h4 : W.heap[b + 4]? = some (.cells (oneT g0 b) 47 (0, 0))
  h5 : W.heap[b + 5]? = some (.cells oneR 89 (0, 0))
  h6 : W.heap[b + 6]? = some (.cells #[I 0] 3 (0, 0))
  h7 : W.heap[b + 7]? = some (.cells (oneI b) 49 (0, 0))
theorem OneAt.cf {W : World} {g0 b : Nat} {z : Int} (h : OneAt W g0 b z) : CfAt W (oneC z) (oneV b) := by
  have c4 := fun i => cell_of_row W (b + 4) i _ _ (0, 0) h.h4
  have c5 := fun i => cell_of_row W (b + 5) i _ _ (0, 0) h.h5
  have c7 := fun i => cell_of_row W (b + 7) i _ _ (0, 0) h.h7
  refine ⟨rows_nil _ _ _, ⟨rfl, Nat.le_refl _, by simp [oneV, maxLen], ?_⟩, ⟨rfl, Nat.le_refl _, by simp [oneV, maxLen], ?_⟩, rows_nil _ _ _, rows_nil _ _ _, rows_nil _ _ _, ⟨rfl, Nat.le_refl _, by simp [oneV, maxLen], ?_⟩, rows_nil _ _ _⟩
  · intro j x hj
    refine ⟨b + 4, 0, rfl, heap_lt h.h4, fun i hi => ?_⟩
    match j, hj with
    | 0, hj =>
      cases hj
      match i, hi with
      | 0, _ => exact ⟨_, c4 0, rfl⟩
      | 1, _ => exact ⟨_, c4 1, rfl⟩
      | 2, _ => exact ⟨_, c4 2, rfl⟩
      | 3, _ => exact ⟨_, c4 3, rfl⟩
      | 4, _ => exact ⟨_, c4 4, intsV_nil W⟩
      | 5, _ => exact ⟨_, c4 5, intsV_one h.h0⟩
      | 6, _ => exact ⟨_, c4 6, intsV_nil W⟩
      | 7, _ => exact ⟨_, c4 7, intsV_nil W⟩
      | i + 8, hi => omega
    | 1, hj =>
      cases hj
      match i, hi with
      | 0, _ => exact ⟨_, c4 8, rfl⟩
      | 1, _ => exact ⟨_, c4 9, rfl⟩
      | 2, _ => exact ⟨_, c4 10, rfl⟩
      | 3, _ => exact ⟨_, c4 11, rfl⟩
      | 4, _ => exact ⟨_, c4 12, intsV_nil W⟩
      | 5, _ => exact ⟨_, c4 13, intsV_one h.h2⟩
      | 6, _ => exact ⟨_, c4 14, intsV_nil W⟩
      | 7, _ => exact ⟨_, c4 15, intsV_nil W⟩
      | i + 8, hi => omega
    | 2, hj =>
      cases hj
      match i, hi with
      | 0, _ => exact ⟨_, c4 16, rfl⟩
      | 1, _ => exact ⟨_, c4 17, rfl⟩
      | 2, _ => exact ⟨_, c4 18, rfl⟩
      | 3, _ => exact ⟨_, c4 19, rfl⟩
      | 4, _ => exact ⟨_, c4 20, intsV_nil W⟩
      | 5, _ => exact ⟨_, c4 21, intsV_one h.h3⟩
      | 6, _ => exact ⟨_, c4 22, intsV_nil W⟩
      | 7, _ => exact ⟨_, c4 23, intsV_nil W⟩
      | i + 8, hi => omega
    | j + 3, hj => simp [oneC] at hj
  · intro j x hj
    refine ⟨b + 5, 0, rfl, heap_lt h.h5, fun i hi => ?_⟩
    match j, hj with
    | 0, hj =>
      cases hj
      match i, hi with
      | 0, _ => exact ⟨_, c5 0, rfl⟩
      | 1, _ => exact ⟨_, c5 1, rfl⟩
      | 2, _ => exact ⟨_, c5 2, rfl⟩
      | i + 3, hi => omega
    | 1, hj =>
      cases hj
      match i, hi with
      | 0, _ => exact ⟨_, c5 3, rfl⟩
      | 1, _ => exact ⟨_, c5 4, rfl⟩
      | 2, _ => exact ⟨_, c5 5, rfl⟩
      | i + 3, hi => omega
    | 2, hj =>
      cases hj
      match i, hi with
      | 0, _ => exact ⟨_, c5 6, rfl⟩
      | 1, _ => exact ⟨_, c5 7, rfl⟩
      | 2, _ => exact ⟨_, c5 8, rfl⟩
      | i + 3, hi => omega
    | j + 3, hj => simp [oneC] at hj
  · intro j x hj
    refine ⟨b + 7, 0, rfl, heap_lt h.h7, fun i hi => ?_⟩
    match j, hj with
    | 0, hj =>
      cases hj
      match i, hi with
      | 0, _ => exact ⟨_, c7 0, rfl⟩
      | 1, _ => exact ⟨_, c7 1, rfl⟩
      | 2, _ => exact ⟨_, c7 2, rfl⟩
      | 3, _ => exact ⟨_, c7 3, intsV_one h.h6⟩
      | 4, _ => exact ⟨_, c7 4, intsV_nil W⟩
      | i + 5, hi => omega
    | j + 1, hj => simp [oneC] at hj
theorem OneAt.below {W W' : World} {g0 b : Nat} {z : Int} (h : OneAt W g0 b z) (hb : Below W.heap.size W W') : OneAt W' g0 b z :=
  ⟨(hb.block _ (heap_lt h.h0)).trans h.h0, (hb.block _ (heap_lt h.h2)).trans h.h2, (hb.block _ (heap_lt h.h3)).trans h.h3, (hb.block _ (heap_lt h.h4)).trans h.h4, (hb.block _ (heap_lt h.h5)).trans h.h5, (hb.block _ (heap_lt h.h6)).trans h.h6, (hb.block _ (heap_lt h.h7)).trans h.h7⟩
theorem one_look : lookE (oneC 0) = 0 := by decide
theorem one_rck : rckX (oneC 0) = ⟨[70, 70, 2], 3, [1, 3, 3], [1, 1, 0], [1]⟩ := by rfl
theorem one_grp : grpL (oneC 0) 1 = [0, 1] ∧ grpE (oneC 0) 1 = 0 := by decide
theorem one_blk : blkL (oneC 0) 0 1 = [0] ∧ blkE (oneC 0) 0 1 = 0 := by decide
theorem one_bad : lookE (oneC 3) = 80 := by decide
theorem res_cfg {fn : Func} {n : Nat} (hf : fn.results = #[.cell n 33]) (tmps : Array Value) (b : Nat) (w : World) (c : Cf) (v : Vs)
    (h2 : tmps[n]? = some (.pointer (some ⟨b, 0, none⟩))) (hk : w.heap[b]? = some (.cells (cfC c v) 33 (0, 0))) :
    (results fn tmps).run Try.prog w = .ok (.agg (cfC c v)) w := by
  obtain ⟨⟨z0, z1, z2, z3, z4, z5, z6, z7, z8, z9⟩, z10, z11, z12, z13, z14, z15, z16, z17⟩ := var18_all hk
  unfold cfC
  simp [results, hf, go_sem, h2, z0, z1, z2, z3, z4, z5, z6, z7, z8, z9, z10, z11, z12, z13, z14, z15, z16, z17]
set_option maxHeartbeats 4000000 in
set_option maxRecDepth 100000 in
theorem one_any (w : World) : Calls Try.prog 32 #[] w fun e w' => e = .returned (.agg (cfC (oneC 0) (oneV w.heap.size))) ∧ OneAt w' (w.heap.size + 1) w.heap.size 0 ∧ Below w.heap.size w w' := by
  go_enter Try.func32, Try.ntmps32
  go_wp2
  have n1 : ∀ (a b c d e f g h : Obj), ((((((((w.alloc a).alloc b).alloc c).alloc d).alloc e).alloc f).alloc g).alloc h).heap[w.heap.size]? = some a := fun a b c d e f g h => heap_over _ _ (heap_over _ _ (heap_over _ _ (heap_over _ _ (heap_over _ _ (heap_over _ _ (heap_two0 w a b))))))
  have n2 : ∀ (a b c d e f g h : Obj), ((((((((w.alloc a).alloc b).alloc c).alloc d).alloc e).alloc f).alloc g).alloc h).heap[w.heap.size + 1]? = some b := fun a b c d e f g h => heap_over _ _ (heap_over _ _ (heap_over _ _ (heap_over _ _ (heap_over _ _ (heap_over _ _ (heap_two w a b))))))
  have n3 : ∀ (a b c d e f g h : Obj), ((((((((w.alloc a).alloc b).alloc c).alloc d).alloc e).alloc f).alloc g).alloc h).heap[w.heap.size + 2]? = some c := fun a b c d e f g h => heap_over _ _ (heap_over _ _ (heap_over _ _ (heap_over _ _ (heap_over _ _ (by have := heap_alloc_new ((w.alloc a).alloc b) c; simp only [World.size_alloc] at this; exact this)))))
  have n4 : ∀ (a b c d e f g h : Obj), ((((((((w.alloc a).alloc b).alloc c).alloc d).alloc e).alloc f).alloc g).alloc h).heap[w.heap.size + 3]? = some d := fun a b c d e f g h => heap_over _ _ (heap_over _ _ (heap_over _ _ (heap_over _ _ (by have := heap_alloc_new (((w.alloc a).alloc b).alloc c) d; simp only [World.size_alloc] at this; exact this))))
  have n5 : ∀ (a b c d e f g h : Obj), ((((((((w.alloc a).alloc b).alloc c).alloc d).alloc e).alloc f).alloc g).alloc h).heap[w.heap.size + 4]? = some e := fun a b c d e f g h => heap_over _ _ (heap_over _ _ (heap_over _ _ (by have := heap_alloc_new ((((w.alloc a).alloc b).alloc c).alloc d) e; simp only [World.size_alloc] at this; exact this)))
  have n6 : ∀ (a b c d e f g h : Obj), ((((((((w.alloc a).alloc b).alloc c).alloc d).alloc e).alloc f).alloc g).alloc h).heap[w.heap.size + 5]? = some f := fun a b c d e f g h => heap_over _ _ (heap_over _ _ (by have := heap_alloc_new (((((w.alloc a).alloc b).alloc c).alloc d).alloc e) f; simp only [World.size_alloc] at this; exact this))
  have n7 : ∀ (a b c d e f g h : Obj), ((((((((w.alloc a).alloc b).alloc c).alloc d).alloc e).alloc f).alloc g).alloc h).heap[w.heap.size + 6]? = some g := fun a b c d e f g h => heap_over _ _ (by have := heap_alloc_new ((((((w.alloc a).alloc b).alloc c).alloc d).alloc e).alloc f) g; simp only [World.size_alloc] at this; exact this)
  have n8 : ∀ (a b c d e f g h : Obj), ((((((((w.alloc a).alloc b).alloc c).alloc d).alloc e).alloc f).alloc g).alloc h).heap[w.heap.size + 7]? = some h := fun a b c d e f g h => by have := heap_alloc_new (((((((w.alloc a).alloc b).alloc c).alloc d).alloc e).alloc f).alloc g) h; simp only [World.size_alloc] at this; exact this
  have nb : ∀ (a b c d e f g h : Obj), Below w.heap.size w ((((((((w.alloc a).alloc b).alloc c).alloc d).alloc e).alloc f).alloc g).alloc h) := fun a b c d e f g h => ((((((((Below.refl w.heap.size w).alloc (Nat.le_refl _) _).alloc (by simp) _).alloc (by simp; omega) _).alloc (by simp; omega) _).alloc (by simp; omega) _).alloc (by simp; omega) _).alloc (by simp; omega) _).alloc (by simp; omega) _
  refine bodyPost_ret (res_cfg Try.results32 _ w.heap.size _ (oneC 0) (oneV w.heap.size) rfl (n1 _ _ _ _ _ _ _ _)) rfl ?_
  exact ⟨rfl, ⟨n2 _ _ _ _ _ _ _ _, n3 _ _ _ _ _ _ _ _, n4 _ _ _ _ _ _ _ _, n5 _ _ _ _ _ _ _ _, n6 _ _ _ _ _ _ _ _, n7 _ _ _ _ _ _ _ _, n8 _ _ _ _ _ _ _ _⟩, nb _ _ _ _ _ _ _ _⟩
end Go.Proofs.Ytapfbinaocaclaa
