import Derived.RangeFuncNested
import Derived.RangeFuncBound
import Derived.RangeFuncCalls
import Derived.RangeFuncLeaves
import Derived.RangeFuncBox
import Derived.Shelf.Abstract
import Derived.Shelf.RegionOpen
import Derived.WalkKit
import Derived.OwnWalkIn
import Derived.TacticsInMore
import Derived.LoopNIn
import Derived.LoopIn
import Derived.Maps.OwnIn
import Derived.Maps.AppendAt
import Derived.Deep.WholeRow
import Derived.Test.YtlbgppijeoonjaaGreatDoorScaX
namespace Go.Proofs.YtlbgppijeoonjaaGreatDoor
open Go.RowKit
set_option linter.unusedVariables false

/-! ### A range over an iterator that keeps state of its own in cells and hands out rows that it laid -/
/-- M's blocks stand. -/
structure Kz (M : Nat → Prop) (A B : World) : Prop where
  size : A.heap.size ≤ B.heap.size
  same : ∀ b, M b → b < A.heap.size → B.heap[b]? = A.heap[b]?
theorem Kz.refl (M : Nat → Prop) (A : World) : Kz M A A := ⟨Nat.le_refl _, fun _ _ _ => rfl⟩
theorem Kz.trans {M : Nat → Prop} {A B C : World} (h : Kz M A B) (k : Kz M B C) : Kz M A C :=
  ⟨Nat.le_trans h.size k.size, fun b hb hl => (k.same b hb (Nat.lt_of_lt_of_le hl h.size)).trans (h.same b hb hl)⟩
theorem Kz.mono {M N : Nat → Prop} {A B : World} (h : Kz M A B) (hs : ∀ b, N b → M b) : Kz N A B := ⟨h.size, fun b hb => h.same b (hs b hb)⟩
theorem Kz.putObj {M : Nat → Prop} (A : World) (l : Nat) (o : Obj) (hl : ¬ M l) : Kz M A (A.putObj l o) :=
  ⟨by simp, fun b hb _ => World.putObj_heap_other (fun e => hl (e ▸ hb))⟩

/-- What an iterator keeps, what it hands out (H: in the world where it does), and what a round keeps for it (Ki). -/
def SeqG {α β : Type} (F : Fence) (n : Nat) (P : Program) (g : Nat) (lb : Array Value) (enc : β → Value) (H : List α → α → β → World → Prop) (Ki : β → World → World → Prop) (S Sp : List α → Prop) (W : World) : Prop :=
  ∀ (l : Nat) (J Jx : List α → World → Prop), (∀ s A B, J s A → Below W.heap.size A B → J s B) → (∀ s A B, Jx s A → Below W.heap.size A B → Jx s B) →
    (∀ pre x y A, J pre A → H pre x y A → YieldAt F (n - 1) P l #[enc y] A fun e B => (e = .returned (.bool true) ∧ J (pre ++ [x]) B ∧ Ki y A B) ∨ (e = .returned (.bool false) ∧ Jx (pre ++ [x]) B)) →
    J [] W → CallsIn F n P g (#[.func (.yield l) #[] #[]] ++ lb) W fun e B => (∃ v, e = .returned v) ∧ ((∃ xs, S xs ∧ J xs B) ∨ ∃ pre, Sp pre ∧ Jx pre B)

def rowPost {α β : Type} (D : Nat) (Mp : Nat → Prop) (Bk : β → Nat → Prop) (I : List α → World → Prop) (Ix : Code → List α → World → Prop) (xs : List α) (y : β) (W : World) : Exit → Act → World → Prop
  | .normal, _, B => Kz (fun b => (Mp b ∨ D ≤ b) ∧ ¬ Bk y b) W B ∧ I xs B
  | .ret, _, B => Kz (fun b => (Mp b ∨ D ≤ b) ∧ ¬ Bk y b) W B ∧ Ix .ret xs B
  | .exit id, _, B => Kz (fun b => (Mp b ∨ D ≤ b) ∧ ¬ Bk y b) W B ∧ Ix (.exit id) xs B
  | .goto t, _, B => Kz (fun b => (Mp b ∨ D ≤ b) ∧ ¬ Bk y b) W B ∧ Ix (.goto t) xs B
  | .panic _, _, _ => False
  | .outgrown, _, _ => False

theorem below_putObj (D : Nat) (A : World) (l : Nat) (o : Obj) (h : D ≤ l) : Below D A (A.putObj l o) :=
  ⟨rfl, rfl, rfl, by simp, fun k hk => World.putObj_heap_other (by omega)⟩

set_option maxHeartbeats 1000000 in
theorem wpIn_range_own {α β : Type} {F : Fence} {n : Nat} {P : Program} {g : Operand} {ps : Array Tmp} {assign body : Code} {Q : Exit → Act → World → Prop} {a : Act} {w : World}
    (hro : F.round = none) (h1 : 1 ≤ n) {gf : Nat} {lb : Array Value} (hg : a.eval g = .func (.func gf) #[] lb) (hFg : F.fn gf) (eg : ∀ args w, (callFunc gf args).run P w = .ok (.enter gf args) w)
    {enc : β → Value} {H : List α → α → β → World → Prop} {Mp : Nat → Prop} (hm : ∀ b, Mp b → b < w.heap.size) {Bk : β → Nat → Prop} {S Sp : List α → Prop}
    (hseq : ∀ W1, Below w.heap.size w W1 → W1.heap.size = w.heap.size + 2 → SeqG F (n - 1) P gf lb enc H (fun y => Kz (fun b => (Mp b ∨ w.heap.size + 2 ≤ b) ∧ ¬ Bk y b)) S Sp W1)
    (hB : ∀ pre x y A, H pre x y A → ∀ b, Bk y b → w.heap.size + 2 ≤ b) (hHa : ∀ pre x y A o, H pre x y A → H pre x y (A.putObj (w.heap.size + 1) o)) (hps : ps.size = 1)
    (I : List α → World → Prop) (Ix : Code → List α → World → Prop) (hI : ∀ s A B, I s A → Below w.heap.size A B → I s B) (hIx : ∀ c s A B, Ix c s A → Below w.heap.size A B → Ix c s B) (h0 : I [] w) (a₁ : β → Act)
    (hassign : ∀ (l : Nat) (y : β) (W : World) (K : Act → World → Prop), K (a₁ y) W →
      assign.wpIn (F.inRound l) (n - 1 - 1) P (Exit.then K (fun _ _ _ => False)) { tmps := (ps.zip #[enc y]).foldl (fun t (p, v) => t.setIfInBounds p v) a.tmps, defers := [] } W)
    (hbody : ∀ (l : Nat) (pre : List α) (x : α) (y : β) (W : World), w.heap.size + 2 ≤ W.heap.size → I pre W → H pre x y W → body.wpIn (F.inRound l) (n - 1 - 1) P (rowPost w.heap.size Mp Bk I Ix (pre ++ [x]) y W) (a₁ y) W)
    (hdone : ∀ (D : Nat) (xs : List α) (W : World), D = w.heap.size → D + 2 ≤ W.heap.size → S xs → I xs W → W.heap[D]? = some (.deferred (some [])) → Q .normal { a with defers := { target := .collected D, args := #[] } :: a.defers } W)
    (hstop : ∀ (D : Nat) (c : Code) (pre : List α) (W : World), D = w.heap.size → D + 2 ≤ W.heap.size → Sp pre → Ix c pre W → W.heap[D]? = some (.deferred (some [])) → c.wpIn F n P Q { a with defers := { target := .collected D, args := #[] } :: a.defers } W) :
    (Code.rangeFunc g ps assign body).wpIn F n P Q a w := by
  refine wpIn_rangeFunc fun fn hfn => ?_
  rw [hro]
  let rec0 : LoopState → Option Code → Loop := fun st pe => { state := st, pending := pe, fn, tmps := a.tmps, params := ps, assign, body, defers := w.heap.size }
  obtain ⟨rc, hrc⟩ : ∃ rc, rc = rec0 := ⟨_, rfl⟩
  obtain ⟨W1, hW1⟩ : ∃ W1, (w.alloc (.deferred (some []))).alloc (.loop (rc .ready none)) = W1 := ⟨_, rfl⟩
  have hsz : W1.heap.size = w.heap.size + 2 := by rw [← hW1]; simp
  have hb1 : Below w.heap.size w W1 := by rw [← hW1]; exact ((Below.refl _ w).alloc (Nat.le_refl _) _).alloc (by simp) _
  have hL1 : W1.heap[w.heap.size + 1]? = some (.loop (rc .ready none)) := by
    rw [← hW1]; have := World.alloc_heap_new (w.alloc (.deferred (some []))) (.loop (rc .ready none)); rwa [World.size_alloc] at this
  have hK1 : W1.heap[w.heap.size]? = some (.deferred (some [])) := by
    rw [← hW1]; exact (Below.heap_alloc _ _ _ (by simp)).trans (World.alloc_heap_new w _)
  refine ⟨w.heap.size + 1, [{ target := .collected w.heap.size, args := #[] }], W1, { target := .fn (.func gf) lb, args := #[.func (.yield (w.heap.size + 1)) #[] #[]] }, W1, gf,
    #[.func (.yield (w.heap.size + 1)) #[] #[]] ++ lb, W1, ?_, ?_, ?_, ?_, fun _ => h1, ?_⟩
  · rw [← hW1, hrc]; exact run_enterLoop_outer _ _ _ _ _
  · simp only [resolve, hg]
    simp [go_sem]
  · intro f' hf'; simp [Target.leads] at hf'; subst hf'; exact hFg
  · simp [invoke, go_sem, eg]
  · have up : ∀ {A B : World} {k : Nat} {o : Obj}, Below W1.heap.size A B → k < w.heap.size + 2 → A.heap[k]? = some o → B.heap[k]? = some o := fun h hk ho => (h.block _ (by omega)).trans ho
    refine (hseq W1 hb1 hsz (w.heap.size + 1)
      (fun pre W => I pre W ∧ W.heap[w.heap.size + 1]? = some (.loop (rc .ready none)) ∧ W.heap[w.heap.size]? = some (.deferred (some [])))
      (fun pre W => ∃ c, Ix c pre W ∧ W.heap[w.heap.size + 1]? = some (.loop (rc .done (some c))) ∧ W.heap[w.heap.size]? = some (.deferred (some [])))
      (fun s A B hs hb => ⟨hI s A B hs.1 (hb.mono (by omega)), up hb (by omega) hs.2.1, up hb (by omega) hs.2.2⟩)
      (fun s A B hs hb => by obtain ⟨c, hc, hl, hk⟩ := hs; exact ⟨c, hIx c s A B hc (hb.mono (by omega)), up hb (by omega) hl, up hb (by omega) hk⟩)
      ?_ ⟨hI [] w W1 h0 hb1, hL1, hK1⟩).mono ?_
    · rintro pre x y W ⟨hi, hl, hk⟩ hh
      have hlt : w.heap.size + 1 < W.heap.size := (Array.getElem?_eq_some_iff.1 hl).1
      have hbk := hB pre x y W hh
      have hy := run_yield (P := P) (args := #[enc y]) hl (by rw [hrc]; exact hps.symm)
      rw [hrc] at hy
      refine ⟨fn, _, assign, body, hy, roundIn_of_wpIn hfn (hassign _ y W _ ?_)⟩
      clear hy
      refine ⟨_, run_beginRound hl (by rw [hrc]), ?_⟩
      obtain ⟨W2, hW2⟩ : ∃ W2, W.putObj (w.heap.size + 1) (.loop { rc .ready none with state := .busy }) = W2 := ⟨_, rfl⟩
      have hl2 : W2.heap[w.heap.size + 1]? = some (.loop { rc .ready none with state := .busy }) := by rw [← hW2]; exact World.putObj_heap_same hlt
      have hk2 : W2.heap[w.heap.size]? = some (.deferred (some [])) := by rw [← hW2]; exact (World.putObj_heap_other (by omega)).trans hk
      have hi2 : I pre W2 := by rw [← hW2]; exact hI _ _ _ hi (below_putObj _ _ _ _ (by omega))
      have hh2 : H pre x y W2 := by rw [← hW2]; exact hHa _ _ _ _ _ hh
      have hz2 : Kz (fun b => (Mp b ∨ w.heap.size + 2 ≤ b) ∧ ¬ Bk y b) W W2 := by rw [← hW2]; exact Kz.putObj _ _ _ (fun e => by rcases e.1 with e | e; (have := hm _ e; omega); omega)
      rw [hW2]
      refine wpIn_mono (hbody _ pre x y W2 (by rw [← hW2]; simp; omega) hi2 hh2) ?_
      have hs2 : W2.heap.size = W.heap.size := by rw [← hW2]; simp
      have fin : ∀ (jump : Option Code) (W3 : World), Kz (fun b => (Mp b ∨ w.heap.size ≤ b) ∧ ¬ Bk y b) W2 W3 →
          (Instr.endRound (w.heap.size + 1) jump).run P W3 = .ok (.bool jump.isNone) (W3.putObj (w.heap.size + 1) (.loop (rc (if jump.isNone then .ready else .done) jump))) ∧
          (W3.putObj (w.heap.size + 1) (.loop (rc (if jump.isNone then .ready else .done) jump))).heap[w.heap.size + 1]? = some (.loop (rc (if jump.isNone then .ready else .done) jump)) ∧
          (W3.putObj (w.heap.size + 1) (.loop (rc (if jump.isNone then .ready else .done) jump))).heap[w.heap.size]? = some (.deferred (some [])) := fun jump W3 hk3 => by
        have hl3 := (hk3.same _ ⟨.inr (by omega), fun e => by have := hbk _ e; omega⟩ (by omega)).trans hl2
        have hd3 := (hk3.same _ ⟨.inr (Nat.le_refl _), fun e => by have := hbk _ e; omega⟩ (by omega)).trans hk2
        have := run_endRound (P := P) jump hl3
        rw [hrc] at this ⊢
        exact ⟨this, World.putObj_heap_same (Array.getElem?_eq_some_iff.1 hl3).1, (World.putObj_heap_other (by omega)).trans hd3⟩
      rintro e a3 W3 hp
      cases e with
      | normal =>
        obtain ⟨hk3, hi3⟩ := hp
        obtain ⟨hr, hl4, hk4⟩ := fin none W3 hk3
        exact ⟨_, _, hr, .inl ⟨rfl, ⟨hI _ _ _ hi3 (below_putObj _ _ _ _ (by omega)), hl4, hk4⟩, hz2.trans ((hk3.mono (fun b hb => ⟨hb.1.imp id (by omega), hb.2⟩)).trans (Kz.putObj _ _ _ (fun e => by rcases e.1 with e | e; (have := hm _ e; omega); omega)))⟩⟩
      | ret =>
        obtain ⟨hk3, hi3⟩ := hp
        obtain ⟨hr, hl4, hk4⟩ := fin (some .ret) W3 hk3
        exact ⟨_, _, hr, .inr ⟨rfl, .ret, hIx _ _ _ _ hi3 (below_putObj _ _ _ _ (by omega)), hl4, hk4⟩⟩
      | exit id =>
        obtain ⟨hk3, hi3⟩ := hp
        obtain ⟨hr, hl4, hk4⟩ := fin (some (.exit id)) W3 hk3
        exact ⟨_, _, hr, .inr ⟨rfl, .exit id, hIx _ _ _ _ hi3 (below_putObj _ _ _ _ (by omega)), hl4, hk4⟩⟩
      | goto t =>
        obtain ⟨hk3, hi3⟩ := hp
        obtain ⟨hr, hl4, hk4⟩ := fin (some (.goto t)) W3 hk3
        exact ⟨_, _, hr, .inr ⟨rfl, .goto t, hIx _ _ _ _ hi3 (below_putObj _ _ _ _ (by omega)), hl4, hk4⟩⟩
      | panic ch => exact hp.elim
      | outgrown => exact hp.elim
    · rintro e W2 ⟨⟨v, rfl⟩, (⟨xs, hS, hi, hl, hk⟩ | ⟨pre, hSp, c, hi, hl, hk⟩)⟩
      · exact ⟨none, _, by have := run_endLoop (P := P) hl (by rw [hrc]; simp [rec0]); rw [hrc] at this; exact this,
          hdone _ xs _ rfl (by have := (Array.getElem?_eq_some_iff.1 hl).1; simp; omega) hS (hI _ _ _ hi (below_putObj _ _ _ _ (by omega))) ((World.putObj_heap_other (by omega)).trans hk)⟩
      · exact ⟨some c, _, by have := run_endLoop (P := P) hl (by rw [hrc]; simp [rec0]); rw [hrc] at this; exact this,
          hstop _ c pre _ rfl (by have := (Array.getElem?_eq_some_iff.1 hl).1; simp; omega) hSp (hIx _ _ _ _ hi (below_putObj _ _ _ _ (by omega))) ((World.putObj_heap_other (by omega)).trans hk)⟩
end Go.Proofs.YtlbgppijeoonjaaGreatDoor

namespace Go.Proofs.YtlbgppijeoonjaaGreatDoor
open Go.RowKit Go.Shelf
set_option linter.unusedVariables false

/-! ### The memory of tree.Paths' iterator -/
def iC (l : List Int) : List Value := l.map fun i => Value.int .i64 i
theorem own_keepR {w w' : World} {base e size n : Nat} {v : Value} {xs : List Value} (h : w.ownsRow base e size v n xs) (hk : ∀ g, v.ownBlock = some g → w'.heap[g]? = w.heap[g]?) : w'.ownsRow base e size v n xs := by
  obtain ⟨hl, ⟨rfl, h0⟩ | ⟨g, cap, cur, rfl, hb, hh, h1⟩⟩ := h
  · exact ⟨hl, .inl ⟨rfl, h0⟩⟩
  · exact ⟨hl, .inr ⟨g, cap, cur, rfl, hb, (hk g rfl).trans hh, h1⟩⟩
theorem own_ltR {w : World} {base e size n : Nat} {v : Value} {xs : List Value} (h : w.ownsRow base e size v n xs) {g : Nat} (hg : v.ownBlock = some g) : base ≤ g ∧ g < w.heap.size ∧ ∃ cur, w.heap[g]? = some (.cells cur e (0, 0)) := by
  obtain ⟨hl, ⟨rfl, h0⟩ | ⟨g', cap, cur, rfl, hb, hh, h1⟩⟩ := h
  · cases hg
  · cases hg; exact ⟨hb, heap_lt hh, cur, hh⟩
/-- A row without its last. -/
theorem own_cutR {w : World} {base e n cap g : Nat} {xs : List Value} {x : Value} (h : w.ownsRow base e 1 (.slice (some ⟨g, 0, none⟩) (n + 1) cap) (n + 1) (xs ++ [x])) : w.ownsRow base e 1 (.slice (some ⟨g, 0, none⟩) n cap) n xs := by
  obtain ⟨hl, ⟨h, h0⟩ | ⟨g', cap', cur, he, hb, hh, h1, h2, h3, h4⟩⟩ := h
  · cases h
  · cases he
    simp at hl
    refine ⟨by omega, .inr ⟨_, _, cur, rfl, hb, hh, by omega, h2, h3, ?_⟩⟩
    have hxl : xs.length = n := by omega
    have e1 : (xs ++ [x]).take n = xs := by rw [List.take_append_of_le_length (by omega)]; exact List.take_of_length_le (by omega)
    rw [← h4, List.take_take, Nat.min_eq_left (by omega)] at e1
    rw [Nat.mul_one]
    exact e1
structure Pq (n₀ l By Bp Bw : Nat) (W : World) (v : Value) (ahead : List Int) : Prop where
  pth : W.heap[Bp]? = some (.cells #[v] 25 (0, 0))
  yld : W.heap[By]? = some (.cells #[.func (.yield l) #[] #[]] 79 (0, 0))
  wlk : W.heap[Bw]? = some (.cells #[.func (.func 34) #[] #[.pointer (some ⟨Bp, 0, none⟩), .pointer (some ⟨By, 0, none⟩), .pointer (some ⟨Bw, 0, none⟩)]] 80 (0, 0))
  row : W.ownsRow n₀ 3 1 v ahead.length (iC ahead)
  hp : n₀ ≤ Bp
  hy : n₀ ≤ By
  hw : n₀ ≤ Bw
section
variable {n₀ l By Bp Bw : Nat} {W W' : World} {v : Value} {ahead : List Int}
theorem Pq.keep (h : Pq n₀ l By Bp Bw W v ahead) (hk : ∀ b, b < W.heap.size → (b = Bp ∨ b = By ∨ b = Bw ∨ v.ownBlock = some b) → W'.heap[b]? = W.heap[b]?) : Pq n₀ l By Bp Bw W' v ahead :=
  ⟨(hk _ (heap_lt h.pth) (.inl rfl)).trans h.pth, (hk _ (heap_lt h.yld) (.inr (.inl rfl))).trans h.yld, (hk _ (heap_lt h.wlk) (.inr (.inr (.inl rfl)))).trans h.wlk, own_keepR h.row (fun g e => hk _ (own_ltR h.row e).2.1 (.inr (.inr (.inr e)))), h.hp, h.hy, h.hw⟩
theorem Pq.below (h : Pq n₀ l By Bp Bw W v ahead) (hb : Below W.heap.size W W') : Pq n₀ l By Bp Bw W' v ahead := h.keep (fun b hl _ => hb.block b hl)
theorem Pq.ge (h : Pq n₀ l By Bp Bw W v ahead) {b : Nat} (hb : b = Bp ∨ b = By ∨ b = Bw ∨ v.ownBlock = some b) : n₀ ≤ b := by
  rcases hb with rfl | rfl | rfl | e
  · exact h.hp
  · exact h.hy
  · exact h.hw
  · exact (own_ltR h.row e).1
theorem Pq.ne (h : Pq n₀ l By Bp Bw W v ahead) : Bp ≠ By ∧ Bp ≠ Bw ∧ v.ownBlock ≠ some Bp ∧ v.ownBlock ≠ some By ∧ v.ownBlock ≠ some Bw := by
  refine ⟨fun e => ?_, fun e => ?_, fun e => ?_, fun e => ?_, fun e => ?_⟩
  · have := h.pth.symm.trans (e ▸ h.yld); cases this
  · have h2 := h.wlk
    rw [← e] at h2
    have := h.pth.symm.trans h2
    cases this
  · obtain ⟨_, _, cur, hh⟩ := own_ltR h.row e; have := hh.symm.trans h.pth; cases this
  · obtain ⟨_, _, cur, hh⟩ := own_ltR h.row e; have := hh.symm.trans h.yld; cases this
  · obtain ⟨_, _, cur, hh⟩ := own_ltR h.row e; have := hh.symm.trans h.wlk; cases this
theorem Pq.n (h : Pq n₀ l By Bp Bw W v ahead) : n₀ ≤ W.heap.size := Nat.le_trans h.hp (Nat.le_of_lt (heap_lt h.pth))
/-- Behind a round. -/
theorem Pq.yielded (h : Pq n₀ l By Bp Bw W v ahead) {Mp : Nat → Prop} {y : Nat} (hk : Kz (fun b => (Mp b ∨ n₀ ≤ b) ∧ ¬ y = b) W W') (hy : ∀ b, (b = Bp ∨ b = By ∨ b = Bw ∨ v.ownBlock = some b) → y ≠ b) : Pq n₀ l By Bp Bw W' v ahead :=
  h.keep (fun b hl hb => hk.same b ⟨.inr (h.ge hb), hy b hb⟩ hl)
/-- path = v': a row that the iterator owns. -/
theorem Pq.mk' {u v' : Value} {a' : List Int} (pth : W.heap[Bp]? = some (.cells #[u] 25 (0, 0))) (yld : W.heap[By]? = some (.cells #[.func (.yield l) #[] #[]] 79 (0, 0)))
    (wlk : W.heap[Bw]? = some (.cells #[.func (.func 34) #[] #[.pointer (some ⟨Bp, 0, none⟩), .pointer (some ⟨By, 0, none⟩), .pointer (some ⟨Bw, 0, none⟩)]] 80 (0, 0)))
    (hp : n₀ ≤ Bp) (hy : n₀ ≤ By) (hw : n₀ ≤ Bw) (hr : W.ownsRow n₀ 3 1 v' a'.length (iC a')) : Pq n₀ l By Bp Bw (W.setCell ⟨Bp, 0, none⟩ v') v' a' := by
  have n1 : By ≠ Bp := fun e => by have := pth.symm.trans (e ▸ yld); cases this
  have n2 : Bw ≠ Bp := fun e => by rw [e] at wlk; have := pth.symm.trans wlk; cases this
  have hs : ∀ k, k ≠ Bp → (W.setCell ⟨Bp, 0, none⟩ v').heap[k]? = W.heap[k]? := fun k hk => Below.heap_setCell W ⟨Bp, 0, none⟩ v' k hk
  refine ⟨Boxed.set v' pth, (hs _ n1).trans yld, (hs _ n2).trans wlk, own_keepR hr (fun g e => hs g (fun e2 => ?_)), hp, hy, hw⟩
  obtain ⟨_, _, cur, hh⟩ := own_ltR hr e
  subst e2
  have := hh.symm.trans pth
  cases this
theorem Pq.store (h : Pq n₀ l By Bp Bw W v ahead) {v' : Value} {a' : List Int} (hr : W.ownsRow n₀ 3 1 v' a'.length (iC a')) : Pq n₀ l By Bp Bw (W.setCell ⟨Bp, 0, none⟩ v') v' a' :=
  Pq.mk' h.pth h.yld h.wlk h.hp h.hy h.hw hr
theorem Pq.grown (h : Pq n₀ l By Bp Bw W v ahead) (hg : W.grownBy W' v.ownBlock) {v' : Value} {a' : List Int} (hr : W'.ownsRow n₀ 3 1 v' a'.length (iC a')) : Pq n₀ l By Bp Bw (W'.setCell ⟨Bp, 0, none⟩ v') v' a' := by
  obtain ⟨n1, n2, n3, n4, n5⟩ := h.ne
  exact Pq.mk' ((hg.block _ (heap_lt h.pth) n3.symm).trans h.pth) ((hg.block _ (heap_lt h.yld) n4.symm).trans h.yld) ((hg.block _ (heap_lt h.wlk) n5.symm).trans h.wlk) h.hp h.hy h.hw hr
theorem below_setR {n₀ b : Nat} (W : World) (v : Value) (h : n₀ ≤ b) : Below n₀ W (W.setCell ⟨b, 0, none⟩ v) := (Below.refl n₀ W).setCell (p := ⟨b, 0, none⟩) h v
theorem Kz.of_below {Mp : Nat → Prop} (hMp : ∀ b, Mp b → b < n₀) (hb : Below n₀ W W') : Kz Mp W W' := ⟨hb.size, fun b h _ => hb.block b (hMp b h)⟩
end
/-- What the iterator hands out: a path, in a row of its own. -/
abbrev Yv := Nat × Nat × Nat
def yE (y : Yv) : Value := .slice (some ⟨y.1, 0, none⟩) y.2.1 y.2.2
def Hd (n₀ : Nat) (all : List (List Int)) (pre : List (List Int)) (x : List Int) (y : Yv) (A : World) : Prop := pre ++ [x] <+: all ∧ y.2.1 = x.length ∧ A.ownsRow n₀ 3 1 (yE y) x.length (iC x)
theorem Hd.ge {n₀ : Nat} {all pre : List (List Int)} {x : List Int} {y : Yv} {A : World} (h : Hd n₀ all pre x y A) : n₀ ≤ y.1 := (own_ltR h.2.2 rfl).1
end Go.Proofs.YtlbgppijeoonjaaGreatDoor

