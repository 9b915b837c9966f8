import Derived.Test.YtpbnpmeigdjfdaaGreatDoorXKrs
namespace Go.Proofs.YtpbnpmeigdjfdaaGreatDoor.Ce
open Go.RowKit
set_option linter.unusedSimpArgs false
set_option linter.unusedVariables false
set_option maxHeartbeats 16000000
set_option maxRecDepth 100000
theorem ret_int {k : IntKind} {a b : Int} (h : a = b) : Ending.returned (.int k a) = .returned (.int k b) := by rw [h]
theorem ret_bool {a b : Bool} (h : a = b) : Ending.returned (.bool a) = .returned (.bool b) := by rw [h]
def inR (v a b : Int) : Bool := decide (a ≤ v) && decide (v ≤ b)
def isId (v n : Int) : Bool := decide (0 ≤ v) && decide (v < n)
theorem ints_at {w : World} {s : Sl} {l : List Int} (h : RowsAt w 1 intP s l) {j : Nat} {x : Int} (hj : l[j]? = some x) : ∃ g off, s.a = some ⟨g, off, none⟩ ∧ g < w.heap.size ∧ w.cell? ⟨g, off + j, none⟩ = some (I x) := by
 obtain ⟨g, off, e, hg, hr⟩ := h.row j x hj
 obtain ⟨u, h1, h2⟩ := hr 0 (by omega)
 refine ⟨g, off, e, hg, ?_⟩
 rw [show off + j * 1 + 0 = off + j by omega] at h1
 rw [h1, h2]
def risF (a : Int) (l : List Int) (n : Int) : Bool := match l with
 | [] => true
 | x :: r => isId x n && decide (a < x) && risF x r n
def rkind (c : Cf) (r : Int) : Int := match c.ress[r.toNat]? with | some x => x.kind | none => 0
def rlink (c : Cf) (r : Int) : Int := match c.ress[r.toNat]? with | some x => x.link | none => 0
def rootF (c : Cf) : Nat → Int → Int
 | 0, _ => -1
 | f + 1, r => if isId r c.ress.length = true then (if rkind c r = 2 then rootF c f (rlink c r) else r) else -1
theorem rootF_lt (c : Cf) : ∀ (f : Nat) (r : Int), rootF c f r < c.ress.length
 | 0, r => by rw [rootF]; omega
 | f + 1, r => by
  rw [rootF]
  split
  ·rename_i h
   split
   ·exact rootF_lt c f _
   ·simp [isId] at h; exact h.2
  ·omega
theorem pigeon : ∀ (n : Nat) (f : Nat → Nat), (∀ k, k ≤ n → f k < n) → ∃ i j, i < j ∧ j ≤ n ∧ f i = f j
 | 0, f, h => absurd (h 0 (Nat.le_refl 0)) (Nat.not_lt_zero _)
 | n + 1, f, h => by
  by_cases hv : ∃ i, i ≤ n ∧ f i = f (n + 1)
  ·obtain ⟨i, hi, e⟩ := hv
   exact ⟨i, n + 1, by omega, Nat.le_refl _, e⟩
  ·have hne : ∀ i, i ≤ n → f i ≠ f (n + 1) := fun i hi e => hv ⟨i, hi, e⟩
   have hvl := h (n + 1) (Nat.le_refl _)
   obtain ⟨i, j, hij, hjn, e⟩ := pigeon n (fun k => if f k = n then f (n + 1) else f k) (fun k hk => by
    have h1 := h k (by omega)
    have h2 := hne k hk
    split <;> omega)
   have h1 := hne i (by omega)
   have h2 := hne j hjn
   refine ⟨i, j, hij, by omega, ?_⟩
   split at e <;> split at e <;> omega
def goes (c : Cf) (r : Int) : Bool := isId r c.ress.length && rkind c r == 2
def iter (c : Cf) : Nat → Int → Int
 | 0, r => r
 | k + 1, r => iter c k (rlink c r)
theorem iter_add (c : Cf) (a b : Nat) (r : Int) : iter c (a + b) r = iter c b (iter c a r) := by
 induction a generalizing r with
 | zero => rw [Nat.zero_add]; rfl
 | succ a ih => rw [show a + 1 + b = (a + b) + 1 by omega, iter, iter, ih]
theorem rootF_all (c : Cf) : ∀ (f : Nat) (r : Int), (∀ k, k < f → goes c (iter c k r) = true) → rootF c f r = -1
 | 0, r, _ => rfl
 | f + 1, r, h => by
  have h0 : goes c r = true := h 0 (by omega)
  simp [goes] at h0
  rw [rootF, if_pos h0.1, if_pos h0.2]
  exact rootF_all c f _ (fun k hk => h (k + 1) (by omega))
theorem rootF_some (c : Cf) : ∀ (f g : Nat) (r : Int) (k : Nat), k < f → k < g → goes c (iter c k r) = false → rootF c f r = rootF c g r
 | 0, _, _, _, h, _, _ => absurd h (Nat.not_lt_zero _)
 | _, 0, _, _, _, h, _ => absurd h (Nat.not_lt_zero _)
 | f + 1, g + 1, r, k, hf, hg, hk => by
  rw [rootF, rootF]
  split
  ·split
   ·cases k with
    | zero =>
     rename_i h1 h2
     have : goes c r = false := hk
     simp [goes, h1, h2] at this
    | succ k => exact rootF_some c f g _ k (by omega) (by omega) hk
   ·rfl
  ·rfl
theorem rootF_more (c : Cf) (r : Int) : rootF c (c.ress.length + 1) r = rootF c c.ress.length r := by
 by_cases h : ∃ k, k < c.ress.length ∧ goes c (iter c k r) = false
 ·obtain ⟨k, hk, hg⟩ := h
  exact rootF_some c _ _ r k (by omega) hk hg
 ·have hall : ∀ k, k < c.ress.length → goes c (iter c k r) = true := fun k hk => by
   cases hg : goes c (iter c k r) with
   | true => rfl
   | false => exact absurd ⟨k, hk, hg⟩ h
  rw [rootF_all c c.ress.length r hall]
  by_cases hn : isId (iter c c.ress.length r) c.ress.length = true
  ·have hid : ∀ k, k ≤ c.ress.length → isId (iter c k r) c.ress.length = true := fun k hk => by
    by_cases e : k < c.ress.length
    ·have := hall k e
     simp [goes] at this
     exact this.1
    ·obtain rfl : k = c.ress.length := by omega
     exact hn
   have hnn : ∀ k, k ≤ c.ress.length → 0 ≤ iter c k r ∧ iter c k r < c.ress.length := fun k hk => by
    have := hid k hk
    simpa [isId] using this
   obtain ⟨i, j, hij, hjn, e⟩ := pigeon c.ress.length (fun k => (iter c k r).toNat) (fun k hk => by have := hnn k hk; omega)
   have e2 : iter c i r = iter c j r := by
    have h1 := hnn i (by omega)
    have h2 := hnn j hjn
    omega
   have e3 : iter c (i + (c.ress.length - j)) r = iter c c.ress.length r := by
    rw [iter_add, e2, ← iter_add]
    congr 1
    omega
   have h4 := hall (i + (c.ress.length - j)) (by omega)
   refine rootF_all c _ r (fun k hk => ?_)
   by_cases ek : k < c.ress.length
   ·exact hall k ek
   ·obtain rfl : k = c.ress.length := by omega
    rw [← e3]
    exact h4
  ·obtain ⟨m, hm⟩ : ∃ m, m = c.ress.length := ⟨_, rfl⟩
   have key : ∀ (f : Nat) (q : Int), (∀ k, k < f → goes c (iter c k q) = true) → isId (iter c f q) c.ress.length = false → rootF c (f + 1) q = -1 := by
    intro f
    induction f with
    | zero =>
     intro q _ hq
     have hq' : isId q c.ress.length = false := hq
     rw [rootF, if_neg (by rw [hq']; decide)]
    | succ f ih =>
     intro q hk hq
     have h0 : goes c q = true := hk 0 (by omega)
     simp [goes] at h0
     rw [rootF, if_pos h0.1, if_pos h0.2]
     exact ih _ (fun k hk2 => hk (k + 1) (by omega)) hq
   exact key _ r hall (by simpa using hn)
def intN (c : Cf) (l : List Int) : Nat := (l.filter (fun x => rkind c x == 3)).length
theorem ids_of_ris {a n : Int} {l : List Int} (h : risF a l n = true) : ∀ x ∈ l, isId x n = true := by
 induction l generalizing a with
 | nil => intro x hx; cases hx
 | cons y r ih =>
  rw [risF] at h
  simp at h
  intro x hx
  rcases List.mem_cons.1 hx with rfl | hx
  ·exact h.1.1
  ·exact ih h.2 x hx
theorem intN_snoc (c : Cf) (l : List Int) (j : Nat) (x : Int) (hx : l[j]? = some x) : intN c (l.take (j + 1)) = intN c (l.take j) + (if rkind c x == 3 then 1 else 0) := by
 unfold intN
 rw [List.take_add_one, hx, Option.toList_some, List.filter_append, List.length_append]
 congr 1
 simp only [List.filter_cons, List.filter_nil]
 split <;> simp
theorem below_set {B : Nat} {w W : World} (h : Below B w W) {b k : Nat} {v : Value} (hb : B ≤ b) (hs : B ≤ W.heap.size) : Below B w (W.setCell ⟨b, k, none⟩ v) := h.trans (below_of_grown (grown_set W b k v) hb hs)
theorem all_take {α : Type} (p : α → Bool) (l : List α) (j : Nat) (x : α) (hx : l[j]? = some x) : (l.take (j + 1)).all p = ((l.take j).all p && p x) := by
 rw [List.take_add_one, hx, Option.toList_some, List.all_append]
 simp
theorem all_short {α : Type} (p : α → Bool) (l : List α) (i j : Nat) (hij : j ≤ i) (h : (l.take j).all p = false) : (l.take i).all p = false := by
 rw [List.all_eq_false] at h ⊢
 obtain ⟨x, hx, hp⟩ := h
 refine ⟨x, ?_, hp⟩
 obtain ⟨k, hk⟩ := List.mem_iff_getElem?.1 hx
 rw [List.getElem?_take] at hk
 split at hk
 ·exact List.mem_iff_getElem?.2 ⟨k, by rw [List.getElem?_take, if_pos (by omega)]; exact hk⟩
 ·cases hk
theorem heap_two0 (w : World) (a b : Obj) : ((w.alloc a).alloc b).heap[w.heap.size]? = some a := by
 rw [heap_alloc_old (w.alloc a) b (by simp)]
 exact heap_alloc_new w a
theorem rkind_at {c : Cf} {j : Nat} {x : Rs} (h : c.ress[j]? = some x) : rkind c (j : Int) = x.kind := by simp [rkind, h]
theorem rlink_at {c : Cf} {j : Nat} {x : Rs} (h : c.ress[j]? = some x) : rlink c (j : Int) = x.link := by simp [rlink, h]
theorem isId_nat {j n : Nat} (h : j < n) : isId (j : Int) n = true := by simp [isId]; omega
def Ans (w : World) (b : Bool) (e : Ending) (w' : World) : Prop := e = .returned (.bool b) ∧ Below w.heap.size w w'
theorem heap_two (w : World) (a b : Obj) : ((w.alloc a).alloc b).heap[w.heap.size + 1]? = some b := by
 have := heap_alloc_new (w.alloc a) b
 rwa [show (w.alloc a).heap.size = w.heap.size + 1 by simp] at this
theorem heap_over (w : World) (o : Obj) {g : Nat} {x : Obj} (h : w.heap[g]? = some x) : (w.alloc o).heap[g]? = some x := by rw [heap_alloc_old w o (heap_lt h)]; exact h
theorem rs_at {w : World} {c : Cf} {v : Vs} (h : CfAt w c v) {j : Nat} {x : Rs} (hj : c.ress[j]? = some x) : ∃ (g off : Nat), v.r.a = some ⟨g, off, none⟩ ∧ g < w.heap.size ∧ w.cell? ⟨g, off + j * 3, none⟩ = some (S x.name) ∧ w.cell? ⟨g, off + j * 3 + 1, none⟩ = some (I x.kind) ∧ w.cell? ⟨g, off + j * 3 + 2, none⟩ = some (I x.link) := by
 obtain ⟨g, off, e, hg, hr⟩ := h.r.row j x hj
 obtain ⟨u0, a0, b0⟩ := hr 0 (by omega)
 have e0 : u0 = S x.name := b0
 rw [e0] at a0
 obtain ⟨u1, a1, b1⟩ := hr 1 (by omega)
 have e1 : u1 = I x.kind := b1
 rw [e1] at a1
 obtain ⟨u2, a2, b2⟩ := hr 2 (by omega)
 have e2 : u2 = I x.link := b2
 rw [e2] at a2
 rw [Nat.add_zero] at a0
 exact ⟨g, off, e, hg, a0, a1, a2⟩
theorem ev_at {w : World} {c : Cf} {v : Vs} (h : CfAt w c v) {j : Nat} {x : Ev} (hj : c.evs[j]? = some x) : ∃ (g off : Nat), v.e.a = some ⟨g, off, none⟩ ∧ g < w.heap.size ∧ w.cell? ⟨g, off + j * 3, none⟩ = some (S x.name) ∧ w.cell? ⟨g, off + j * 3 + 1, none⟩ = some (.int .u32 (x.mask : Int)) ∧ w.cell? ⟨g, off + j * 3 + 2, none⟩ = some (.bool x.auto) := by
 obtain ⟨g, off, e, hg, hr⟩ := h.e.row j x hj
 obtain ⟨u0, a0, b0⟩ := hr 0 (by omega)
 have e0 : u0 = S x.name := b0
 rw [e0] at a0
 obtain ⟨u1, a1, b1⟩ := hr 1 (by omega)
 have e1 : u1 = .int .u32 (x.mask : Int) := b1
 rw [e1] at a1
 obtain ⟨u2, a2, b2⟩ := hr 2 (by omega)
 have e2 : u2 = .bool x.auto := b2
 rw [e2] at a2
 rw [Nat.add_zero] at a0
 exact ⟨g, off, e, hg, a0, a1, a2⟩
theorem ct_at {w : World} {c : Cf} {v : Vs} (h : CfAt w c v) {j : Nat} {x : Ct} (hj : c.ctrs[j]? = some x) : ∃ (g off : Nat), v.k.a = some ⟨g, off, none⟩ ∧ g < w.heap.size ∧ w.cell? ⟨g, off + j * 4, none⟩ = some (S x.name) ∧ w.cell? ⟨g, off + j * 4 + 1, none⟩ = some (.int .u32 (x.max : Int)) ∧ w.cell? ⟨g, off + j * 4 + 2, none⟩ = some (.int .u32 (x.base : Int)) ∧ w.cell? ⟨g, off + j * 4 + 3, none⟩ = some (.int .u32 (x.min : Int)) := by
 obtain ⟨g, off, e, hg, hr⟩ := h.k.row j x hj
 obtain ⟨u0, a0, b0⟩ := hr 0 (by omega)
 have e0 : u0 = S x.name := b0
 rw [e0] at a0
 obtain ⟨u1, a1, b1⟩ := hr 1 (by omega)
 have e1 : u1 = .int .u32 (x.max : Int) := b1
 rw [e1] at a1
 obtain ⟨u2, a2, b2⟩ := hr 2 (by omega)
 have e2 : u2 = .int .u32 (x.base : Int) := b2
 rw [e2] at a2
 obtain ⟨u3, a3, b3⟩ := hr 3 (by omega)
 have e3 : u3 = .int .u32 (x.min : Int) := b3
 rw [e3] at a3
 rw [Nat.add_zero] at a0
 exact ⟨g, off, e, hg, a0, a1, a2, a3⟩
theorem tk_at {w : World} {c : Cf} {v : Vs} (h : CfAt w c v) {j : Nat} {x : Tk} (hj : c.tasks[j]? = some x) : ∃ (g off : Nat) (s4 s5 s6 s7 : Sl), v.t.a = some ⟨g, off, none⟩ ∧ g < w.heap.size ∧ w.cell? ⟨g, off + j * 8, none⟩ = some (S x.name) ∧ w.cell? ⟨g, off + j * 8 + 1, none⟩ = some (I x.prio) ∧ w.cell? ⟨g, off + j * 8 + 2, none⟩ = some (.bool x.full) ∧ w.cell? ⟨g, off + j * 8 + 3, none⟩ = some (I x.act) ∧ w.cell? ⟨g, off + j * 8 + 4, none⟩ = some (.slice s4.a s4.n s4.c) ∧ w.cell? ⟨g, off + j * 8 + 5, none⟩ = some (.slice s5.a s5.n s5.c) ∧ w.cell? ⟨g, off + j * 8 + 6, none⟩ = some (.slice s6.a s6.n s6.c) ∧ w.cell? ⟨g, off + j * 8 + 7, none⟩ = some (.slice s7.a s7.n s7.c) ∧ RowsAt w 1 intP s4 x.auto ∧ RowsAt w 1 intP s5 x.res ∧ RowsAt w 1 intP s6 x.evs ∧ RowsAt w 1 intP s7 x.msgs := by
 obtain ⟨g, off, e, hg, hr⟩ := h.t.row j x hj
 obtain ⟨u0, a0, b0⟩ := hr 0 (by omega)
 have e0 : u0 = S x.name := b0
 rw [e0] at a0
 obtain ⟨u1, a1, b1⟩ := hr 1 (by omega)
 have e1 : u1 = I x.prio := b1
 rw [e1] at a1
 obtain ⟨u2, a2, b2⟩ := hr 2 (by omega)
 have e2 : u2 = .bool x.full := b2
 rw [e2] at a2
 obtain ⟨u3, a3, b3⟩ := hr 3 (by omega)
 have e3 : u3 = I x.act := b3
 rw [e3] at a3
 obtain ⟨u4, a4, b4⟩ := hr 4 (by omega)
 obtain ⟨s4, e4, r4⟩ := (show IntsV w x.auto u4 from b4)
 rw [e4] at a4
 obtain ⟨u5, a5, b5⟩ := hr 5 (by omega)
 obtain ⟨s5, e5, r5⟩ := (show IntsV w x.res u5 from b5)
 rw [e5] at a5
 obtain ⟨u6, a6, b6⟩ := hr 6 (by omega)
 obtain ⟨s6, e6, r6⟩ := (show IntsV w x.evs u6 from b6)
 rw [e6] at a6
 obtain ⟨u7, a7, b7⟩ := hr 7 (by omega)
 obtain ⟨s7, e7, r7⟩ := (show IntsV w x.msgs u7 from b7)
 rw [e7] at a7
 rw [Nat.add_zero] at a0
 exact ⟨g, off, s4, s5, s6, s7, e, hg, a0, a1, a2, a3, a4, a5, a6, a7, r4, r5, r6, r7⟩
theorem al_at {w : World} {c : Cf} {v : Vs} (h : CfAt w c v) {j : Nat} {x : Al} (hj : c.als[j]? = some x) : ∃ (g off : Nat) (s6 : Sl), v.a.a = some ⟨g, off, none⟩ ∧ g < w.heap.size ∧ w.cell? ⟨g, off + j * 9, none⟩ = some (S x.name) ∧ w.cell? ⟨g, off + j * 9 + 1, none⟩ = some (I x.ctr) ∧ w.cell? ⟨g, off + j * 9 + 2, none⟩ = some (I x.ac.kind) ∧ w.cell? ⟨g, off + j * 9 + 3, none⟩ = some (I x.ac.task) ∧ w.cell? ⟨g, off + j * 9 + 4, none⟩ = some (I x.ac.event) ∧ w.cell? ⟨g, off + j * 9 + 5, none⟩ = some (S x.ac.name) ∧ w.cell? ⟨g, off + j * 9 + 6, none⟩ = some (.slice s6.a s6.n s6.c) ∧ w.cell? ⟨g, off + j * 9 + 7, none⟩ = some (.int .u32 (x.time : Int)) ∧ w.cell? ⟨g, off + j * 9 + 8, none⟩ = some (.int .u32 (x.cycle : Int)) ∧ RowsAt w 1 intP s6 x.auto := by
 obtain ⟨g, off, e, hg, hr⟩ := h.a.row j x hj
 obtain ⟨u0, a0, b0⟩ := hr 0 (by omega)
 have e0 : u0 = S x.name := b0
 rw [e0] at a0
 obtain ⟨u1, a1, b1⟩ := hr 1 (by omega)
 have e1 : u1 = I x.ctr := b1
 rw [e1] at a1
 obtain ⟨u2, a2, b2⟩ := hr 2 (by omega)
 have e2 : u2 = I x.ac.kind := b2
 rw [e2] at a2
 obtain ⟨u3, a3, b3⟩ := hr 3 (by omega)
 have e3 : u3 = I x.ac.task := b3
 rw [e3] at a3
 obtain ⟨u4, a4, b4⟩ := hr 4 (by omega)
 have e4 : u4 = I x.ac.event := b4
 rw [e4] at a4
 obtain ⟨u5, a5, b5⟩ := hr 5 (by omega)
 have e5 : u5 = S x.ac.name := b5
 rw [e5] at a5
 obtain ⟨u6, a6, b6⟩ := hr 6 (by omega)
 obtain ⟨s6, e6, r6⟩ := (show IntsV w x.auto u6 from b6)
 rw [e6] at a6
 obtain ⟨u7, a7, b7⟩ := hr 7 (by omega)
 have e7 : u7 = .int .u32 (x.time : Int) := b7
 rw [e7] at a7
 obtain ⟨u8, a8, b8⟩ := hr 8 (by omega)
 have e8 : u8 = .int .u32 (x.cycle : Int) := b8
 rw [e8] at a8
 rw [Nat.add_zero] at a0
 exact ⟨g, off, s6, e, hg, a0, a1, a2, a3, a4, a5, a6, a7, a8, r6⟩
theorem is_at {w : World} {c : Cf} {v : Vs} (h : CfAt w c v) {j : Nat} {x : Is} (hj : c.isrs[j]? = some x) : ∃ (g off : Nat) (s3 s4 : Sl), v.i.a = some ⟨g, off, none⟩ ∧ g < w.heap.size ∧ w.cell? ⟨g, off + j * 5, none⟩ = some (S x.name) ∧ w.cell? ⟨g, off + j * 5 + 1, none⟩ = some (I x.cat) ∧ w.cell? ⟨g, off + j * 5 + 2, none⟩ = some (I x.prio) ∧ w.cell? ⟨g, off + j * 5 + 3, none⟩ = some (.slice s3.a s3.n s3.c) ∧ w.cell? ⟨g, off + j * 5 + 4, none⟩ = some (.slice s4.a s4.n s4.c) ∧ RowsAt w 1 intP s3 x.res ∧ RowsAt w 1 intP s4 x.msgs := by
 obtain ⟨g, off, e, hg, hr⟩ := h.i.row j x hj
 obtain ⟨u0, a0, b0⟩ := hr 0 (by omega)
 have e0 : u0 = S x.name := b0
 rw [e0] at a0
 obtain ⟨u1, a1, b1⟩ := hr 1 (by omega)
 have e1 : u1 = I x.cat := b1
 rw [e1] at a1
 obtain ⟨u2, a2, b2⟩ := hr 2 (by omega)
 have e2 : u2 = I x.prio := b2
 rw [e2] at a2
 obtain ⟨u3, a3, b3⟩ := hr 3 (by omega)
 obtain ⟨s3, e3, r3⟩ := (show IntsV w x.res u3 from b3)
 rw [e3] at a3
 obtain ⟨u4, a4, b4⟩ := hr 4 (by omega)
 obtain ⟨s4, e4, r4⟩ := (show IntsV w x.msgs u4 from b4)
 rw [e4] at a4
 rw [Nat.add_zero] at a0
 exact ⟨g, off, s3, s4, e, hg, a0, a1, a2, a3, a4, r3, r4⟩
theorem ms_at {w : World} {c : Cf} {v : Vs} (h : CfAt w c v) {j : Nat} {x : Ms} (hj : c.msgs[j]? = some x) : ∃ (g off : Nat), v.s.a = some ⟨g, off, none⟩ ∧ g < w.heap.size ∧ w.cell? ⟨g, off + j * 10, none⟩ = some (S x.name) ∧ w.cell? ⟨g, off + j * 10 + 1, none⟩ = some (I x.kind) ∧ w.cell? ⟨g, off + j * 10 + 2, none⟩ = some (I x.len) ∧ w.cell? ⟨g, off + j * 10 + 3, none⟩ = some (I x.frm) ∧ w.cell? ⟨g, off + j * 10 + 4, none⟩ = some (.int .u64 (x.init : Int)) ∧ w.cell? ⟨g, off + j * 10 + 5, none⟩ = some (I x.queue) ∧ w.cell? ⟨g, off + j * 10 + 6, none⟩ = some (I x.ac.kind) ∧ w.cell? ⟨g, off + j * 10 + 7, none⟩ = some (I x.ac.task) ∧ w.cell? ⟨g, off + j * 10 + 8, none⟩ = some (I x.ac.event) ∧ w.cell? ⟨g, off + j * 10 + 9, none⟩ = some (S x.ac.name) := by
 obtain ⟨g, off, e, hg, hr⟩ := h.s.row j x hj
 obtain ⟨u0, a0, b0⟩ := hr 0 (by omega)
 have e0 : u0 = S x.name := b0
 rw [e0] at a0
 obtain ⟨u1, a1, b1⟩ := hr 1 (by omega)
 have e1 : u1 = I x.kind := b1
 rw [e1] at a1
 obtain ⟨u2, a2, b2⟩ := hr 2 (by omega)
 have e2 : u2 = I x.len := b2
 rw [e2] at a2
 obtain ⟨u3, a3, b3⟩ := hr 3 (by omega)
 have e3 : u3 = I x.frm := b3
 rw [e3] at a3
 obtain ⟨u4, a4, b4⟩ := hr 4 (by omega)
 have e4 : u4 = .int .u64 (x.init : Int) := b4
 rw [e4] at a4
 obtain ⟨u5, a5, b5⟩ := hr 5 (by omega)
 have e5 : u5 = I x.queue := b5
 rw [e5] at a5
 obtain ⟨u6, a6, b6⟩ := hr 6 (by omega)
 have e6 : u6 = I x.ac.kind := b6
 rw [e6] at a6
 obtain ⟨u7, a7, b7⟩ := hr 7 (by omega)
 have e7 : u7 = I x.ac.task := b7
 rw [e7] at a7
 obtain ⟨u8, a8, b8⟩ := hr 8 (by omega)
 have e8 : u8 = I x.ac.event := b8
 rw [e8] at a8
 obtain ⟨u9, a9, b9⟩ := hr 9 (by omega)
 have e9 : u9 = S x.ac.name := b9
 rw [e9] at a9
 rw [Nat.add_zero] at a0
 exact ⟨g, off, e, hg, a0, a1, a2, a3, a4, a5, a6, a7, a8, a9⟩
end Go.Proofs.YtpbnpmeigdjfdaaGreatDoor.Ce
namespace Go.Proofs.YtpbnpmeigdjfdaaGreatDoor.Ce
set_option linter.unusedSimpArgs false
set_option linter.unusedVariables false
set_option maxHeartbeats 16000000
set_option maxRecDepth 100000
def rootN (c : Cf) (r : Int) : Int := rootF c c.ress.length r
theorem root_end {c : Cf} {r : Int} (h : isId r c.ress.length = true) (hk : rkind c r ≠ 2) : rootN c r = r := by
 unfold rootN
 have hn : 0 < c.ress.length := by simp [isId] at h; omega
 obtain ⟨m, hm⟩ : ∃ m, c.ress.length = m + 1 := ⟨c.ress.length - 1, by omega⟩
 have e : rootF c c.ress.length r = if isId r c.ress.length = true then (if rkind c r = 2 then rootF c m (rlink c r) else r) else -1 := by
  rw [show rootF c c.ress.length r = rootF c (m + 1) r by rw [hm], rootF]
 rw [e, if_pos h, if_neg hk]
theorem root_step {c : Cf} {r : Int} (h : isId r c.ress.length = true) (hk : rkind c r = 2) : rootN c r = rootN c (rlink c r) := by
 unfold rootN
 rw [← rootF_more c r, rootF, if_pos h, if_pos hk]
def Chain (c : Cf) : List Int → Int → Prop
 | [], _ => True
 | [x], z => isId x c.ress.length = true ∧ rkind c x = 2 ∧ rlink c x = z
 | x :: y :: r, z => isId x c.ress.length = true ∧ rkind c x = 2 ∧ rlink c x = y ∧ Chain c (y :: r) z
theorem chain_snoc {c : Cf} {l : List Int} {z : Int} (h : Chain c l z) (hz : isId z c.ress.length = true) (hk : rkind c z = 2) : Chain c (l ++ [z]) (rlink c z) := by
 induction l with
 | nil => exact ⟨hz, hk, rfl⟩
 | cons x r ih =>
  cases r with
  | nil => exact ⟨h.1, h.2.1, h.2.2, hz, hk, rfl⟩
  | cons y r => exact ⟨h.1, h.2.1, h.2.2.1, ih h.2.2.2⟩
theorem chain_linked {c : Cf} {l : List Int} {z : Int} (h : Chain c l z) : ∀ x ∈ l, isId x c.ress.length = true ∧ rkind c x = 2 ∧ (rlink c x ∈ l ∨ rlink c x = z) := by
 induction l with
 | nil => intro x hx; cases hx
 | cons y r ih =>
  intro x hx
  cases r with
  | nil =>
   obtain rfl := List.mem_singleton.1 hx
   exact ⟨h.1, h.2.1, .inr h.2.2⟩
  | cons u r =>
   rcases List.mem_cons.1 hx with rfl | hx
   ·exact ⟨h.1, h.2.1, .inl (by rw [h.2.2.1]; simp)⟩
   ·obtain ⟨a, b, d⟩ := ih h.2.2.2 x hx
    exact ⟨a, b, d.imp (fun h => List.mem_cons_of_mem _ h) id⟩
theorem chain_root {c : Cf} {l : List Int} {z : Int} (h : Chain c l z) : ∀ x ∈ l, rootN c x = rootN c z := by
 induction l with
 | nil => intro x hx; cases hx
 | cons y r ih =>
  intro x hx
  cases r with
  | nil =>
   obtain rfl := List.mem_singleton.1 hx
   rw [root_step h.1 h.2.1, h.2.2]
  | cons u r =>
   rcases List.mem_cons.1 hx with rfl | hx
   ·rw [root_step h.1 h.2.1, h.2.2.1]
    exact ih h.2.2.2 u (by simp)
   ·exact ih h.2.2.2 x hx
theorem closed_never {c : Cf} {l : List Int} (h : ∀ x ∈ l, isId x c.ress.length = true ∧ rkind c x = 2 ∧ rlink c x ∈ l) : ∀ (f : Nat) (x : Int), x ∈ l → rootF c f x = -1
 | 0, x, _ => rfl
 | f + 1, x, hx => by
  obtain ⟨a, b, d⟩ := h x hx
  rw [rootF, if_pos a, if_pos b]
  exact closed_never h f _ d
theorem chain_ring {c : Cf} {l : List Int} {z : Int} (h : Chain c l z) (hz : z ∈ l) : ∀ x ∈ l, rootN c x = -1 := fun x hx =>
 closed_never (fun y hy => by
  obtain ⟨a, b, d⟩ := chain_linked h y hy
  exact ⟨a, b, d.elim id (fun e => by rw [e]; exact hz)⟩) _ x hx
theorem root_range (c : Cf) (r : Int) : rootN c r = -1 ∨ (0 ≤ rootN c r ∧ rootN c r < c.ress.length) := by
 have h1 := rootF_lt c c.ress.length r
 have h2 : ∀ (f : Nat) (r : Int), rootF c f r = -1 ∨ 0 ≤ rootF c f r := by
  intro f
  induction f with
  | zero => intro r; exact .inl rfl
  | succ f ih =>
   intro r
   rw [rootF]
   split
   ·rename_i h
    split
    ·exact ih _
    ·exact .inr (by simp [isId] at h; exact h.1)
   ·exact .inl rfl
 rcases h2 c.ress.length r with h | h
 ·exact .inl h
 ·exact .inr ⟨h, h1⟩
theorem nodup_len {l : List Nat} {n : Nat} (hd : l.Nodup) (hl : ∀ x ∈ l, x < n) : l.length ≤ n := by
 by_cases h : l.length ≤ n
 ·exact h
 ·exfalso
  obtain ⟨i, j, hij, hjn, e⟩ := pigeon n (fun k => l.getD k 0) (fun k hk => by
   have hk2 : k < l.length := by omega
   show l.getD k 0 < n
   rw [List.getD_eq_getElem?_getD, List.getElem?_eq_getElem hk2]
   exact hl _ (List.getElem_mem hk2))
  have hi2 : i < l.length := by omega
  have hj2 : j < l.length := by omega
  have e2 : l[i] = l[j] := by
   have e3 : l.getD i 0 = l.getD j 0 := e
   rw [List.getD_eq_getElem?_getD, List.getD_eq_getElem?_getD, List.getElem?_eq_getElem hi2, List.getElem?_eq_getElem hj2] at e3
   exact e3
  exact List.pairwise_iff_getElem.1 hd i j hi2 hj2 hij e2
end Go.Proofs.YtpbnpmeigdjfdaaGreatDoor.Ce
