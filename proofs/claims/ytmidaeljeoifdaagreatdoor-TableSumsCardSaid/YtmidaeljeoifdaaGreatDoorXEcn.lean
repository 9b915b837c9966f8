import Derived.Test.YtmidaeljeoifdaaGreatDoorXKrb
import Derived.Maps.OwnSet
import Derived.Maps.OwnOps
import Derived.Deep.Cut
namespace Go.Proofs.YtmidaeljeoifdaaGreatDoor.Ce
open Go.RowKit
set_option linter.unusedSimpArgs false
set_option linter.unusedVariables false
set_option maxHeartbeats 16000000
set_option maxRecDepth 100000
theorem qa3 {k : IntKind} {a b : Int} (h : a = b) : Ending.returned (.int k a) = .returned (.int k b) := by rw [h]
theorem qa4 {a b : Bool} (h : a = b) : Ending.returned (.bool a) = .returned (.bool b) := by rw [h]
def inR (v a b : Int) : Bool := decide (a ≤ v) && decide (v ≤ b)
def isId (v n : Int) : Bool := decide (0 ≤ v) && decide (v < n)
theorem qau {w : World} {s : Sl} {l : List Int} (h : RowsAt w 1 intP s l) {j : Nat} {x : Int} (hj : l[j]? = some x) : ∃ g off,s.a = some ⟨g,off,none⟩ ∧ g < w.heap.size ∧ w.cell? ⟨g,off + j,none⟩ = some (I x) := by
 obtain ⟨g,off,e,hg,hr⟩ := h.row j x hj
 obtain ⟨u,h1,h2⟩ := hr 0 (by omega)
 refine ⟨g,off,e,hg, ?_⟩
 rw [show off + j * 1 + 0 = off + j by omega] at h1
 rw [h1,h2]
def risF (a : Int) (l : List Int) (n : Int) : Bool := match l with
 | [] => true
 | x :: r => isId x n && decide (a < x) && risF x r n
def rkind (c : Cf) (r : Int) : Int := match c.ress[r.toNat]? with | some x => x.kind | none => 0
def rlink (c : Cf) (r : Int) : Int := match c.ress[r.toNat]? with | some x => x.link | none => 0
def rootF (c : Cf) : Nat → Int → Int
 | 0,_ => -1
 | f + 1,r => if isId r c.ress.length = true then (if rkind c r = 2 then rootF c f (rlink c r) else r) else -1
theorem qbt (c : Cf) : ∀ (f : Nat) (r : Int),rootF c f r < c.ress.length
 | 0,r => by rw [rootF]; omega
 | f + 1,r => by
  rw [rootF]
  split
  ·rename_i h
   split
   ·exact qbt c f _
   ·simp [isId] at h; exact h.2
  ·omega
theorem qe3 : ∀ (n : Nat) (f : Nat → Nat),(∀ k,k ≤ n → f k < n) → ∃ i j,i < j ∧ j ≤ n ∧ f i = f j
 | 0,f,h => absurd (h 0 (Nat.le_refl 0)) (Nat.not_lt_zero _)
 | n + 1,f,h => by
  by_cases hv : ∃ i,i ≤ n ∧ f i = f (n + 1)
  ·obtain ⟨i,hi,e⟩ := hv
   exact ⟨i,n + 1,by omega,Nat.le_refl _,e⟩
  ·have hne : ∀ i,i ≤ n → f i ≠ f (n + 1) := fun i hi e => hv ⟨i,hi,e⟩
   have hvl := h (n + 1) (Nat.le_refl _)
   obtain ⟨i,j,hij,hjn,e⟩ := qe3 n (fun k => if f k = n then f (n + 1) else f k) (fun k hk => by
    have h1 := h k (by omega)
    have h2 := hne k hk
    split <;> omega)
   have h1 := hne i (by omega)
   have h2 := hne j hjn
   refine ⟨i,j,hij,by omega, ?_⟩
   split at e <;> split at e <;> omega
def goes (c : Cf) (r : Int) : Bool := isId r c.ress.length && rkind c r == 2
def iter (c : Cf) : Nat → Int → Int
 | 0,r => r
 | k + 1,r => iter c k (rlink c r)
theorem qdn (c : Cf) (a b : Nat) (r : Int) : iter c (a + b) r = iter c b (iter c a r) := by
 induction a generalizing r with
 | zero => rw [Nat.zero_add]; rfl
 | succ a ih => rw [show a + 1 + b = (a + b) + 1 by omega,iter,iter,ih]
theorem qca (c : Cf) : ∀ (f : Nat) (r : Int),(∀ k,k < f → goes c (iter c k r) = true) → rootF c f r = -1
 | 0,r,_ => rfl
 | f + 1,r,h => by
  have h0 : goes c r = true := h 0 (by omega)
  simp [goes] at h0
  rw [rootF,if_pos h0.1,if_pos h0.2]
  exact qca c f _ (fun k hk => h (k + 1) (by omega))
theorem qd0 (c : Cf) : ∀ (f g : Nat) (r : Int) (k : Nat),k < f → k < g → goes c (iter c k r) = false → rootF c f r = rootF c g r
 | 0,_,_,_,h,_,_ => absurd h (Nat.not_lt_zero _)
 | _,0,_,_,_,h,_ => absurd h (Nat.not_lt_zero _)
 | f + 1,g + 1,r,k,hf,hg,hk => by
  rw [rootF,rootF]
  split
  ·split
   ·cases k with
    | zero =>
     rename_i h1 h2
     have : goes c r = false := hk
     simp [goes,h1,h2] at this
    | succ k => exact qd0 c f g _ k (by omega) (by omega) hk
   ·rfl
  ·rfl
theorem qeg (c : Cf) (r : Int) : rootF c (c.ress.length + 1) r = rootF c c.ress.length r := by
 by_cases h : ∃ k,k < c.ress.length ∧ goes c (iter c k r) = false
 ·obtain ⟨k,hk,hg⟩ := h
  exact qd0 c _ _ r k (by omega) hk hg
 ·have hall : ∀ k,k < c.ress.length → goes c (iter c k r) = true := fun k hk => by
   cases hg : goes c (iter c k r) with
   | true => rfl
   | false => exact absurd ⟨k,hk,hg⟩ h
  rw [qca c c.ress.length r hall]
  by_cases hn : isId (iter c c.ress.length r) c.ress.length = true
  ·have hid : ∀ k,k ≤ c.ress.length → isId (iter c k r) c.ress.length = true := fun k hk => by
    by_cases e : k < c.ress.length
    ·have := hall k e
     simp [goes] at this
     exact this.1
    ·obtain rfl : k = c.ress.length := by omega
     exact hn
   have hnn : ∀ k,k ≤ c.ress.length → 0 ≤ iter c k r ∧ iter c k r < c.ress.length := fun k hk => by
    have := hid k hk
    simpa [isId] using this
   obtain ⟨i,j,hij,hjn,e⟩ := qe3 c.ress.length (fun k => (iter c k r).toNat) (fun k hk => by have := hnn k hk; omega)
   have e2 : iter c i r = iter c j r := by
    have h1 := hnn i (by omega)
    have h2 := hnn j hjn
    omega
   have e3 : iter c (i + (c.ress.length - j)) r = iter c c.ress.length r := by
    rw [qdn,e2, ← qdn]
    congr 1
    omega
   have h4 := hall (i + (c.ress.length - j)) (by omega)
   refine qca c _ r (fun k hk => ?_)
   by_cases ek : k < c.ress.length
   ·exact hall k ek
   ·obtain rfl : k = c.ress.length := by omega
    rw [← e3]
    exact h4
  ·obtain ⟨m,hm⟩ : ∃ m,m = c.ress.length := ⟨_,rfl⟩
   have key : ∀ (f : Nat) (q : Int),(∀ k,k < f → goes c (iter c k q) = true) → isId (iter c f q) c.ress.length = false → rootF c (f + 1) q = -1 := by
    intro f
    induction f with
    | zero =>
     intro q _ hq
     have hq' : isId q c.ress.length = false := hq
     rw [rootF,if_neg (by rw [hq']; decide)]
    | succ f ih =>
     intro q hk hq
     have h0 : goes c q = true := hk 0 (by omega)
     simp [goes] at h0
     rw [rootF,if_pos h0.1,if_pos h0.2]
     exact ih _ (fun k hk2 => hk (k + 1) (by omega)) hq
   exact key _ r hall (by simpa using hn)
def intN (c : Cf) (l : List Int) : Nat := (l.filter (fun x => rkind c x == 3)).length
theorem qba {a n : Int} {l : List Int} (h : risF a l n = true) : ∀ x ∈ l,isId x n = true := by
 induction l generalizing a with
 | nil => intro x hx; cases hx
 | cons y r ih =>
  rw [risF] at h
  simp at h
  intro x hx
  rcases List.mem_cons.1 hx with rfl | hx
  ·exact h.1.1
  ·exact ih h.2 x hx
theorem qdt (c : Cf) (l : List Int) (j : Nat) (x : Int) (hx : l[j]? = some x) : intN c (l.take (j + 1)) = intN c (l.take j) + (if rkind c x == 3 then 1 else 0) := by
 unfold intN
 rw [List.take_add_one,hx,Option.toList_some,List.filter_append,List.length_append]
 congr 1
 simp only [List.filter_cons,List.filter_nil]
 split <;> simp
theorem qbu {α : Type} (p : α → Bool) (l : List α) (j : Nat) (x : α) (hx : l[j]? = some x) : (l.take (j + 1)).all p = ((l.take j).all p && p x) := by
 rw [List.take_add_one,hx,Option.toList_some,List.all_append]
 simp
theorem qf4 {α : Type} (p : α → Bool) (l : List α) (i j : Nat) (hij : j ≤ i) (h : (l.take j).all p = false) : (l.take i).all p = false := by
 rw [List.all_eq_false] at h ⊢
 obtain ⟨x,hx,hp⟩ := h
 refine ⟨x, ?_,hp⟩
 obtain ⟨k,hk⟩ := List.mem_iff_getElem?.1 hx
 rw [List.getElem?_take] at hk
 split at hk
 ·exact List.mem_iff_getElem?.2 ⟨k,by rw [List.getElem?_take,if_pos (by omega)]; exact hk⟩
 ·cases hk
theorem qar (w : World) (a b : Obj) : ((w.alloc a).alloc b).heap[w.heap.size]? = some a := by
 rw [heap_alloc_old (w.alloc a) b (by simp)]
 exact heap_alloc_new w a
theorem qcb {c : Cf} {j : Nat} {x : Rs} (h : c.ress[j]? = some x) : rkind c (j : Int) = x.kind := by simp [rkind,h]
theorem qkm {c : Cf} {j : Nat} {x : Rs} (h : c.ress[j]? = some x) : rlink c (j : Int) = x.link := by simp [rlink,h]
theorem qeh {j n : Nat} (h : j < n) : isId (j : Int) n = true := by simp [isId]; omega
def Ans (w : World) (b : Bool) (e : Ending) (w' : World) : Prop := e = .returned (.bool b) ∧ Below w.heap.size w w'
theorem qaj (w : World) (a b : Obj) : ((w.alloc a).alloc b).heap[w.heap.size + 1]? = some b := by
 have := heap_alloc_new (w.alloc a) b
 rwa [show (w.alloc a).heap.size = w.heap.size + 1 by simp] at this
theorem qad (w : World) (o : Obj) {g : Nat} {x : Obj} (h : w.heap[g]? = some x) : (w.alloc o).heap[g]? = some x := by rw [heap_alloc_old w o (qa1 h)]; exact h
theorem qb5 {w : World} {c : Cf} {v : Vs} (h : CfAt w c v) {j : Nat} {x : Rs} (hj : c.ress[j]? = some x) : ∃ (g off : Nat),v.r.a = some ⟨g,off,none⟩ ∧ g < w.heap.size ∧ w.cell? ⟨g,off + j * 3,none⟩ = some (S x.name) ∧ w.cell? ⟨g,off + j * 3 + 1,none⟩ = some (I x.kind) ∧ w.cell? ⟨g,off + j * 3 + 2,none⟩ = some (I x.link) := by
 obtain ⟨g,off,e,hg,hr⟩ := h.r.row j x hj
 obtain ⟨u0,a0,b0⟩ := hr 0 (by omega)
 have e0 : u0 = S x.name := b0
 rw [e0] at a0
 obtain ⟨u1,a1,b1⟩ := hr 1 (by omega)
 have e1 : u1 = I x.kind := b1
 rw [e1] at a1
 obtain ⟨u2,a2,b2⟩ := hr 2 (by omega)
 have e2 : u2 = I x.link := b2
 rw [e2] at a2
 rw [Nat.add_zero] at a0
 exact ⟨g,off,e,hg,a0,a1,a2⟩
theorem qbj {w : World} {c : Cf} {v : Vs} (h : CfAt w c v) {j : Nat} {x : Tk} (hj : c.tasks[j]? = some x) : ∃ (g off : Nat) (s4 s5 s6 s7 : Sl),v.t.a = some ⟨g,off,none⟩ ∧ g < w.heap.size ∧ w.cell? ⟨g,off + j * 8,none⟩ = some (S x.name) ∧ w.cell? ⟨g,off + j * 8 + 1,none⟩ = some (I x.prio) ∧ w.cell? ⟨g,off + j * 8 + 2,none⟩ = some (.bool x.full) ∧ w.cell? ⟨g,off + j * 8 + 3,none⟩ = some (I x.act) ∧ w.cell? ⟨g,off + j * 8 + 4,none⟩ = some (.slice s4.a s4.n s4.c) ∧ w.cell? ⟨g,off + j * 8 + 5,none⟩ = some (.slice s5.a s5.n s5.c) ∧ w.cell? ⟨g,off + j * 8 + 6,none⟩ = some (.slice s6.a s6.n s6.c) ∧ w.cell? ⟨g,off + j * 8 + 7,none⟩ = some (.slice s7.a s7.n s7.c) ∧ RowsAt w 1 intP s4 x.auto ∧ RowsAt w 1 intP s5 x.res ∧ RowsAt w 1 intP s6 x.evs ∧ RowsAt w 1 intP s7 x.msgs := by
 obtain ⟨g,off,e,hg,hr⟩ := h.t.row j x hj
 obtain ⟨u0,a0,b0⟩ := hr 0 (by omega)
 have e0 : u0 = S x.name := b0
 rw [e0] at a0
 obtain ⟨u1,a1,b1⟩ := hr 1 (by omega)
 have e1 : u1 = I x.prio := b1
 rw [e1] at a1
 obtain ⟨u2,a2,b2⟩ := hr 2 (by omega)
 have e2 : u2 = .bool x.full := b2
 rw [e2] at a2
 obtain ⟨u3,a3,b3⟩ := hr 3 (by omega)
 have e3 : u3 = I x.act := b3
 rw [e3] at a3
 obtain ⟨u4,a4,b4⟩ := hr 4 (by omega)
 obtain ⟨s4,e4,r4⟩ := (show IntsV w x.auto u4 from b4)
 rw [e4] at a4
 obtain ⟨u5,a5,b5⟩ := hr 5 (by omega)
 obtain ⟨s5,e5,r5⟩ := (show IntsV w x.res u5 from b5)
 rw [e5] at a5
 obtain ⟨u6,a6,b6⟩ := hr 6 (by omega)
 obtain ⟨s6,e6,r6⟩ := (show IntsV w x.evs u6 from b6)
 rw [e6] at a6
 obtain ⟨u7,a7,b7⟩ := hr 7 (by omega)
 obtain ⟨s7,e7,r7⟩ := (show IntsV w x.msgs u7 from b7)
 rw [e7] at a7
 rw [Nat.add_zero] at a0
 exact ⟨g,off,s4,s5,s6,s7,e,hg,a0,a1,a2,a3,a4,a5,a6,a7,r4,r5,r6,r7⟩
theorem qcm {w : World} {c : Cf} {v : Vs} (h : CfAt w c v) {j : Nat} {x : Is} (hj : c.isrs[j]? = some x) : ∃ (g off : Nat) (s3 s4 : Sl),v.i.a = some ⟨g,off,none⟩ ∧ g < w.heap.size ∧ w.cell? ⟨g,off + j * 5,none⟩ = some (S x.name) ∧ w.cell? ⟨g,off + j * 5 + 1,none⟩ = some (I x.cat) ∧ w.cell? ⟨g,off + j * 5 + 2,none⟩ = some (I x.prio) ∧ w.cell? ⟨g,off + j * 5 + 3,none⟩ = some (.slice s3.a s3.n s3.c) ∧ w.cell? ⟨g,off + j * 5 + 4,none⟩ = some (.slice s4.a s4.n s4.c) ∧ RowsAt w 1 intP s3 x.res ∧ RowsAt w 1 intP s4 x.msgs := by
 obtain ⟨g,off,e,hg,hr⟩ := h.i.row j x hj
 obtain ⟨u0,a0,b0⟩ := hr 0 (by omega)
 have e0 : u0 = S x.name := b0
 rw [e0] at a0
 obtain ⟨u1,a1,b1⟩ := hr 1 (by omega)
 have e1 : u1 = I x.cat := b1
 rw [e1] at a1
 obtain ⟨u2,a2,b2⟩ := hr 2 (by omega)
 have e2 : u2 = I x.prio := b2
 rw [e2] at a2
 obtain ⟨u3,a3,b3⟩ := hr 3 (by omega)
 obtain ⟨s3,e3,r3⟩ := (show IntsV w x.res u3 from b3)
 rw [e3] at a3
 obtain ⟨u4,a4,b4⟩ := hr 4 (by omega)
 obtain ⟨s4,e4,r4⟩ := (show IntsV w x.msgs u4 from b4)
 rw [e4] at a4
 rw [Nat.add_zero] at a0
 exact ⟨g,off,s3,s4,e,hg,a0,a1,a2,a3,a4,r3,r4⟩
end Go.Proofs.YtmidaeljeoifdaaGreatDoor.Ce
namespace Go.Proofs.YtmidaeljeoifdaaGreatDoor.Ce
set_option linter.unusedSimpArgs false
set_option linter.unusedVariables false
set_option maxHeartbeats 16000000
set_option maxRecDepth 100000
def rootN (c : Cf) (r : Int) : Int := rootF c c.ress.length r
theorem root_end {c : Cf} {r : Int} (h : isId r c.ress.length = true) (hk : rkind c r ≠ 2) : rootN c r = r := by
 unfold rootN
 have hn : 0 < c.ress.length := by simp [isId] at h; omega
 obtain ⟨m,hm⟩ : ∃ m,c.ress.length = m + 1 := ⟨c.ress.length - 1,by omega⟩
 have e : rootF c c.ress.length r = if isId r c.ress.length = true then (if rkind c r = 2 then rootF c m (rlink c r) else r) else -1 := by
  rw [show rootF c c.ress.length r = rootF c (m + 1) r by rw [hm],rootF]
 rw [e,if_pos h,if_neg hk]
theorem qfb {c : Cf} {r : Int} (h : isId r c.ress.length = true) (hk : rkind c r = 2) : rootN c r = rootN c (rlink c r) := by
 unfold rootN
 rw [← qeg c r,rootF,if_pos h,if_pos hk]
def qej (c : Cf) : List Int → Int → Prop
 | [],_ => True
 | [x],z => isId x c.ress.length = true ∧ rkind c x = 2 ∧ rlink c x = z
 | x :: y :: r,z => isId x c.ress.length = true ∧ rkind c x = 2 ∧ rlink c x = y ∧ qej c (y :: r) z
theorem qnv {c : Cf} {l : List Int} {z : Int} (h : qej c l z) (hz : isId z c.ress.length = true) (hk : rkind c z = 2) : qej c (l ++ [z]) (rlink c z) := by
 induction l with
 | nil => exact ⟨hz,hk,rfl⟩
 | cons x r ih =>
  cases r with
  | nil => exact ⟨h.1,h.2.1,h.2.2,hz,hk,rfl⟩
  | cons y r => exact ⟨h.1,h.2.1,h.2.2.1,ih h.2.2.2⟩
theorem qkq {c : Cf} {l : List Int} {z : Int} (h : qej c l z) : ∀ x ∈ l,isId x c.ress.length = true ∧ rkind c x = 2 ∧ (rlink c x ∈ l ∨ rlink c x = z) := by
 induction l with
 | nil => intro x hx; cases hx
 | cons y r ih =>
  intro x hx
  cases r with
  | nil =>
   obtain rfl := List.mem_singleton.1 hx
   exact ⟨h.1,h.2.1, .inr h.2.2⟩
  | cons u r =>
   rcases List.mem_cons.1 hx with rfl | hx
   ·exact ⟨h.1,h.2.1, .inl (by rw [h.2.2.1]; simp)⟩
   ·obtain ⟨a,b,d⟩ := ih h.2.2.2 x hx
    exact ⟨a,b,d.imp (fun h => List.mem_cons_of_mem _ h) id⟩
theorem qhd {c : Cf} {l : List Int} {z : Int} (h : qej c l z) : ∀ x ∈ l,rootN c x = rootN c z := by
 induction l with
 | nil => intro x hx; cases hx
 | cons y r ih =>
  intro x hx
  cases r with
  | nil =>
   obtain rfl := List.mem_singleton.1 hx
   rw [qfb h.1 h.2.1,h.2.2]
  | cons u r =>
   rcases List.mem_cons.1 hx with rfl | hx
   ·rw [qfb h.1 h.2.1,h.2.2.1]
    exact ih h.2.2.2 u (by simp)
   ·exact ih h.2.2.2 x hx
theorem qfc {c : Cf} {l : List Int} (h : ∀ x ∈ l,isId x c.ress.length = true ∧ rkind c x = 2 ∧ rlink c x ∈ l) : ∀ (f : Nat) (x : Int),x ∈ l → rootF c f x = -1
 | 0,x,_ => rfl
 | f + 1,x,hx => by
  obtain ⟨a,b,d⟩ := h x hx
  rw [rootF,if_pos a,if_pos b]
  exact qfc h f _ d
theorem qnw {c : Cf} {l : List Int} {z : Int} (h : qej c l z) (hz : z ∈ l) : ∀ x ∈ l,rootN c x = -1 := fun x hx =>
 qfc (fun y hy => by
  obtain ⟨a,b,d⟩ := qkq h y hy
  exact ⟨a,b,d.elim id (fun e => by rw [e]; exact hz)⟩) _ x hx
theorem qhe (c : Cf) (r : Int) : rootN c r = -1 ∨ (0 ≤ rootN c r ∧ rootN c r < c.ress.length) := by
 have h1 := qbt c c.ress.length r
 have h2 : ∀ (f : Nat) (r : Int),rootF c f r = -1 ∨ 0 ≤ rootF c f r := by
  intro f
  induction f with
  | zero => intro r; exact .inl rfl
  | succ f ih =>
   intro r
   rw [rootF]
   split
   ·rename_i h
    split
    ·exact ih _
    ·exact .inr (by simp [isId] at h; exact h.1)
   ·exact .inl rfl
 rcases h2 c.ress.length r with h | h
 ·exact .inl h
 ·exact .inr ⟨h,h1⟩
theorem qfd {l : List Nat} {n : Nat} (hd : l.Nodup) (hl : ∀ x ∈ l,x < n) : l.length ≤ n := by
 by_cases h : l.length ≤ n
 ·exact h
 ·exfalso
  obtain ⟨i,j,hij,hjn,e⟩ := qe3 n (fun k => l.getD k 0) (fun k hk => by
   have hk2 : k < l.length := by omega
   show l.getD k 0 < n
   rw [List.getD_eq_getElem?_getD,List.getElem?_eq_getElem hk2]
   exact hl _ (List.getElem_mem hk2))
  have hi2 : i < l.length := by omega
  have hj2 : j < l.length := by omega
  have e2 : l[i] = l[j] := by
   have e3 : l.getD i 0 = l.getD j 0 := e
   rw [List.getD_eq_getElem?_getD,List.getD_eq_getElem?_getD,List.getElem?_eq_getElem hi2,List.getElem?_eq_getElem hj2] at e3
   exact e3
  exact List.pairwise_iff_getElem.1 hd i j hi2 hj2 hij e2
end Go.Proofs.YtmidaeljeoifdaaGreatDoor.Ce
namespace Go.Proofs.YtmidaeljeoifdaaGreatDoor.Ce
open Go.Maps Go.RowKit
set_option linter.unusedSimpArgs false
set_option linter.unusedVariables false
set_option maxHeartbeats 16000000
set_option maxRecDepth 100000
theorem keyI : Keyed Tryz.prog 3 := int_keyed Tryz.underlying3
theorem qhf (w : World) : (zeroValue 3).run Tryz.prog w = .ok (.int .i64 0) w := by kernel_rfl
theorem qci {j : Nat} (h : j < 9223372036854775808) : (Lit.int .i64 (j : Int)).wf = true := WalkArith.wf_i64 (by omega)
theorem qdw {H : Type} {w : World} {P : Program} {k : TypeId} {R : Value → Option (DataW H × List MemPlace)} {b n : Nat} {D : DataW H} (h : w.ownsMap P k R b n D) : w.ownsMap P k R b (Maps.size D) D := by
 obtain ⟨es,clock,hb,F,hs,rfl⟩ := h
 refine ⟨es,clock,hb,F, ?_,rfl⟩
 rw [Maps.size_eq,length_sorted]
 simp
structure MapOf (w : World) (b n : Nat) (ks : List Nat) (f : Nat → Int) : Prop where
 nd : ks.Nodup
 lt : ∀ k ∈ ks,k < n
 ex : ∃ D : DataW Unit,w.ownsMap Tryz.prog 3 (plainElem Tryz.prog 3) b ks.length D ∧ Maps.size D = ks.length ∧ ∀ j : Nat,Maps.has D (.int .i64 j) = decide (j ∈ ks) ∧ D.atKey (.int .i64 j) (.lit (.int .i64 0)) = .lit (.int .i64 (if j ∈ ks then f j else 0))
theorem MapOf.made (w : World) (n : Nat) (f : Nat → Int) : MapOf (w.alloc (.map #[] 0)) w.heap.size n [] f :=
 ⟨List.nodup_nil,(fun k hk => by cases hk), .map [],World.ownsMap_made _ _ _ _,rfl,fun j => ⟨by simp [Maps.has],by simp [DataW.atKey]⟩⟩
theorem MapOf.block {w : World} {b n : Nat} {ks : List Nat} {f : Nat → Int} (h : MapOf w b n ks f) : b < w.heap.size := by
 obtain ⟨D,hD,_⟩ := h.ex
 exact hD.lt
theorem MapOf.kept {w w' : World} {b n : Nat} {ks : List Nat} {f : Nat → Int} {row : Option Nat} (h : MapOf w b n ks f) (hg : w.grownBy w' row) (hne : some b ≠ row) : MapOf w' b n ks f := by
 obtain ⟨D,hD,h2⟩ := h.ex
 exact ⟨h.nd,h.lt,D,hD.kept hg hne,h2⟩
theorem MapOf.below {w w' : World} {b n : Nat} {ks : List Nat} {f : Nat → Int} (h : MapOf w b n ks f) (hb : Below w.heap.size w w') : MapOf w' b n ks f := h.kept (qbf (r := none) hb) (by simp)
theorem MapOf.congr {w : World} {b n : Nat} {ks : List Nat} {f g : Nat → Int} (h : MapOf w b n ks f) (e : ∀ k ∈ ks,f k = g k) : MapOf w b n ks g := by
 obtain ⟨D,hD,hs,h2⟩ := h.ex
 refine ⟨h.nd,h.lt,D,hD,hs,fun j => ⟨(h2 j).1, ?_⟩⟩
 rw [(h2 j).2]
 by_cases hj : j ∈ ks
 ·rw [if_pos hj,if_pos hj,e j hj]
 ·rw [if_neg hj,if_neg hj]
def insK (ks : List Nat) (j : Nat) : List Nat := if j ∈ ks then ks else j :: ks
theorem mem_insK {ks : List Nat} {j i : Nat} : i ∈ insK ks j ↔ i = j ∨ i ∈ ks := by
 unfold insK
 by_cases h : j ∈ ks
 ·rw [if_pos h]
  constructor
  ·exact .inr
  ·rintro (rfl | h2)
   ·exact h
   ·exact h2
 ·rw [if_neg h,List.mem_cons]
def setF (f : Nat → Int) (j : Nat) (e : Int) (i : Nat) : Int := if i = j then e else f i
theorem MapOf.len {w : World} {b n : Nat} {ks : List Nat} {f : Nat → Int} (h : MapOf w b n ks f) : ks.length ≤ n := qfd h.nd h.lt
section
variable {w : World} {ops : Array Oper} {rest : List Oper} {o : Oper} {a : Act} {Q : Exit → Act → World → Prop}
theorem qe5 (hg : o.guard = none) (m x : Operand) (t : TypeId) (hop : o.op = Op.lookup t m x true) (ht : Tryz.prog.underlying t = some (.map 3 3)) (b n : Nat) (ks : List Nat) (f : Nat → Int)
  (hm : a.eval m = .map (some b)) (h : MapOf w b n ks f) (j : Nat) (hj : j < 9223372036854775808) (hx : a.eval x = .int .i64 (j : Int))
  (hK : ∀ (e : Int) (mt : Bool),Hid (e = (if j ∈ ks then f j else 0) ∧ mt = decide (j ∈ ks)) → wpList Tryz.prog ops Q rest (a.put o.dst (.tuple #[.int .i64 e, .bool mt])) w) : wpList Tryz.prog ops Q (o :: rest) a w := by
 obtain ⟨D,hD,hs,h2⟩ := h.ex
 refine wpList_lookup_own_ok_int w hg m x t hop 3 3 .i64 keyI ht Tryz.underlying3 (qhf w) b ks.length D hm hD _ (.int .i64 (j : Int)) hx (keyOf_int_mk Tryz.underlying3 (qci hj)) (fun c hat _ => ?_)
 rw [(h2 j).2] at hat
 have hc : c = if j ∈ ks then f j else 0 := by cases hat; rfl
 rw [(h2 j).1]
 exact hK c _ ⟨hc,rfl⟩
theorem qbk (hg : o.guard = none) (m x u : Operand) (t : TypeId) (hop : o.op = Op.mapUpdate t m x u) (ht : Tryz.prog.underlying t = some (.map 3 3)) (b n : Nat) (ks : List Nat) (f : Nat → Int)
  (hm : a.eval m = .map (some b)) (h : MapOf w b n ks f) (hn : n ≤ 8796093022208) (j : Nat) (hj : j < n) (hx : a.eval x = .int .i64 (j : Int)) (e : Int) (he : (Lit.int .i64 e).wf = true) (hu : a.eval u = .int .i64 e)
  (hK : ∀ w',MapOf w' b n (insK ks j) (setF f j e) → w.grownBy w' (some b) → wpList Tryz.prog ops Q rest (a.put o.dst undef) w') : wpList Tryz.prog ops Q (o :: rest) a w := by
 have hlen := h.len
 obtain ⟨D,hD,hs,h2⟩ := h.ex
 have hT := hD.tidy keyI
 have hkl : WideAt.IsKeyLit (.int .i64 (j : Int)) := trivial
 refine wpList_mapUpdate_own w hg m x u t hop 3 3 keyI ht _ b ks.length D hm hD (by unfold maxLen; omega) _ _ (.int .i64 (j : Int)) hx hu (keyOf_int_mk Tryz.underlying3 (qci (by omega))) _ [] (plainElem_int Tryz.underlying3 he) (fun w' hown hgr => hK w' ?_ hgr)
 have hsz : Maps.size (D.put (.int .i64 (j : Int)) (.lit (.int .i64 e))) = (insK ks j).length := by
  rw [Maps.size_put hT,(h2 j).1,hs]
  unfold insK
  by_cases hm : j ∈ ks <;> simp [hm]
 refine ⟨?_, ?_,_,by rw [← hsz]; exact qdw hown,hsz,fun i => ?_⟩
 ·unfold insK
  by_cases hm : j ∈ ks
  ·rw [if_pos hm]; exact h.nd
  ·rw [if_neg hm]; exact List.nodup_cons.2 ⟨hm,h.nd⟩
 ·intro k hk
  rcases mem_insK.1 hk with rfl | hk
  ·exact hj
  ·exact h.lt k hk
 ·by_cases hij : i = j
  ·subst hij
   refine ⟨by rw [Maps.has_put_same hT.isMap hkl]; simp [mem_insK], ?_⟩
   rw [Maps.atKey_put_same hT.isMap hkl,if_pos (mem_insK.2 (.inl rfl)),setF,if_pos rfl]
  ·have hne : (Lit.int .i64 (i : Int)) ≠ .int .i64 (j : Int) := fun e => by
    have : (i : Int) = j := by injection e
    omega
   refine ⟨by rw [Maps.has_put_other hne,(h2 i).1]; simp [mem_insK,hij], ?_⟩
   rw [Maps.atKey_put_other hne,(h2 i).2,setF,if_neg hij]
   by_cases hi : i ∈ ks
   ·rw [if_pos hi,if_pos (mem_insK.2 (.inr hi))]
   ·rw [if_neg hi,if_neg (fun h => (mem_insK.1 h).elim hij hi)]
end
end Go.Proofs.YtmidaeljeoifdaaGreatDoor.Ce
namespace Go.Proofs.YtmidaeljeoifdaaGreatDoor.Ce
open Go.RowKit
set_option linter.unusedSimpArgs false
set_option linter.unusedVariables false
set_option maxHeartbeats 16000000
set_option maxRecDepth 100000
structure Keeps (w w' : World) : Prop where
 size : w.heap.size ≤ w'.heap.size
 cell : ∀ g i u,w.cell? ⟨g,i,none⟩ = some u → w'.cell? ⟨g,i,none⟩ = some u
theorem Keeps.refl (w : World) : Keeps w w := ⟨Nat.le_refl _,fun _ _ _ h => h⟩
theorem Keeps.trans {a b d : World} (h : Keeps a b) (k : Keeps b d) : Keeps a d := ⟨Nat.le_trans h.size k.size,fun g i u e => k.cell g i u (h.cell g i u e)⟩
theorem Below.keeps {w w' : World} (h : Below w.heap.size w w') : Keeps w w' := ⟨h.size,fun g i u e => by rw [qa7 h g i (World.block_lt_of_cell? w _ e)]; exact e⟩
theorem qih {w w' : World} {b n : Nat} {ks : List Nat} {f : Nat → Int} (h : MapOf w b n ks f) (hg : w.grownBy w' (some b)) : Keeps w w' := by
 obtain ⟨D,⟨es,clock,hb,_⟩,_⟩ := h.ex
 refine ⟨hg.size,fun g i u e => hg.cell e (fun q => ?_)⟩
 have q2 : g = b := Option.some.inj q
 subst q2
 simp [World.cell?,hb] at e
theorem _root_.Go.Proofs.YtmidaeljeoifdaaGreatDoor.RowsAt.keeps {α : Type} {w w' : World} {k : Nat} {P Q : α → Nat → Value → Prop} {s : Sl} {l : List α} (h : RowsAt w k P s l) (hb : Keeps w w') (hPQ : ∀ x i u,x ∈ l → P x i u → Q x i u) : RowsAt w' k Q s l := by
 refine ⟨h.n,h.c,h.m,fun j x hj => ?_⟩
 obtain ⟨g,off,e,hg,hr⟩ := h.row j x hj
 refine ⟨g,off,e,Nat.lt_of_lt_of_le hg hb.size,fun i hi => ?_⟩
 obtain ⟨u,h1,h2⟩ := hr i hi
 exact ⟨u,hb.cell _ _ _ h1,hPQ x i u (List.mem_of_getElem? hj) h2⟩
theorem _root_.Go.Proofs.YtmidaeljeoifdaaGreatDoor.IntsV.keeps {w w' : World} {l : List Int} {u : Value} (h : IntsV w l u) (hb : Keeps w w') : IntsV w' l u := by
 obtain ⟨s,e,h⟩ := h
 exact ⟨s,e,h.keeps hb (fun _ _ _ _ h => h)⟩
theorem _root_.Go.Proofs.YtmidaeljeoifdaaGreatDoor.CfAt.keeps {w w' : World} {c : Cf} {v : Vs} (h : CfAt w c v) (hb : Keeps w w') : CfAt w' c v := by
 refine ⟨h.m.keeps hb (fun _ _ _ _ h => h),h.t.keeps hb (fun x i u _ h => ?_),h.r.keeps hb (fun _ _ _ _ h => h),h.e.keeps hb (fun _ _ _ _ h => h),h.k.keeps hb (fun _ _ _ _ h => h),h.a.keeps hb (fun x i u _ h => ?_),h.i.keeps hb (fun x i u _ h => ?_),h.s.keeps hb (fun _ _ _ _ h => h)⟩
 ·unfold tkP at h ⊢
  split at h <;> first | exact h | exact IntsV.keeps h hb
 ·unfold alP at h ⊢
  split at h <;> first | exact h | exact IntsV.keeps h hb
 ·unfold isP at h ⊢
  split at h <;> first | exact h | exact IntsV.keeps h hb
theorem qcs {w : World} {b n : Nat} {u : Value} {xs : List Value} {l : List Int} (h : w.ownsRow b 3 1 u n xs) (hx : xs = l.map fun x => I x) (hn : n = l.length) : ∃ s : Sl,u = .slice s.a s.n s.c ∧ RowsAt w 1 intP s l := by
 rcases h.2 with ⟨rfl,rfl⟩ | ⟨g,cap,cur,rfl,hb,hg,hc,hm,hs,ht⟩
 ·refine ⟨⟨none,0,0⟩,rfl,hn,Nat.le_refl _,Nat.zero_le _,fun j x hj => ?_⟩
  have := (List.getElem?_eq_some_iff.1 hj).1
  omega
 ·refine ⟨⟨some ⟨g,0,none⟩,n,cap⟩,rfl,hn,hc,hm,fun j x hj => ⟨g,0,rfl,(h.lt g rfl).2,fun i hi => ?_⟩⟩
  obtain rfl : i = 0 := by omega
  refine ⟨I x, ?_,rfl⟩
  have hc2 := h.cells (g := g) rfl j (I x) (by rw [hx,List.getElem?_map,hj]; rfl)
  have hadd : (⟨g,0,none⟩ : Addr).add j = ⟨g,j,none⟩ := by unfold Addr.add; split <;> simp_all
  rw [hadd] at hc2
  rw [show 0 + j * 1 + 0 = j by omega]
  exact hc2
theorem Tryz.infoInt : (Tryz.prog.info? 3).map (fun i => (i.zero,i.size,i.bytes)) = some (some (.int .i64 0),1,8) := by kernel_rfl
end Go.Proofs.YtmidaeljeoifdaaGreatDoor.Ce
namespace Go.Proofs.YtmidaeljeoifdaaGreatDoor.Ce
open Go.Maps Go.RowKit
set_option linter.unusedSimpArgs false
set_option linter.unusedVariables false
set_option maxHeartbeats 16000000
set_option maxRecDepth 100000
def lenV : Value → Nat
 | .slice _ n _ => n
 | _ => 0
theorem qkr {w : World} {base e size n : Nat} {v : Value} {xs : List Value} (h : w.ownsRow base e size v n xs) : lenV v = n := by
 rcases h.2 with ⟨rfl,rfl⟩ | ⟨g,cap,cur,rfl,_⟩ <;> rfl
theorem qfe {w : World} {b n : Nat} {s : Sl} {xs : List Value} {l : List Int} (h : w.ownsRow b 3 1 (.slice s.a s.n s.c) n xs) (hx : xs = l.map fun x => I x) (hn : n = l.length) : RowsAt w 1 intP s l := by
 obtain ⟨s',e,hR⟩ := qcs h hx hn
 obtain ⟨a,m,k⟩ := s
 obtain ⟨a',m',k'⟩ := s'
 injection e with e1 e2 e3
 dsimp only at e1 e2 e3
 subst e1 e2 e3
 exact hR
theorem grown_same {a b d : World} {r : Nat} (h : a.grownBy b (some r)) (k : b.grownBy d (some r)) : a.grownBy d (some r) :=
 ⟨k.os.trans h.os,k.tape.trans h.tape,k.output.trans h.output,Nat.le_trans h.size k.size,fun i hi hne => (k.block i (Nat.lt_of_lt_of_le hi h.size) hne).trans (h.block i hi hne)⟩
structure FI (c : Cf) (ks : List Nat) (id : Nat) (w wq : World) (b : Nat) (lv : Value) (way : List Nat) (z : Nat) (ks1 : List Nat) (f1 : Nat → Int) : Prop where
 own : wq.ownsRow w.heap.size 3 1 lv way.length (way.map fun (k : Nat) => I (k : Int))
 map : MapOf wq b c.ress.length ks1 f1
 gr : w.grownBy wq (some b)
 kp : Keeps w wq
 ch : qej c (way.map fun (k : Nat) => (k : Int)) z
 zn : z < c.ress.length
 rt : rootN c id = rootN c z
 idm : (id = z ∧ way = []) ∨ id ∈ way
 mem : ∀ k,k ∈ ks1 ↔ k ∈ ks ∨ k ∈ way
 fw : ∀ k ∈ way,f1 k = -1
 fk : ∀ k ∈ ks,f1 k = rootN c k
 ln : way.length + ks.length = ks1.length
structure FJ (c : Cf) (ks : List Nat) (id : Nat) (w wr : World) (b : Nat) (lv : Value) (way : List Nat) (j : Nat) (ks2 : List Nat) (f2 : Nat → Int) : Prop where
 own : wr.ownsRow w.heap.size 3 1 lv way.length (way.map fun (k : Nat) => I (k : Int))
 map : MapOf wr b c.ress.length ks2 f2
 gr : w.grownBy wr (some b)
 kp : Keeps w wr
 sub : ∀ k ∈ ks2,k ∈ ks ∨ k ∈ way
 kk : ∀ k ∈ ks,k ∈ ks2
 kw : ∀ k ∈ way.take j,k ∈ ks2
 ff : ∀ k ∈ ks2,f2 k = rootN c k ∨ k ∈ way.drop j
theorem qmt {c : Cf} {ks : List Nat} {id : Nat} {w wr w1 : World} {b : Nat} {lv : Value} {way : List Nat} {j x : Nat} {ks2 : List Nat} {f2 : Nat → Int} {e : Int} (h : FJ c ks id w wr b lv way j ks2 f2) (hm : MapOf wr b c.ress.length ks2 f2)
  (hm1 : MapOf w1 b c.ress.length (insK ks2 x) (setF f2 x e)) (hg : wr.grownBy w1 (some b)) (hx : way[j]? = some x) (hbl : b < w.heap.size) (he : rootN c x = e) : FJ c ks id w w1 b lv way (j + 1) (insK ks2 x) (setF f2 x e) := by
 obtain ⟨hj,ex⟩ := List.getElem?_eq_some_iff.1 hx
 refine ⟨h.own.kept hg ?_,hm1,grown_same h.gr hg,h.kp.trans (qih hm hg),fun k hk => ?_,fun k hk => mem_insK.2 (.inr (h.kk k hk)),fun k hk => ?_,fun k hk => ?_⟩
 ·cases hv : lv.ownBlock with
  | none => exact .inl rfl
  | some g => exact .inr (fun q => by have := (h.own.lt g hv).1; cases q; omega)
 ·rcases mem_insK.1 hk with rfl | hk
  ·exact .inr (List.mem_of_getElem? hx)
  ·exact h.sub k hk
 ·rw [List.take_add_one,hx,Option.toList_some,List.mem_append,List.mem_singleton] at hk
  rcases hk with hk | rfl
  ·exact mem_insK.2 (.inr (h.kw k hk))
  ·exact mem_insK.2 (.inl rfl)
 ·unfold setF
  by_cases hkx : k = x
  ·exact .inl (by rw [if_pos hkx,hkx,he])
  ·rw [if_neg hkx]
   rcases mem_insK.1 hk with h1 | hk
   ·exact absurd h1 hkx
   ·rcases h.ff k hk with h1 | h1
    ·exact .inl h1
    ·rw [List.drop_eq_getElem_cons hj,ex,List.mem_cons] at h1
     exact .inr (h1.resolve_left hkx)
theorem qu1 {c : Cf} {ks : List Nat} {id : Nat} {w wq w1 : World} {b : Nat} {lv lv1 : Value} {way : List Nat} {z : Nat} {ks1 : List Nat} {f1 : Nat → Int} {y : Rs} {q : Nat} (h : FI c ks id w wq b lv way z ks1 f1) (hz : ¬ z ∈ ks1)
  (hy : c.ress[z]? = some y) (hk : y.kind = 2) (hq : y.link = (q : Int)) (hqn : q < c.ress.length)
  (own : w1.ownsRow w.heap.size 3 1 lv1 (way.length + 1) ((way.map fun (k : Nat) => I (k : Int)) ++ [I (z : Int)])) (map : MapOf w1 b c.ress.length (insK ks1 z) (setF f1 z (-1))) (gr : w.grownBy w1 (some b)) (kp : Keeps w w1) :
  FI c ks id w w1 b lv1 (way ++ [z]) q (insK ks1 z) (setF f1 z (-1)) := by
 have hid : isId (z : Int) c.ress.length = true := qeh h.zn
 have hrk : rkind c (z : Int) = 2 := by rw [qcb hy]; exact hk
 have hrl : rlink c (z : Int) = (q : Int) := by rw [qkm hy]; exact hq
 have hzk : z ∉ ks ∧ z ∉ way := ⟨fun h1 => hz ((h.mem z).2 (.inl h1)),fun h1 => hz ((h.mem z).2 (.inr h1))⟩
 refine ⟨by rw [List.length_append,List.map_append]; exact own,map,gr,kp, ?_,hqn, ?_, ?_,fun k => ?_,fun k hk => ?_,fun k hk => ?_, ?_⟩
 ·rw [List.map_append]
  have := qnv h.ch hid hrk
  rw [hrl] at this
  exact this
 ·rw [h.rt,qfb hid hrk,hrl]
 ·rcases h.idm with ⟨rfl,rfl⟩ | h1
  ·exact .inr (by simp)
  ·exact .inr (by simp [h1])
 ·rw [mem_insK,h.mem k,List.mem_append,List.mem_singleton]
  constructor
  ·rintro (rfl | h1 | h1)
   ·exact .inr (.inr rfl)
   ·exact .inl h1
   ·exact .inr (.inl h1)
  ·rintro (h1 | h1 | rfl)
   ·exact .inr (.inl h1)
   ·exact .inr (.inr h1)
   ·exact .inl rfl
 ·unfold setF
  by_cases hkz : k = z
  ·rw [if_pos hkz]
  ·rw [if_neg hkz]
   rw [List.mem_append,List.mem_singleton] at hk
   exact h.fw k (hk.resolve_right hkz)
 ·unfold setF
  rw [if_neg (fun e => hzk.1 (by rw [← e]; exact hk))]
  exact h.fk k hk
 ·rw [List.length_append,List.length_singleton,insK,if_neg hz,List.length_cons]
  have := h.ln
  omega
theorem qve {c : Cf} {ks : List Nat} {id : Nat} {w wq : World} {b : Nat} {lv : Value} {way : List Nat} {z : Nat} {ks1 : List Nat} {f1 : Nat → Int} (h : FI c ks id w wq b lv way z ks1 f1) (hz : z ∈ ks1) (hpos : ∀ k ∈ ks,0 ≤ rootN c k) :
  f1 z = rootN c id ∧ (∀ k ∈ way,k < c.ress.length ∧ rootN c k = f1 z) ∧ (id ∈ ks ∨ id ∈ way) := by
 have hw : ∀ k ∈ way,k < c.ress.length := fun k hk => h.map.lt k ((h.mem k).2 (.inr hk))
 have hin : ∀ k ∈ way,((k : Nat) : Int) ∈ way.map fun (k : Nat) => (k : Int) := fun k hk => List.mem_map.2 ⟨k,hk,rfl⟩
 by_cases hzw : z ∈ way
 ·have hr := qnw h.ch (hin z hzw)
  have hf := h.fw z hzw
  refine ⟨?_,fun k hk => ⟨hw k hk,by rw [hf]; exact hr _ (hin k hk)⟩, ?_⟩
  ·rw [hf,h.rt]; exact (hr _ (hin z hzw)).symm
  ·rcases h.idm with ⟨rfl,rfl⟩ | h1
   ·cases hzw
   ·exact .inr h1
 ·have hzk : z ∈ ks := ((h.mem z).1 hz).resolve_right hzw
  have hf := h.fk z hzk
  refine ⟨by rw [hf,h.rt],fun k hk => ⟨hw k hk,by rw [hf]; exact qhd h.ch _ (hin k hk)⟩, ?_⟩
  rcases h.idm with ⟨rfl,rfl⟩ | h1
  ·exact .inl hzk
  ·exact .inr h1
theorem qu2 {c : Cf} {ks : List Nat} {id : Nat} {w wq : World} {b : Nat} {lv : Value} {way : List Nat} {z : Nat} {ks1 : List Nat} {f1 : Nat → Int} {y : Rs} (h : FI c ks id w wq b lv way z ks1 f1) (hy : c.ress[z]? = some y) (hk : y.kind ≠ 2) :
  (z : Int) = rootN c id ∧ (∀ k ∈ way ++ [z],k < c.ress.length ∧ rootN c k = (z : Int)) ∧ (id ∈ ks ∨ id ∈ way ++ [z]) := by
 have hz : rootN c (z : Int) = z := root_end (qeh h.zn) (by rw [qcb hy]; exact hk)
 refine ⟨by rw [h.rt,hz],fun k hk => ?_, ?_⟩
 ·rw [List.mem_append,List.mem_singleton] at hk
  rcases hk with hk | rfl
  ·exact ⟨h.map.lt k ((h.mem k).2 (.inr hk)),by rw [← hz]; exact qhd h.ch _ (List.mem_map.2 ⟨k,hk,rfl⟩)⟩
  ·exact ⟨h.zn,hz⟩
 ·rcases h.idm with ⟨rfl,rfl⟩ | h1
  ·exact .inr (by simp)
  ·exact .inr (by simp [h1])
theorem qu3 (c : Cf) (hn : c.ress.length ≤ 8796093022208) (r : Int) : (Lit.int .i64 (rootN c r)).wf = true := WalkArith.wf_i64 (by have := qhe c r; omega)
theorem qpo {c : Cf} {ks : List Nat} {id : Nat} {w wq w6 : World} {b : Nat} {lv : Value} {way : List Nat} {z : Nat} {ks1 : List Nat} {f1 : Nat → Int} {o : Obj} (h : FI c ks id w wq b lv way z ks1 f1) (hbl : b < w.heap.size) (hg : (wq.alloc o).grownBy w6 lv.ownBlock) :
  MapOf w6 b c.ress.length ks1 f1 ∧ w.grownBy w6 (some b) ∧ Keeps w w6 := by
 have hrow : ∀ k,lv.ownBlock = some k → w.heap.size ≤ k := fun k hk => (h.own.lt k hk).1
 have hne : some b ≠ lv.ownBlock := fun e => by have := hrow b e.symm; omega
 have hal : wq.grownBy (wq.alloc o) none := World.grownBy_alloc wq o none
 have hs : wq.heap.size ≤ (wq.alloc o).heap.size := hal.size
 refine ⟨(h.map.kept hal (by simp)).kept hg hne, ?_, ?_⟩
 ·refine ⟨hg.os.trans (hal.os.trans h.gr.os),hg.tape.trans (hal.tape.trans h.gr.tape),hg.output.trans (hal.output.trans h.gr.output),Nat.le_trans h.gr.size (Nat.le_trans hs hg.size),fun i hi hb => ?_⟩
  have h1 := h.gr.size
  rw [hg.block i (by omega) (fun e => by have := hrow i e.symm; omega),hal.block i (by omega) (by simp),h.gr.block i hi hb]
 ·refine ⟨Nat.le_trans h.kp.size (Nat.le_trans hs hg.size),fun g i u e => ?_⟩
  have hgl := World.block_lt_of_cell? w _ e
  have e1 := h.kp.cell g i u e
  have e2 := hal.cell e1 (by simp)
  exact hg.cell e2 (fun q => by have := hrow g q.symm; simp at hgl; omega)
def qks (c : Cf) (ks : List Nat) (id b : Nat) (w : World) (e : Ending) (w' : World) : Prop := e = .returned (I (rootN c id)) ∧ w.grownBy w' (some b) ∧ Keeps w w' ∧ ∃ ks',MapOf w' b c.ress.length ks' (fun k => rootN c k) ∧ id ∈ ks' ∧ (∀ k ∈ ks,k ∈ ks') ∧ ∀ k ∈ ks',k ∈ ks ∨ rootN c k = rootN c id
theorem qsc (w : World) (c : Cf) (v : Vs) (h : CfAt w c v) (hn : c.ress.length ≤ 8796093022208) (hlk : ∀ x ∈ c.ress,x.kind = 2 → isId x.link c.ress.length = true) (b : Nat) (ks : List Nat)
  (hM : MapOf w b c.ress.length ks (fun k => rootN c k)) (hpos : ∀ k ∈ ks,0 ≤ rootN c k) (id : Nat) (hid : id < c.ress.length) :
  Calls Tryz.prog 200 #[.map (some b), .slice v.r.a v.r.n v.r.c,I id] w fun e w' => qks c ks id b w e w' := by
 obtain ⟨i0,hi0,hz0,hz1,hz2⟩ := info_parts Tryz.infoInt
 have hbl := hM.block
 have HN : Hid (v.r.n = c.ress.length) := h.r.n
 have HH : Hid (CfAt w c v) := h
 have HL : Hid (∀ x ∈ c.ress,x.kind = 2 → isId x.link c.ress.length = true) := hlk
 have HPS : Hid (∀ k ∈ ks,0 ≤ rootN c k) := hpos
 have hFI0 : FI c ks id w w b (.slice none 0 0) [] id ks (fun k => rootN c k) := ⟨World.ownsRow_nil _ _ _ _,hM,qgx _ _,Keeps.refl _,trivial,hid,rfl, .inl ⟨rfl,rfl⟩,(fun k => by simp),(fun k hk => by cases hk),(fun k _ => rfl),by simp⟩
 have HFI0 : Hid (FI c ks id w w b (.slice none 0 0) [] id ks (fun k => rootN c k)) := hFI0
 have hid63 : id < 9223372036854775808 := by omega
 clear hFI0 h hlk hpos
 go_enter Tryz.func200,Tryz.ntmps200
 go_wp2_with (at_lookup; refine qe5 rfl _ _ 152 rfl Tryz.underlying152 b c.ress.length ks _ rfl hM id hid63 rfl ?_; intro e0 m0 HX0)
 clear hM hid63
 go_loopw [2,7,8,9] (fun zv lv ev mv wq => ∃ (way : List Nat) (z : Nat) (ks1 : List Nat) (f1 : Nat → Int) (e : Int) (mt : Bool),zv = .int .i64 z ∧ ev = .int .i64 e ∧ mv = .bool mt ∧ Hid (e = (if z ∈ ks1 then f1 z else 0) ∧ mt = decide (z ∈ ks1)) ∧ Hid (FI c ks id w wq b lv way z ks1 f1)) (fun _ lv _ _ _ => c.ress.length - lenV lv)
 case atStart => exact ⟨[],id,ks,_,_,_,rfl,rfl,rfl,HX0,HFI0⟩
 case round =>
  clear HFI0
  obtain ⟨way,z,ks1,f1,e,mt,rfl,rfl,rfl,HX,HI⟩ := hrel
  cases mt with
  | true =>
   have hz : z ∈ ks1 := by simpa using HX.out.2.symm
   have he : e = f1 z := by rw [HX.out.1,if_pos hz]
   subst he
   have HE : Hid (f1 z = rootN c id ∧ (∀ k ∈ way,k < c.ress.length ∧ rootN c k = f1 z) ∧ (id ∈ ks ∨ id ∈ way)) := qve HI.out hz HPS.out
   have HO : Hid (_) := HI.out.own
   have HM : Hid (_) := HI.out.map
   have HG : Hid (_) := HI.out.gr
   have HP : Hid (_) := HI.out.kp
   have HA : Hid ((∀ k ∈ ks1,k ∈ ks ∨ k ∈ way) ∧ (∀ k ∈ ks,k ∈ ks1) ∧ ∀ k ∈ ks1,f1 k = rootN c k ∨ k ∈ way.drop 0) := ⟨fun k hk => (HI.out.mem k).1 hk,fun k hk => (HI.out.mem k).2 (.inl hk),fun k hk => ((HI.out.mem k).1 hk).imp (fun h => HI.out.fk k h) (fun h => by simpa using h)⟩
   have hwf : (Lit.int .i64 (f1 z)).wf = true := by rw [HE.out.1]; exact qu3 c hn _
   clear HI HX hz
   generalize hee : f1 z = ez at *
   clear hee
   obtain ⟨s,hlv,hR0⟩ := qcs HO.out (l := way.map fun (k : Nat) => (k : Int)) (by rw [List.map_map]; rfl) (by simp)
   subst hlv
   have hsn : Hid (s.n = way.length) := by have := hR0.n; show _ = _; simpa using this
   have hsc : s.n ≤ s.c := hR0.c
   have hsm : s.c ≤ maxLen := hR0.m
   unfold maxLen at hsm
   clear hR0
   generalize hW : way = way' at *
   clear hW
   go_wp2
   go_loopw [11,46] (fun _ jv wr => ∃ (j : Nat) (ks2 : List Nat) (f2 : Nat → Int),j ≤ s.n ∧ jv = .int .i64 j ∧ Hid (FJ c ks id w wr b (.slice s.a s.n s.c) way' j ks2 f2)) (fun _ jv _ => s.n - (intOf jv).toNat)
   case atStart => exact ⟨0,_,_,by omega,rfl,⟨HO.out,HM.out,HG.out,HP.out,HA.out.1,HA.out.2.1,(fun k hk => by simp at hk),HA.out.2.2⟩⟩
   case round =>
    clear HO HM HG HP HA
    obtain ⟨j,ks2,f2,hj,rfl,HJ⟩ := hrel
    by_cases hjl : j < s.n
    ·have hjl' : (j : Int) < s.n := by omega
     obtain ⟨x,hx⟩ : ∃ x,way'[j]? = some x := ⟨_,List.getElem?_eq_getElem (by rw [← hsn.out]; exact hjl)⟩
     have hxm : x ∈ way' := List.mem_of_getElem? hx
     have hxn := (HE.out.2.1 x hxm).1
     obtain ⟨g,off,eg,hg,cx⟩ := qau (qfe HJ.out.own (l := way'.map fun (k : Nat) => (k : Int)) (by simp) (by simp)) (j := j) (x := (x : Int)) (by rw [List.getElem?_map,hx]; rfl)
     have hm := HJ.out.map
     have HJl : Hid (FJ c ks id w wr b (.slice (some ⟨g,off,none⟩) s.n s.c) way' j ks2 f2) := by have h7 := HJ.out; rw [eg] at h7; exact h7
     rw [eg]
     clear HJ
     have HX : Hid (way'[j]? = some x) := hx
     clear hx hxm
     go_wp2_with (at_mapUpdate; refine qbk rfl _ _ _ 152 rfl Tryz.underlying152 b c.ress.length ks2 f2 rfl hm hn x hxn rfl ez hwf rfl ?_; intro w1 hm1 hg1)
     have HJ2 : Hid (FJ c ks id w w1 b (.slice (some ⟨g,off,none⟩) s.n s.c) way' (j + 1) (insK ks2 x) (setF f2 x ez)) := qmt HJl.out hm hm1 hg1 HX.out hbl (HE.out.2.1 x (List.mem_of_getElem? HX.out)).2
     clear hm hm1 hg1 HJl
     go_roundw
     case rel => exact ⟨j + 1,_,_,by omega,by go_num,HJ2.out⟩
     case measure => simp [intOf]; omega
    ·obtain rfl : j = s.n := by omega
     have hjl' : ¬ ((s.n : Nat) : Int) < (s.n : Nat) := by omega
     go_wp2
     go_ret
     refine ⟨qa3 HE.out.1,HJ.out.gr,HJ.out.kp,ks2,HJ.out.map.congr (fun k hk => ?_), ?_,HJ.out.kk,fun k hk => ?_⟩
     ·rcases HJ.out.ff k hk with h1 | h1
      ·exact h1
      ·rw [List.drop_eq_nil_of_le (by rw [hsn.out]; exact Nat.le_refl _)] at h1; cases h1
     ·rcases HE.out.2.2 with h1 | h1
      ·exact HJ.out.kk _ h1
      ·exact HJ.out.kw _ (by rw [List.take_of_length_le (by rw [hsn.out]; exact Nat.le_refl _)]; exact h1)
     ·rcases HJ.out.sub k hk with h1 | h1
      ·exact .inl h1
      ·exact .inr (by rw [(HE.out.2.1 k h1).2,HE.out.1])
  | false =>
   have hz : ¬ z ∈ ks1 := by simpa using HX.out.2.symm
   clear HX
   have hzn := HI.out.zn
   have hzn' : (z : Int) < v.r.n := by have := HN.out; omega
   have hlen : way.length < c.ress.length := by
    have h1 := HI.out.map.len
    have h2 := qfd (List.nodup_cons.2 ⟨hz,HI.out.map.nd⟩) (n := c.ress.length) (fun x hx => by rcases List.mem_cons.1 hx with rfl | hx; exact hzn; exact HI.out.map.lt x hx)
    have h3 := HI.out.ln
    rw [List.length_cons] at h2
    omega
   obtain ⟨y,hy⟩ : ∃ y,c.ress[z]? = some y := ⟨_,List.getElem?_eq_getElem hzn⟩
   have Hy : Hid (c.ress[z]? = some y) := hy
   obtain ⟨g,off,eg,hg,d0,d1,d2⟩ := qb5 HH.out hy
   have hO2 := HI.out.own.alloc (.cells #[I (z : Int)] 3)
   have hbase : w.heap.size ≤ wr.heap.size := HI.out.gr.size
   have hn47 : way.length + 1 ≤ 8796093022208 := by omega
   have Hd : Hid (w.cell? ⟨g,off + z * 3 + 1,none⟩ = some (I y.kind) ∧ w.cell? ⟨g,off + z * 3 + 2,none⟩ = some (I y.link)) := ⟨d1,d2⟩
   rw [eg]
   clear hy d0 d1 d2
   cases hk2 : y.kind == 2 with
   | false =>
    have hk2' : (y.kind != 2) = true := by simp only [bne,hk2]; rfl
    have hkn : y.kind ≠ 2 := by simpa using hk2
    go_upto_region 10 with (at_builtin; refine wpList_append_own _ rfl (.tmp 20) (.tmp 22) 54 rfl w.heap.size 3 i0 (.int .i64 0) 1 8 Tryz.underlying54 hi0 hz0 hz1 hz2 rfl (by decide) _ _ _ rfl hO2 ⟨wr.heap.size,0,none⟩ 1 1 [I (z : Int)] rfl rfl (cell_one_new _ _ _) (by intro u hu; simp at hu; subst hu; rfl) (by unfold maxLen; omega) (by omega) (by simp; omega) ?_; intro v6 w6 ho6 hg6 _; obtain ⟨hM6,hG6,hK6⟩ := qpo HI.out hbl hg6; have d1 := hK6.cell _ _ _ Hd.out.1; clear hg6 hO2)
    have HO : Hid (w6.ownsRow w.heap.size 3 1 v6 (way ++ [z]).length ((way ++ [z]).map fun (k : Nat) => I (k : Int))) := by
     show World.ownsRow _ _ _ _ _ _ _
     rw [List.length_append,List.map_append]
     exact ho6
    have HE : Hid ((z : Int) = rootN c id ∧ (∀ k ∈ way ++ [z],k < c.ress.length ∧ rootN c k = (z : Int)) ∧ (id ∈ ks ∨ id ∈ way ++ [z])) := qu2 HI.out Hy.out hkn
    have HM : Hid (MapOf w6 b c.ress.length ks1 f1) := hM6
    have HG : Hid (w.grownBy w6 (some b)) := hG6
    have HP : Hid (Keeps w w6) := hK6
    have HA : Hid ((∀ k ∈ ks1,k ∈ ks ∨ k ∈ way ++ [z]) ∧ (∀ k ∈ ks,k ∈ ks1) ∧ ∀ k ∈ ks1,f1 k = rootN c k ∨ k ∈ (way ++ [z]).drop 0) := ⟨fun k hk => ((HI.out.mem k).1 hk).imp (fun h => h) (fun h => by simp [h]),fun k hk => (HI.out.mem k).2 (.inl hk),fun k hk => ((HI.out.mem k).1 hk).imp (fun h => HI.out.fk k h) (fun h => by simp [h])⟩
    have hwf : (Lit.int .i64 (z : Int)).wf = true := qci (by omega)
    clear HI ho6 hM6 hG6 hK6 d1 hk2 hk2' hkn hlen hn47 Hy Hd hz
    generalize hee : (z : Int) = ez at *
    clear hee
    obtain ⟨s,hlv,hR0⟩ := qcs HO.out (l := (way ++ [z]).map fun (k : Nat) => (k : Int)) (by rw [List.map_map]; rfl) (by simp)
    subst hlv
    have hsn : Hid (s.n = (way ++ [z]).length) := by have := hR0.n; show _ = _; simpa using this
    have hsc : s.n ≤ s.c := hR0.c
    have hsm : s.c ≤ maxLen := hR0.m
    unfold maxLen at hsm
    clear hR0
    generalize hW : (way ++ [z]) = way' at *
    clear hW
    go_wp2
    go_loopw [11,46] (fun _ jv wr => ∃ (j : Nat) (ks2 : List Nat) (f2 : Nat → Int),j ≤ s.n ∧ jv = .int .i64 j ∧ Hid (FJ c ks id w wr b (.slice s.a s.n s.c) way' j ks2 f2)) (fun _ jv _ => s.n - (intOf jv).toNat)
    case atStart => exact ⟨0,_,_,by omega,rfl,⟨HO.out,HM.out,HG.out,HP.out,HA.out.1,HA.out.2.1,(fun k hk => by simp at hk),HA.out.2.2⟩⟩
    case round =>
     clear HO HM HG HP HA
     obtain ⟨j,ks2,f2,hj,rfl,HJ⟩ := hrel
     by_cases hjl : j < s.n
     ·have hjl' : (j : Int) < s.n := by omega
      obtain ⟨x,hx⟩ : ∃ x,way'[j]? = some x := ⟨_,List.getElem?_eq_getElem (by rw [← hsn.out]; exact hjl)⟩
      have hxm : x ∈ way' := List.mem_of_getElem? hx
      have hxn := (HE.out.2.1 x hxm).1
      obtain ⟨g,off,eg,hg,cx⟩ := qau (qfe HJ.out.own (l := way'.map fun (k : Nat) => (k : Int)) (by simp) (by simp)) (j := j) (x := (x : Int)) (by rw [List.getElem?_map,hx]; rfl)
      have hm := HJ.out.map
      have HJl : Hid (FJ c ks id w wr b (.slice (some ⟨g,off,none⟩) s.n s.c) way' j ks2 f2) := by have h7 := HJ.out; rw [eg] at h7; exact h7
      rw [eg]
      clear HJ
      have HX : Hid (way'[j]? = some x) := hx
      clear hx hxm
      go_wp2_with (at_mapUpdate; refine qbk rfl _ _ _ 152 rfl Tryz.underlying152 b c.ress.length ks2 f2 rfl hm hn x hxn rfl ez hwf rfl ?_; intro w1 hm1 hg1)
      have HJ2 : Hid (FJ c ks id w w1 b (.slice (some ⟨g,off,none⟩) s.n s.c) way' (j + 1) (insK ks2 x) (setF f2 x ez)) := qmt HJl.out hm hm1 hg1 HX.out hbl (HE.out.2.1 x (List.mem_of_getElem? HX.out)).2
      clear hm hm1 hg1 HJl
      go_roundw
      case rel => exact ⟨j + 1,_,_,by omega,by go_num,HJ2.out⟩
      case measure => simp [intOf]; omega
     ·obtain rfl : j = s.n := by omega
      have hjl' : ¬ ((s.n : Nat) : Int) < (s.n : Nat) := by omega
      go_wp2
      go_ret
      refine ⟨qa3 HE.out.1,HJ.out.gr,HJ.out.kp,ks2,HJ.out.map.congr (fun k hk => ?_), ?_,HJ.out.kk,fun k hk => ?_⟩
      ·rcases HJ.out.ff k hk with h1 | h1
       ·exact h1
       ·rw [List.drop_eq_nil_of_le (by rw [hsn.out]; exact Nat.le_refl _)] at h1; cases h1
      ·rcases HE.out.2.2 with h1 | h1
       ·exact HJ.out.kk _ h1
       ·exact HJ.out.kw _ (by rw [List.take_of_length_le (by rw [hsn.out]; exact Nat.le_refl _)]; exact h1)
      ·rcases HJ.out.sub k hk with h1 | h1
       ·exact .inl h1
       ·exact .inr (by rw [(HE.out.2.1 k h1).2,HE.out.1])
   | true =>
    have hk2' : (y.kind != 2) = false := by simp only [bne,hk2]; rfl
    have hkn : y.kind = 2 := by simpa using hk2
    have hlq : 0 ≤ y.link ∧ y.link < c.ress.length := by simpa [isId] using HL.out y (List.mem_of_getElem? Hy.out) hkn
    obtain ⟨q,hq⟩ := Int.eq_ofNat_of_zero_le hlq.1
    have hqn : q < c.ress.length := by omega
    have hq63 : q < 9223372036854775808 := by omega
    rw [hq] at Hd
    clear hlq
    go_wp2_with (first | (at_builtin; refine wpList_append_own _ rfl (.tmp 20) (.tmp 22) 54 rfl w.heap.size 3 i0 (.int .i64 0) 1 8 Tryz.underlying54 hi0 hz0 hz1 hz2 rfl (by decide) _ _ _ rfl hO2 ⟨wr.heap.size,0,none⟩ 1 1 [I (z : Int)] rfl rfl (cell_one_new _ _ _) (by intro u hu; simp at hu; subst hu; rfl) (by unfold maxLen; omega) (by omega) (by simp; omega) ?_; intro v6 w6 ho6 hg6 _; obtain ⟨hM6,hG6,hK6⟩ := qpo HI.out hbl hg6; have d1 := hK6.cell _ _ _ Hd.out.1; clear hg6 hO2) | (at_mapUpdate; refine qbk rfl _ _ _ 152 rfl Tryz.underlying152 b c.ress.length ks1 f1 rfl hM6 hn z hzn rfl (-1) rfl rfl ?_; intro w7 hM7 hg7; have hK7 := hK6.trans (qih hM6 hg7); have d2 := hK7.cell _ _ _ Hd.out.2) | (at_lookup; refine qe5 rfl _ _ 152 rfl Tryz.underlying152 b c.ress.length _ _ rfl hM7 q hq63 rfl ?_; intro e7 m7 HX7))
    have HI7 : Hid (FI c ks id w w7 b v6 (way ++ [z]) q (insK ks1 z) (setF f1 z (-1))) := qu1 HI.out hz Hy.out hkn hq hqn (ho6.kept hg7 (by
     cases hv : v6.ownBlock with
     | none => exact .inl rfl
     | some g => exact .inr (fun e => by have := (ho6.lt g hv).1; cases e; omega))) hM7 (grown_same hG6 hg7) hK7
    have HLV : Hid (lenV v6 = way.length + 1 ∧ lenV u7 = way.length) := ⟨qkr ho6,qkr HI.out.own⟩
    clear ho6 hM6 hG6 hK6 d1 d2 hM7 hg7 hK7 HI hz
    go_roundw
    case rel => exact ⟨_,q,_,_,_,_,rfl,rfl,rfl,HX7,HI7⟩
    case measure =>
     have e1 := HLV.out.1
     have e2 := HLV.out.2
     show c.ress.length - lenV v6 < c.ress.length - lenV _
     omega
end Go.Proofs.YtmidaeljeoifdaaGreatDoor.Ce
