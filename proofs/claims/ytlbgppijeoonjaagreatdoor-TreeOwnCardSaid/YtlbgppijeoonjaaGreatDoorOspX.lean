import Derived.Test.YtlbgppijeoonjaaGreatDoorOtX
import Derived.Test.YtlbgppijeoonjaaGreatDoorAtc
import Derived.ArgAppend
import Derived.Maps.AppendAt
import Derived.Test.YtlbgppijeoonjaaGreatDoorTpX
namespace Go.Proofs.YtlbgppijeoonjaaGreatDoor.Own
open Go.RowKit
set_option linter.unusedVariables false

/-! ### The shape of attributes that are written over: rows whose slices lead on -/
inductive Sh (w : World) (F : Nat → Prop) : Value → Prop
  | nil : Sh w F (.slice none 0 0)
  | row {g n cap : Nat} (pv : Nat → Value) : F g → Blk w 34 12 g cap → n ≤ cap ∧ cap ≤ maxLen ∧ n ≤ 1048576 → (∀ j, j < n → w.cell? ⟨g, j * 12 + 9, none⟩ = some (pv j)) → (∀ j, j < n → Sh w F (pv j)) → Sh w F (.slice (some ⟨g, 0, none⟩) n cap)
theorem sh_of {w : World} {F : Nat → Prop} {v : Value} {l : List At} (h : AttrsAt w F v l) (hl : LenB 1048576 l) : Sh w F v := by
  induction h with
  | nil => exact .nil
  | @row g cap ps a b c d e ih =>
    have hle := hl.len
    rw [List.length_map] at hle
    refine .row (fun j => (ps.map Prod.snd).getD j (.slice none 0 0)) a b ⟨d.1, d.2, hle⟩ (fun j hj => ?_) (fun j hj => ?_)
    · have hp : ps[j]? = some ps[j] := List.getElem?_eq_getElem hj
      have h9 : (rowsA ps)[j * 12 + 9]? = some ps[j].2 := by
        have key : ∀ (qs : List (At × Value)) (j : Nat) (q : At × Value), qs[j]? = some q → (rowsA qs)[j * 12 + 9]? = some q.2 := by
          intro qs
          induction qs with
          | nil => intro j q h; simp at h
          | cons p qs ih2 =>
            intro j q h
            have hs : (atC p.1 p.2).toList.length = 12 := by obtain ⟨a, b⟩ := p; cases a; rfl
            have e1 : rowsA (p :: qs) = (atC p.1 p.2).toList ++ rowsA qs := rfl
            rw [e1]
            cases j with
            | zero =>
              obtain rfl : p = q := by simpa using h
              rw [List.getElem?_append_left (by omega)]
              obtain ⟨a, b⟩ := p
              cases a
              rfl
            | succ j =>
              rw [List.getElem?_append_right (by omega), hs, show (j + 1) * 12 + 9 - 12 = j * 12 + 9 by omega]
              exact ih2 j q (by simpa using h)
        exact key ps j _ hp
      rw [c _ _ h9, List.getD_eq_getElem?_getD, List.getElem?_map, hp]
      rfl
    · have hp : ps[j]? = some ps[j] := List.getElem?_eq_getElem hj
      rw [List.getD_eq_getElem?_getD, List.getElem?_map, hp]
      exact ih _ (List.getElem_mem hj) (hl.par (List.mem_map_of_mem (List.getElem_mem hj)))
/-- Steps that keep blocks, and slices or make them nil, keep the shape. -/
theorem sh_step {w w' : World} {F : Nat → Prop} (hB : ∀ g cap, F g → Blk w 34 12 g cap → Blk w' 34 12 g cap)
    (hc : ∀ g j pv, F g → w.cell? ⟨g, j * 12 + 9, none⟩ = some pv → w'.cell? ⟨g, j * 12 + 9, none⟩ = some pv ∨ w'.cell? ⟨g, j * 12 + 9, none⟩ = some (.slice none 0 0)) {v : Value} (h : Sh w F v) : Sh w' F v := by
  classical
  induction h with
  | nil => exact .nil
  | @row g n cap pv a b d c e ih =>
    refine .row (fun j => if w'.cell? ⟨g, j * 12 + 9, none⟩ = some (pv j) then pv j else .slice none 0 0) a (hB g cap a b) d (fun j hj => ?_) (fun j hj => ?_)
    · split
      · assumption
      · rename_i hne
        rcases hc g j (pv j) a (c j hj) with h | h
        · exact absurd h hne
        · exact h
    · split
      · exact ih j hj
      · exact .nil
theorem blk_set {w : World} {t : TypeId} {size g cap b i : Nat} (v : Value) (h : Blk w t size g cap) : Blk (w.setCell ⟨b, i, none⟩ v) t size g cap := by
  obtain ⟨cs, h1, h2⟩ := h
  by_cases e : g = b
  · subst e
    exact ⟨_, heap_setCell_same w g i cs t v h1, by simp [h2]⟩
  · exact ⟨cs, ((grown_set w b i v).block g (heap_lt h1) (fun e2 => by cases e2; exact e rfl)).trans h1, h2⟩
/-- A name's store keeps the shape. -/
theorem sh_name {w : World} {F : Nat → Prop} {b j : Nat} (v : Value) {u : Value} (h : Sh w F u) : Sh (w.setCell ⟨b, j * 12, none⟩ v) F u :=
  sh_step (fun g cap _ hb => blk_set v hb) (fun g k pv _ hk => .inl (by
    rw [World.cell?_setCell_other _ _ _ _ (fun e => by have := congrArg Addr.off e; simp at this; omega)]
    exact hk)) h
theorem sh_below {w w' : World} {F : Nat → Prop} (hb : Below w.heap.size w w') {u : Value} (h : Sh w F u) : Sh w' F u :=
  sh_step (fun g cap _ hk => hk.keep (hb.block _ hk.lt)) (fun g k pv _ hk => .inl (by
    have hl : g < w.heap.size := World.block_lt_of_cell? w ⟨g, k * 12 + 9, none⟩ hk
    rw [cell_below hb _ _ hl]
    exact hk)) h
theorem sh_inv {w : World} {F : Nat → Prop} {a : Option Addr} {n c k : Nat} (h : Sh w F (.slice a n c)) (hk : k < n) :
    ∃ g pv, a = some ⟨g, 0, none⟩ ∧ F g ∧ Blk w 34 12 g c ∧ n ≤ c ∧ c ≤ maxLen ∧ w.cell? ⟨g, k * 12 + 9, none⟩ = some pv ∧ Sh w F pv := by
  cases h with
  | nil => omega
  | @row g n cap pv a b d c e => exact ⟨g, pv k, rfl, a, b, d.1, d.2.1, c k hk, e k hk⟩
theorem sh_shape {w : World} {F : Nat → Prop} {v : Value} (h : Sh w F v) : ∃ a n c, v = .slice a n c ∧ n ≤ 1048576 := by
  cases h with
  | nil => exact ⟨_, _, _, rfl, Nat.zero_le _⟩
  | @row g n cap pv a b d c e => exact ⟨_, _, _, rfl, d.2.2⟩
end Go.Proofs.YtlbgppijeoonjaaGreatDoor.Own

namespace Go.Proofs.YtlbgppijeoonjaaGreatDoor.Own
open Go.RowKit
set_option linter.unusedVariables false

/-! ### A tree that is written over: what is out of its blocks is as it was, its slices lead on -/
theorem Blk.cell {w : World} {t : TypeId} {size g cap : Nat} (h : Blk w t size g cap) {j : Nat} (hj : j < cap * size) : ∃ u, w.cell? ⟨g, j, none⟩ = some u := by
  obtain ⟨cs, h1, h2⟩ := h
  refine ⟨cs[j]'(by omega), ?_⟩
  rw [cell_of_row w g j _ _ (0, 0) h1]
  exact Array.getElem?_eq_getElem _
theorem Blk.fz {w : World} {t : TypeId} {size g cap : Nat} (h : Blk w t size g cap) (j : Nat) : w.frozen? ⟨g, j, none⟩ = false := by
  obtain ⟨cs, h1, h2⟩ := h
  exact frozen_of_row w g j _ _ h1
theorem Blk.apart {w : World} {g cap cap' : Nat} (h : Blk w 34 12 g cap) {go : Nat} (h' : Blk w 71 8 go cap') : g ≠ go := by
  rintro rfl
  obtain ⟨cs, h1, _⟩ := h
  obtain ⟨cs', h1', _⟩ := h'
  rw [h1] at h1'
  cases h1'
theorem blk_sets {t : TypeId} {size g cap b : Nat} : ∀ (vs : List Value) (o : Nat) (w : World), Blk w t size g cap → Blk (w.setCells b o vs) t size g cap
  | [], _, _, h => h
  | v :: r, o, w, h => blk_sets r (o + 1) _ (blk_set v h)
theorem bel_sets {B b : Nat} {a : World} (hb : B ≤ b) : ∀ (vs : List Value) (o : Nat) (w : World), B ≤ w.heap.size → Below B a w → Below B a (w.setCells b o vs)
  | [], _, _, _, h => h
  | v :: r, o, w, hs, h => bel_sets hb r (o + 1) _ (Nat.le_trans hs (grown_set w b o v).size) (h.trans (below_of_grown (grown_set w b o v) hb hs))
theorem sets_other {b i : Nat} (hne : i ≠ b) : ∀ (vs : List Value) (o : Nat) (w : World), i < w.heap.size → (w.setCells b o vs).heap[i]? = w.heap[i]?
  | [], _, _, _ => rfl
  | v :: r, o, w, hi => (sets_other hne r (o + 1) _ (Nat.lt_of_lt_of_le hi (grown_set w b o v).size)).trans ((grown_set w b o v).block i hi (fun e => by cases e; exact hne rfl))
theorem below_none {a b : World} (h : a.grownBy b none) : Below a.heap.size a b := (Below.refl _ _).grown h (Nat.le_refl _) (fun k e => by cases e)
structure Sp (W0 w : World) (B bt go cap n : Nat) : Prop where
  bel : Below B W0 w
  hB : B ≤ bt
  size : W0.heap.size ≤ w.heap.size
  keep : ∀ g, g < W0.heap.size → ¬ (B ≤ g ∧ g < bt) → w.heap[g]? = W0.heap[g]?
  lt : bt ≤ W0.heap.size
  blk : n ≠ 0 → (B ≤ go ∧ go < bt) ∧ Blk w 71 8 go cap
  le : n ≤ cap
  row : ∀ j, j < n → ∃ v, w.cell? ⟨go, j * 8 + 5, none⟩ = some v ∧ Sh w (fun g => B ≤ g ∧ g < bt) v
theorem Sp.step {W0 w w' : World} {B bt go cap n : Nat} (h : Sp W0 w B bt go cap n) (hbel : Below B w w') (hk : ∀ g, g < W0.heap.size → ¬ (B ≤ g ∧ g < bt) → w'.heap[g]? = w.heap[g]?)
    (hB : ∀ t size g cap, Blk w t size g cap → Blk w' t size g cap) (h5 : n ≠ 0 → ∀ j v, j < n → w.cell? ⟨go, j * 8 + 5, none⟩ = some v → w'.cell? ⟨go, j * 8 + 5, none⟩ = some v)
    (h9 : ∀ g j pv, B ≤ g ∧ g < bt → w.cell? ⟨g, j * 12 + 9, none⟩ = some pv → w'.cell? ⟨g, j * 12 + 9, none⟩ = some pv ∨ w'.cell? ⟨g, j * 12 + 9, none⟩ = some (.slice none 0 0)) : Sp W0 w' B bt go cap n := by
  refine ⟨h.bel.trans hbel, h.hB, Nat.le_trans h.size hbel.size, fun g hg hr => (hk g hg hr).trans (h.keep g hg hr), h.lt, fun hn => ⟨(h.blk hn).1, hB _ _ _ _ (h.blk hn).2⟩, h.le, fun j hj => ?_⟩
  obtain ⟨v, e, hv⟩ := h.row j hj
  exact ⟨v, h5 (by omega) j v hj e, sh_step (fun g cap _ hb => hB _ _ _ _ hb) h9 hv⟩
/-- A name is written over. -/
theorem Sp.name {W0 w : World} {B bt go cap n : Nat} (h : Sp W0 w B bt go cap n) {g : Nat} (hg : (B ≤ g ∧ g < bt) ∨ W0.heap.size ≤ g) (j : Nat) (v : Value) : Sp W0 (w.setCell ⟨g, j * 12, none⟩ v) B bt go cap n := by
  have hgr := grown_set w g (j * 12) v
  have hlt := h.lt
  have hsz := h.size
  have hBt := h.hB
  refine h.step (below_of_grown hgr (by omega) (by omega)) (fun b hb hr => hgr.block b (by omega) (fun e => by cases e; omega)) (fun t size b c hb => blk_set v hb) (fun _ i u hi e => ?_) (fun b i u hb e => .inl ?_)
  · rw [World.cell?_setCell_other _ _ _ _ (fun e => by have := congrArg Addr.off e; simp at this; omega)]
    exact e
  · rw [World.cell?_setCell_other _ _ _ _ (fun e => by have := congrArg Addr.off e; simp at this; omega)]
    exact e
/-- An object's kind is written over. -/
theorem Sp.kind {W0 w : World} {B bt go cap n : Nat} (h : Sp W0 w B bt go cap n) (hn : n ≠ 0) (j : Nat) (v : Value) : Sp W0 (w.setCell ⟨go, j * 8, none⟩ v) B bt go cap n := by
  have hgr := grown_set w go (j * 8) v
  have hgo := (h.blk hn).1
  have hlt := h.lt
  have hsz := h.size
  have hBt := h.hB
  refine h.step (below_of_grown hgr (by omega) (by omega)) (fun b hb hr => hgr.block b (by omega) (fun e => by cases e; omega)) (fun t size b c hb => blk_set v hb) (fun _ i u hi e => ?_) (fun b i u hb e => .inl ?_)
  · rw [World.cell?_setCell_other _ _ _ _ (fun e => by have := congrArg Addr.off e; simp at this; omega)]
    exact e
  · rw [World.cell?_setCell_other _ _ _ _ (fun e => by have := congrArg Addr.off e; simp at this; omega)]
    exact e
theorem Sp.below {W0 w w' : World} {B bt go cap n : Nat} (h : Sp W0 w B bt go cap n) (hb : Below w.heap.size w w') : Sp W0 w' B bt go cap n := by
  have hsz := h.size
  have hBt := h.hB
  have hlt := h.lt
  refine h.step (hb.mono (by omega)) (fun g hg hr => hb.block g (by omega)) (fun t size b c hk => hk.keep (hb.block _ hk.lt)) (fun _ i u hi e => ?_) (fun b i u hF e => .inl ?_)
  · rw [cell_below hb _ _ (World.block_lt_of_cell? w _ e)]; exact e
  · rw [cell_below hb _ _ (World.block_lt_of_cell? w _ e)]; exact e
/-- The row that grows: it lies in the tree's blocks, or in new memory. -/
def Lr (W0 w : World) (B bt : Nat) (v : Value) (n : Nat) : Prop :=
  (v = .slice none 0 0 ∧ n = 0) ∨ ∃ g cap, v = .slice (some ⟨g, 0, none⟩) n cap ∧ ((B ≤ g ∧ g < bt) ∨ W0.heap.size ≤ g) ∧ Blk w 34 12 g cap ∧ n ≤ cap ∧ cap ≤ maxLen
theorem lr_sh {W0 w : World} {B bt : Nat} {a : Option Addr} {n cap : Nat} (h : Sh w (fun g => B ≤ g ∧ g < bt) (.slice a n cap)) : Lr W0 w B bt (.slice a n cap) n := by
  cases h with
  | nil => exact .inl ⟨rfl, rfl⟩
  | @row g n cap pv a b d c e => exact .inr ⟨g, cap, rfl, .inl a, b, d.1, d.2.1⟩
theorem Lr.shape {W0 w : World} {B bt : Nat} {v : Value} {n : Nat} (h : Lr W0 w B bt v n) : ∃ a cap, v = .slice a n cap := by
  obtain ⟨rfl, rfl⟩ | ⟨g, cap, rfl, _⟩ := h
  · exact ⟨_, _, rfl⟩
  · exact ⟨_, _, rfl⟩
theorem Lr.below {W0 w w' : World} {B bt : Nat} {v : Value} {n : Nat} (h : Lr W0 w B bt v n) (hb : Below w.heap.size w w') : Lr W0 w' B bt v n := by
  obtain h | ⟨g, cap, e, h1, h2, h3⟩ := h
  · exact .inl h
  · exact .inr ⟨g, cap, e, h1, h2.keep (hb.block _ h2.lt), h3⟩
theorem lr_own {W0 w w' : World} {B bt : Nat} {v : Value} {n : Nat} {xs : List Value} (hs : W0.heap.size ≤ w.heap.size) (h : w'.ownsRow w.heap.size 34 12 v n xs) : Lr W0 w' B bt v n := by
  obtain ⟨hl, ⟨rfl, rfl⟩ | ⟨g, cap, cur, rfl, hb, hh, h1, h2, h3, h4⟩⟩ := h
  · exact .inl ⟨rfl, rfl⟩
  · exact .inr ⟨g, cap, rfl, .inr (by omega), ⟨cur, hh, h3⟩, h1, h2⟩
def more12 (s : ByteArray) : List Value := [.string s, .int .i64 0, .int .i64 0, .int .i64 0, .int .i64 0, .string ⟨#[]⟩, .int .u32 0, .bool false, .bool false, .slice none 0 0, .bool false, .string ⟨#[]⟩]
theorem more12_one (s : ByteArray) : ∀ u ∈ more12 s, u.oneCell' = true := by
  intro u hu
  simp [more12] at hu
  rcases hu with rfl | rfl | rfl | rfl | rfl | rfl | rfl | rfl | rfl | rfl | rfl | rfl <;> rfl
theorem run_app_lr {W0 w : World} {B bt go cap n : Nat} (t : TypeId) (ty : TypeId) (i : TypeInfo) (z : Value) (ht : Tryz.prog.underlying t = some (.slice 34)) (hi : Tryz.prog.info? 34 = some i) (hz : i.zero = some z)
    (hsize : i.size = 12) (hby : i.bytes = 128) (hzs : z.cells.size = 12) (hSp : Sp W0 w B bt go cap n) {v : Value} {m : Nat} (hL : Lr W0 w B bt v m) (hm : m ≤ 1048576 + 20) (ad : Addr) (c : Nat) (s : ByteArray)
    (hnews : ∀ j u, (more12 s)[j]? = some u → w.cell? (ad.add j) = some u) :
    ∃ v' w', (Builtin.append_ #[t, t] ty #[v, .slice (some ad) 1 c]).run Tryz.prog w = .ok v' w' ∧ Sp W0 w' B bt go cap n ∧ Lr W0 w' B bt v' (m + 1) := by
  have hsz := hSp.size
  have hlt := hSp.lt
  have hBt := hSp.hB
  obtain ⟨rfl, rfl⟩ | ⟨g, c', rfl, hg, hb, hle, hmax⟩ := hL
  · obtain ⟨v', w', hr, h2, h3, h4, h5⟩ := run_append_own_at (P := Tryz.prog) w w.heap.size t ty 34 i z 12 128 ht hi hz hsize hby hzs (by decide) (.slice none 0 0) 0 [] ⟨rfl, .inl ⟨rfl, rfl⟩⟩ ad 1 c (more12 s) rfl hnews (more12_one s) (by decide) (by decide) (Nat.le_refl _)
    exact ⟨v', w', hr, hSp.below (below_none h3), lr_own hsz h2⟩
  · by_cases hroom : m + 1 ≤ c'
    · have hj : ∀ j, j < (more12 s).length → (w.cell? ⟨g, 0 + m * i.size + j, none⟩).isSome = true := fun j hj => by
        rw [hsize]
        have hj' : j < 12 := hj
        obtain ⟨u, hu⟩ := hb.cell (j := 0 + m * 12 + j) (by have := Nat.mul_le_mul_right 12 hroom; omega)
        rw [hu]
        rfl
      have hr := run_append_room_cells (P := Tryz.prog) w t ty 34 i ht hi g 0 m c' ad 1 c (more12 s) (by rw [hsize]; rfl) hnews (more12_one s) hroom hj (fun j _ => hb.fz _)
      rw [hsize] at hr hj
      rw [Nat.zero_add] at hr
      refine ⟨_, _, hr, ?_, .inr ⟨g, c', rfl, hg, blk_sets _ _ _ hb, hroom, hmax⟩⟩
      refine hSp.step (bel_sets (by omega) _ _ _ (by omega) (Below.refl _ _)) (fun b hb2 hr2 => sets_other (fun e => by subst e; omega) _ _ _ (by omega)) (fun t size b c hb => blk_sets _ _ _ hb) (fun hn i u hi e => ?_) (fun b i u hb2 e => ?_)
      · rw [World.cell?_setCells_out]
        · exact e
        · intro e1 _
          exact absurd e1.symm (hb.apart (hSp.blk hn).2)
      · by_cases hbi : b = g ∧ i = m
        · obtain ⟨rfl, rfl⟩ := hbi
          right
          have := World.cell?_setCells_in b (more12 s) (i * 12) w (by simpa using hj) 9 (by show 9 < 12; decide)
          exact this
        · left
          rw [World.cell?_setCells_out]
          · exact e
          · intro e1 _
            dsimp only at e1 ⊢
            have : (more12 s).length = 12 := rfl
            omega
    · obtain ⟨olds, hlo, holds⟩ : ∃ olds : List Value, olds.length = m * 12 ∧ ∀ j u, olds[j]? = some u → w.cell? ((⟨g, 0, none⟩ : Addr).add j) = some u := by
        obtain ⟨cs, h1, h2⟩ := hb
        refine ⟨cs.toList.take (m * 12), ?_, fun j u hj => ?_⟩
        · rw [List.length_take, Array.length_toList]
          have := Nat.mul_le_mul_right 12 hle
          omega
        · rw [Lib.add_plain, Nat.zero_add, cell_of_row w g j _ _ (0, 0) h1, ← Array.getElem?_toList]
          rw [List.getElem?_take] at hj
          split at hj
          · exact hj
          · cases hj
      obtain ⟨v', w', hr, h2, h3⟩ := run_append_arg_grows (P := Tryz.prog) w t ty 34 i z 12 128 ht hi hz hsize hby hzs (by decide) ⟨g, 0, none⟩ m c' olds hlo holds ad 1 c (more12 s) rfl hnews (by omega) (by unfold maxLen; omega) (by omega)
      exact ⟨v', w', hr, hSp.below (below_none h3), lr_own hsz h2⟩
theorem wpList_app_lr {W0 w : World} {B bt go cap n : Nat} {ops : Array Oper} {rest : List Oper} {o : Oper} {a : Act} {Q : Exit → Act → World → Prop} (hgd : o.guard = none) (sx x : Operand) 
    (ho : o.op = .call { callee := .builtin .append, args := #[sx, x], argTypes := #[32, 32] }) (hSp : Sp W0 w B bt go cap n) {v : Value} {m : Nat} (hL : Lr W0 w B bt v m) (hm : m ≤ 1048576 + 20) {ad : Addr} {c : Nat} {s : ByteArray}
    (hs : a.eval sx = v) (hx : a.eval x = .slice (some ad) 1 c) (hnews : ∀ j u, (more12 s)[j]? = some u → w.cell? (ad.add j) = some u)
    (h : ∀ v' w', Sp W0 w' B bt go cap n → Lr W0 w' B bt v' (m + 1) → wpList Tryz.prog ops Q rest (a.put o.dst v') w') : wpList Tryz.prog ops Q (o :: rest) a w := by
  refine wpList_plain hgd fun K hK => ?_
  obtain ⟨i0, hi0, hz0, hz1, hz2⟩ := info_parts Tryz.info34
  obtain ⟨v', w', hr, h2, h3⟩ := run_app_lr 32 o.type i0 (.agg zero12) Tryz.underlying32 hi0 hz0 hz1 hz2 rfl hSp hL hm ad c s hnews
  unfold Oper.wp execOp
  simp only [ho, resolve, invoke, builtin, Sem.run_bind, Sem.run_pure, Result.andThen_ok, List.map_toArray, List.map_cons, List.map_nil, hs, hx, hr]
  exact hK _ _ (h v' w' h2 h3)
end Go.Proofs.YtlbgppijeoonjaaGreatDoor.Own

namespace Go.Proofs.YtlbgppijeoonjaaGreatDoor
set_option linter.unusedVariables false

/-! ### How long the lists are that a text's tokens make -/
theorem pr_bind {α β : Type} {m : PR α} {f : α → List Tp → PR β} {b : β} {s : List Tp} (h : m.bind f = .ok b s) : ∃ a r, m = .ok a r ∧ f a r = .ok b s := by
  cases m with
  | ok a r => exact ⟨a, r, rfl, h⟩
  | bad c x => cases h
theorem lenb_all (N : Nat) (f : Nat) : f ≤ N → (∀ d xs a r, attrL f d xs = .ok a r → LenB N a.params) ∧ (∀ d xs l r, attrsL f d xs = .ok l r → LenB N l) ∧
    (∀ d l xs l' r, rowL f d l xs = .ok l' r → l.length + f ≤ N → (∀ a, a ∈ l → LenB N a.params) → LenB N l') := by
  induction f with
  | zero =>
    intro _
    refine ⟨fun d xs a r h => ?_, fun d xs l r h => ?_, fun d l xs l' r h _ _ => ?_⟩
    · rw [attrL] at h; cases h
    · rw [attrsL] at h; cases h
    · rw [rowL] at h; cases h
  | succ f ih =>
    intro hf
    obtain ⟨i1, i2, i3⟩ := ih (by omega)
    refine ⟨fun d xs a r h => ?_, fun d xs l r h => ?_, fun d l xs l' r h hl ha => ?_⟩
    · rw [attrL] at h
      obtain ⟨_, _, _, h⟩ := pr_bind h
      obtain ⟨_, _, _, h⟩ := pr_bind h
      obtain ⟨_, _, _, h⟩ := pr_bind h
      obtain ⟨bp, _, h0, h⟩ := pr_bind h
      obtain ⟨_, _, _, h⟩ := pr_bind h
      obtain ⟨_, _, _, h⟩ := pr_bind h
      cases h
      split at h0
      · split at h0
        · cases h0
        · obtain ⟨_, _, h1, h0⟩ := pr_bind h0
          cases h0
          exact i2 _ _ _ _ h1
      · cases h0
        exact .mk (Nat.zero_le _) (fun a ha => by cases ha)
    · rw [attrsL] at h
      obtain ⟨_, _, _, h⟩ := pr_bind h
      exact i3 _ _ _ _ _ h (by simp; omega) (fun a ha => by cases ha)
    · rw [rowL] at h
      split at h
      · obtain ⟨_, _, _, h⟩ := pr_bind h
        cases h
        exact .mk (by omega) ha
      · obtain ⟨a, _, h1, h⟩ := pr_bind h
        refine i3 _ _ _ _ _ h (by simp; omega) (fun b hb => ?_)
        rcases List.mem_append.1 hb with hb | hb
        · exact ha b hb
        · obtain rfl := List.mem_singleton.1 hb
          exact i1 _ _ _ _ h1
theorem lenb_objs (N f : Nat) (hf : f ≤ N) (g : Nat) : ∀ (l : List Ob) (xs : List Tp) (l' : List Ob) (r : List Tp), objsL f g l xs = .ok l' r → l.length + g ≤ N → (∀ o, o ∈ l → LenB N o.attrs) → l'.length ≤ N ∧ ∀ o, o ∈ l' → LenB N o.attrs := by
  induction g with
  | zero => intro l xs l' r h; rw [objsL] at h; cases h
  | succ g ih =>
    intro l xs l' r h hl ha
    rw [objsL] at h
    split at h
    · cases h
      exact ⟨by omega, ha⟩
    · obtain ⟨o, _, h1, h⟩ := pr_bind h
      refine ih _ _ _ _ h (by simp; omega) (fun b hb => ?_)
      rcases List.mem_append.1 hb with hb | hb
      · exact ha b hb
      · obtain rfl := List.mem_singleton.1 hb
        unfold objectL at h1
        obtain ⟨_, _, _, h1⟩ := pr_bind h1
        obtain ⟨_, _, _, h1⟩ := pr_bind h1
        obtain ⟨_, _, h2, h1⟩ := pr_bind h1
        obtain ⟨_, _, _, h1⟩ := pr_bind h1
        obtain ⟨_, _, _, h1⟩ := pr_bind h1
        cases h1
        exact (lenb_all N f hf).2.1 _ _ _ _ h2
theorem lenb_text (N f : Nat) (hf : f ≤ N) {xs : List Tp} {tr : Tr} {r : List Tp} (h : textL f xs = .ok tr r) : tr.objs.length ≤ N ∧ ∀ o, o ∈ tr.objs → LenB N o.attrs := by
  unfold textL at h
  obtain ⟨_, _, _, h⟩ := pr_bind h
  obtain ⟨_, _, _, h⟩ := pr_bind h
  obtain ⟨_, _, _, h⟩ := pr_bind h
  obtain ⟨_, _, _, h⟩ := pr_bind h
  obtain ⟨_, _, _, h⟩ := pr_bind h
  obtain ⟨_, _, _, h⟩ := pr_bind h
  obtain ⟨_, _, _, h⟩ := pr_bind h
  obtain ⟨os, _, h2, h⟩ := pr_bind h
  obtain ⟨_, _, _, h⟩ := pr_bind h
  obtain ⟨_, _, _, h⟩ := pr_bind h
  obtain ⟨_, _, _, h⟩ := pr_bind h
  obtain ⟨_, _, _, h⟩ := pr_bind h
  cases h
  exact lenb_objs N f hf f [] _ _ _ h2 (by simpa using hf) (fun o ho => by cases ho)
theorem len_parse {t : List UInt8} {tr : Tr} (h : parseL t = .inl tr) : tr.objs.length ≤ 1048576 ∧ ∀ o, o ∈ tr.objs → LenB 1048576 o.attrs := by
  unfold parseL at h
  cases hs : scanA t with
  | inr x => rw [hs] at h; cases h
  | inl ts =>
    rw [hs] at h
    dsimp only at h
    have hl : 2 * ts.length ≤ 1048576 := by
      obtain ⟨hg, hl⟩ := scanA_good hs
      have := (good_end hg).2
      omega
    cases ht : textL (2 * ts.length) (ts.map (tpOf t)) with
    | bad c x => rw [ht] at h; cases h
    | ok tr' r =>
      rw [ht] at h
      cases h
      exact lenb_text _ _ hl ht
end Go.Proofs.YtlbgppijeoonjaaGreatDoor

