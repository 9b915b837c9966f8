import Derived.Test.YtglnfifdjlgbcaaGreatDoorXQn
import Derived.Deep.DeepAppendWide
namespace Go.Proofs.YtglnfifdjlgbcaaGreatDoor
open Go.RowKit Go.Maps Go.Shelf Go.Sort
open Go.Proofs.YtglnfifdjlgbcaaGreatDoor.St (Fx Fz iQ iP iV)
set_option linter.unusedVariables false
set_option linter.unusedSimpArgs false

/-! ### Rows, cloned -/
theorem own_slk19 {w : World} {b E k n : Nat} {v : Value} {xs : List Value} (h : w.ownsRow b E k v n xs) : ∃ a cc, v = .slice a n cc := by
  obtain ⟨_, ⟨h1, rfl⟩ | ⟨g, cap, cur, h1, _⟩⟩ := h
  · exact ⟨none, 0, h1⟩
  · exact ⟨_, cap, h1⟩
theorem ints_row {w : World} {q k : Nat} {a : Option Addr} {l : List Int} (h : w.ownsRow q 3 1 (.slice a l.length k) l.length (iV l)) : RowsAt w 1 intP ⟨a, l.length, k⟩ l ∧ (l ≠ [] → ∃ g, a = some ⟨g, 0, none⟩ ∧ q ≤ g ∧ g < w.heap.size) := by
  obtain ⟨h0, ⟨h1, h2⟩ | ⟨g, cap, cur, h1, h2, h3, h4, h5, h6, h7⟩⟩ := id h
  · have : l = [] := List.length_eq_zero_iff.1 h2
    subst this
    cases h1
    exact ⟨⟨rfl, Nat.le_refl _, Nat.zero_le _, fun j x hj => by cases hj⟩, fun e => absurd rfl e⟩
  · cases h1
    refine ⟨⟨rfl, h4, h5, fun j x hj => ⟨g, 0, rfl, heap_lt h3, fun i hi => ?_⟩⟩, fun _ => ⟨g, rfl, h2, heap_lt h3⟩⟩
    have hi0 : i = 0 := by omega
    subst hi0
    have hlt := (List.getElem?_eq_some_iff.1 hj).1
    refine ⟨I x, ?_, rfl⟩
    rw [show 0 + j * 1 + 0 = j by omega, h.cellAt j (by omega)]
    simp [iV, hj]
set_option maxRecDepth 100000 in
set_option maxHeartbeats 4000000 in
theorem cloneI_any (w : World) (s : Sl) (l : List Int) (hl : RowsAt w 1 intP s l) (hll : l.length ≤ 1048576) : Calls Tryz.prog 261 #[.slice s.a s.n s.c] w fun e w' => ∃ so : Sl, e = .returned (.slice so.a so.n so.c) ∧ RowsAt w' 1 intP so l ∧ (l ≠ [] → ∃ g, so.a = some ⟨g, 0, none⟩ ∧ w.heap.size ≤ g ∧ g < w'.heap.size) ∧ Below w.heap.size w w' := by
  have hq : ∀ (w : World) (a : Option Addr) (n c n' c' : Nat), (binOp .eql 31 (.slice a n c) (.slice none n' c')).run Tryz.prog w = .ok (.bool a.isNone) w := fun w a n c n' c' => Lib.run_eql_slice_nil w _ _ a n c n' c' Tryz.underlying31
  obtain ⟨i0, hi0, hz0, hz1, hz2⟩ := info_parts iinfo9
  obtain ⟨a, n, c⟩ := s
  have hn : n = l.length := hl.n
  subst hn
  cases a with
  | none =>
    have h0 : l = [] := by
      cases l with
      | nil => rfl
      | cons x r => obtain ⟨g, off, e, _⟩ := hl.row 0 x rfl; cases e
    subst h0
    clear hl
    go_enter Tryz.func261, Tryz.ntmps261
    go_wp2
    go_ret
    exact ⟨⟨none, 0, 0⟩, rfl, ⟨rfl, Nat.le_refl _, Nat.zero_le _, fun j x hj => by cases hj⟩, fun e => absurd rfl e, Below.refl _ _⟩
  | some ad =>
    have hown := World.ownsRow_lit (base := w.heap.size) (e := 3) (size := 1) w #[] 0 (Nat.le_refl _) (Nat.zero_le _) rfl
    have HNL : Hid ((iV l).length = l.length * 1) := by show _ = _; simp [iV]
    have hcl : ∀ j u, (iV l)[j]? = some u → (w.alloc (.cells #[] 3)).cell? (ad.add j) = some u := fun j u hj => by
      unfold iV at hj
      rw [List.getElem?_map] at hj
      cases e : l[j]? with
      | none => rw [e] at hj; cases hj
      | some i =>
        rw [e] at hj
        cases hj
        obtain ⟨g, off, e2, hg, hr⟩ := hl.row j i e
        cases e2
        obtain ⟨u, b5, b6⟩ := hr 0 (by omega)
        have : u = I i := b6
        subst this
        rw [St.addr_add, World.cell?_of_block ((below_alloc w _).block g hg)]
        rw [show off + j * 1 + 0 = off + j by omega] at b5
        exact b5
    have ho : ∀ u ∈ (iV l), u.oneCell' = true := fun u hu => by obtain ⟨i, _, rfl⟩ := List.mem_map.1 hu; rfl
    clear hl
    go_enter Tryz.func261, Tryz.ntmps261
    go_wp2_with (at_builtin; refine wpList_append_own _ rfl _ _ 31 rfl w.heap.size 3 i0 (.int .i64 0) 1 8 Tryz.underlying31 hi0 hz0 hz1 hz2 rfl (by decide) _ 0 _ rfl hown ad l.length c (iV l) rfl HNL.out hcl ho (by unfold maxLen; omega) (by omega) (by simp) ?_)
    intro v6 w6 ho6 hg6 _
    have hb6 : Below w.heap.size w w6 := ((Below.refl w.heap.size w).alloc (Nat.le_refl _) _).grown hg6 (by simp) (fun k e => by simp [Value.ownBlock] at e; omega)
    obtain ⟨a6, k6, rfl⟩ := own_slk19 ho6
    have HO : Hid (w6.ownsRow w.heap.size 3 1 (.slice a6 l.length k6) l.length (iV l) ∧ Below w.heap.size w w6) := ⟨ho6, hb6⟩
    clear ho6 hg6 hown hcl ho hb6
    go_wp2
    go_ret
    have h7 := HO.out.1
    obtain ⟨k1, k2⟩ := ints_row h7
    exact ⟨⟨a6, l.length, k6⟩, rfl, k1, k2, HO.out.2⟩
def fl2 : List RsR → List Value
  | [] => []
  | x :: l => .bool x.inner :: I x.ceil :: fl2 l
theorem fl2_len : ∀ l : List RsR, (fl2 l).length = l.length * 2
  | [] => rfl
  | x :: l => by simp [fl2, fl2_len l]; omega
theorem fl2_at : ∀ {l : List RsR} {k : Nat} {x : RsR}, l[k]? = some x → (fl2 l)[k * 2]? = some (.bool x.inner) ∧ (fl2 l)[k * 2 + 1]? = some (I x.ceil)
  | z :: l, 0, x, h => by cases h; exact ⟨rfl, rfl⟩
  | z :: l, k + 1, x, h => by
    have := fl2_at (l := l) (k := k) (x := x) (by simpa using h)
    rw [show (k + 1) * 2 = k * 2 + 1 + 1 by omega]
    simpa [fl2] using this
theorem fl2_inv : ∀ {l : List RsR} {j : Nat} {u : Value}, (fl2 l)[j]? = some u → ∃ k x, l[k]? = some x ∧ ((j = k * 2 ∧ u = .bool x.inner) ∨ (j = k * 2 + 1 ∧ u = I x.ceil))
  | z :: l, 0, u, h => by cases h; exact ⟨0, z, rfl, .inl ⟨rfl, rfl⟩⟩
  | z :: l, 1, u, h => by cases h; exact ⟨0, z, rfl, .inr ⟨rfl, rfl⟩⟩
  | z :: l, j + 2, u, h => by
    obtain ⟨k, x, h1, h2⟩ := fl2_inv (l := l) (j := j) (u := u) (by simpa [fl2] using h)
    refine ⟨k + 1, x, by simpa using h1, ?_⟩
    rcases h2 with ⟨h2, h3⟩ | ⟨h2, h3⟩
    · exact .inl ⟨by omega, h3⟩
    · exact .inr ⟨by omega, h3⟩
theorem res_row {w : World} {q k : Nat} {a : Option Addr} {l : List RsR} (h : w.ownsRow q 151 2 (.slice a l.length k) l.length (fl2 l)) : RowsAt w 2 rsrP ⟨a, l.length, k⟩ l ∧ (l ≠ [] → ∃ g, a = some ⟨g, 0, none⟩ ∧ q ≤ g ∧ g < w.heap.size) := by
  obtain ⟨h0, ⟨h1, h2⟩ | ⟨g, cap, cur, h1, h2, h3, h4, h5, h6, h7⟩⟩ := id h
  · have : l = [] := List.length_eq_zero_iff.1 h2
    subst this
    cases h1
    exact ⟨⟨rfl, Nat.le_refl _, Nat.zero_le _, fun j x hj => by cases hj⟩, fun e => absurd rfl e⟩
  · cases h1
    refine ⟨⟨rfl, h4, h5, fun j x hj => ⟨g, 0, rfl, heap_lt h3, fun i hi => ?_⟩⟩, fun _ => ⟨g, rfl, h2, heap_lt h3⟩⟩
    have hlt := (List.getElem?_eq_some_iff.1 hj).1
    obtain ⟨e1, e2⟩ := fl2_at hj
    match i, hi with
    | 0, _ => exact ⟨.bool x.inner, by rw [show 0 + j * 2 + 0 = j * 2 by omega, h.cellAt _ (by omega)]; exact e1, rfl⟩
    | 1, _ => exact ⟨I x.ceil, by rw [show 0 + j * 2 + 1 = j * 2 + 1 by omega, h.cellAt _ (by omega)]; exact e2, rfl⟩
theorem rinfo9 : (Tryz.prog.info? 151).map (fun i => (i.zero, i.size, i.bytes)) = some (some (.agg #[.bool false, I 0]), 2, 16) := by kernel_rfl
set_option maxRecDepth 100000 in
set_option maxHeartbeats 4000000 in
theorem cloneR_any (w : World) (s : Sl) (l : List RsR) (hl : RowsAt w 2 rsrP s l) (hll : l.length ≤ 1048576) : Calls Tryz.prog 102 #[.slice s.a s.n s.c] w fun e w' => ∃ so : Sl, e = .returned (.slice so.a so.n so.c) ∧ RowsAt w' 2 rsrP so l ∧ (l ≠ [] → ∃ g, so.a = some ⟨g, 0, none⟩ ∧ w.heap.size ≤ g ∧ g < w'.heap.size) ∧ Below w.heap.size w w' := by
  have hq : ∀ (w : World) (a : Option Addr) (n c n' c' : Nat), (binOp .eql 24 (.slice a n c) (.slice none n' c')).run Tryz.prog w = .ok (.bool a.isNone) w := fun w a n c n' c' => Lib.run_eql_slice_nil w _ _ a n c n' c' Tryz.underlying24
  obtain ⟨i0, hi0, hz0, hz1, hz2⟩ := info_parts rinfo9
  obtain ⟨a, n, c⟩ := s
  have hn : n = l.length := hl.n
  subst hn
  cases a with
  | none =>
    have h0 : l = [] := by
      cases l with
      | nil => rfl
      | cons x r => obtain ⟨g, off, e, _⟩ := hl.row 0 x rfl; cases e
    subst h0
    clear hl
    go_enter Tryz.func102, Tryz.ntmps102
    go_wp2
    go_ret
    exact ⟨⟨none, 0, 0⟩, rfl, ⟨rfl, Nat.le_refl _, Nat.zero_le _, fun j x hj => by cases hj⟩, fun e => absurd rfl e, Below.refl _ _⟩
  | some ad =>
    have hown := World.ownsRow_lit (base := w.heap.size) (e := 151) (size := 2) w #[] 0 (Nat.le_refl _) (Nat.zero_le _) rfl
    have HNL : Hid ((fl2 l).length = l.length * 2) := fl2_len l
    have hcl : ∀ j u, (fl2 l)[j]? = some u → (w.alloc (.cells #[] 151)).cell? (ad.add j) = some u := fun j u hj => by
      obtain ⟨k, x, hx, hk⟩ := fl2_inv hj
      obtain ⟨g, off, e2, hg, hr⟩ := hl.row k x hx
      cases e2
      rw [St.addr_add, World.cell?_of_block ((below_alloc w _).block g hg)]
      rcases hk with ⟨rfl, rfl⟩ | ⟨rfl, rfl⟩
      · obtain ⟨u, b5, b6⟩ := hr 0 (by omega)
        have : u = .bool x.inner := b6
        subst this
        exact b5
      · obtain ⟨u, b5, b6⟩ := hr 1 (by omega)
        have : u = I x.ceil := b6
        subst this
        exact b5
    have ho : ∀ u ∈ (fl2 l), u.oneCell' = true := fun u hu => by
      obtain ⟨j, hj⟩ := List.getElem?_of_mem hu
      obtain ⟨k, x, _, ⟨_, rfl⟩ | ⟨_, rfl⟩⟩ := fl2_inv hj <;> rfl
    clear hl
    go_enter Tryz.func102, Tryz.ntmps102
    go_wp2_with (at_builtin; refine wpList_append_own _ rfl _ _ 24 rfl w.heap.size 151 i0 (.agg #[.bool false, I 0]) 2 16 Tryz.underlying24 hi0 hz0 hz1 hz2 rfl (by decide) _ 0 _ rfl hown ad l.length c (fl2 l) rfl HNL.out hcl ho (by unfold maxLen; omega) (by omega) (by simp) ?_)
    intro v6 w6 ho6 hg6 _
    have hb6 : Below w.heap.size w w6 := ((Below.refl w.heap.size w).alloc (Nat.le_refl _) _).grown hg6 (by simp) (fun k e => by simp [Value.ownBlock] at e; omega)
    obtain ⟨a6, k6, rfl⟩ := own_slk19 ho6
    have HO : Hid (w6.ownsRow w.heap.size 151 2 (.slice a6 l.length k6) l.length (fl2 l) ∧ Below w.heap.size w w6) := ⟨ho6, hb6⟩
    clear ho6 hg6 hown hcl ho hb6
    go_wp2
    go_ret
    have h7 := HO.out.1
    obtain ⟨k1, k2⟩ := res_row h7
    exact ⟨⟨a6, l.length, k6⟩, rfl, k1, k2, HO.out.2⟩
/-! ### A new owner -/
set_option maxRecDepth 100000 in
set_option maxHeartbeats 4000000 in
theorem newOwner_any (w : World) (p : Int) (s : Sl) (l : List Int) (hl : RowsAt w 1 intP s l) (hll : l.length ≤ 1024) : Calls Tryz.prog 213 #[I p, .slice s.a s.n s.c] w fun e w' => ∃ (q : Nat) (so : Sl) (sb gb : Nat), e = .returned (lp q) ∧ w'.heap[q]? = some (.cells #[I p, I 0, .slice so.a so.n so.c, I (-1), .bool false, lp sb] 235) ∧ RowsAt w' 1 intP so l ∧ (l ≠ [] → ∃ g, so.a = some ⟨g, 0, none⟩ ∧ w.heap.size ≤ g ∧ g < w'.heap.size ∧ g ≠ q ∧ g ≠ sb ∧ g ≠ gb) ∧ iQ w' sb gb l.length 0 [] ∧ w.heap.size ≤ q ∧ w.heap.size ≤ sb ∧ w.heap.size ≤ gb ∧ Below w.heap.size w w' := by
  have hN := St.iNewQ w l.length hll
  have HL : Hid (RowsAt w 1 intP s l) := hl
  have hsn : s.n = l.length := hl.n
  have HC : Hid (s.n ≤ s.c ∧ s.c ≤ maxLen) := ⟨hl.c, hl.m⟩
  obtain ⟨sa, sn, sc⟩ := s
  subst hsn
  clear hl
  go_enter Tryz.func213, Tryz.ntmps213
  go_upto_region 2 with (first | (go_at_call 33; refine hN.mono ?_; clear hN; rintro e w1 ⟨rfl, hk1, hb1⟩))
  have hCl := cloneI_any w1 ⟨sa, l.length, sc⟩ l (HL.out.below hb1 (fun _ _ _ _ h => h)) (by omega)
  have HK : Hid (iQ w1 (w.heap.size + 1) w.heap.size l.length 0 [] ∧ Below w.heap.size w w1) := ⟨hk1, hb1⟩
  clear hk1 hb1
  go_wp2_with (first | (go_at_call 261; refine hCl.mono ?_; clear hCl; rintro e w2 ⟨so, rfl, h1, h2, h3⟩))
  go_ret
  obtain ⟨hk1, hb1⟩ := HK.out
  have hlt := hk1.lts
  have hb4 := below_alloc w2 (.cells #[I p, I 0, .slice so.a so.n so.c, I (-1), .bool false, lp (w.heap.size + 1)] 235)
  have h5 := h3.size
  refine ⟨w2.heap.size, so, w.heap.size + 1, w.heap.size, rfl, heap_alloc_new _ _, h1.below hb4 (fun _ _ _ _ h => h), fun e => ?_, (hk1.below h3).below hb4, by omega, by omega, by omega, hb1.trans ((h3.trans (hb4.mono h5)).mono (by omega))⟩
  obtain ⟨g, e1, e2, e3⟩ := h2 e
  exact ⟨g, e1, by omega, by simp; omega, by omega, by omega, by omega⟩
end Go.Proofs.YtglnfifdjlgbcaaGreatDoor

namespace Go.Proofs.YtglnfifdjlgbcaaGreatDoor
open Go.RowKit Go.Maps Go.Shelf Go.Sort
open Go.Proofs.YtglnfifdjlgbcaaGreatDoor.St (Fx Fz iQ iP iV)
set_option linter.unusedVariables false
set_option linter.unusedSimpArgs false

/-! ### Owners, gathered one by one -/
def updF {β : Type} (f : Own → β) (o : Own) (x : β) : Own → β := fun z => if z = o then x else f z
theorem updF_same {β : Type} (f : Own → β) (o : Own) (x : β) : updF f o x o = x := if_pos rfl
theorem updF_ne {β : Type} (f : Own → β) {o z : Own} (x : β) (h : z ≠ o) : updF f o x z = f z := if_neg h
structure Gth (w : World) (X0 m n : Nat) (p : Own → Option Nat) (sb gb : Own → Nat) (sl : Own → Sl) (Z : Nat → Prop) (dom : Own → Option Ob) (ins : Own → Bool) (hl : Own → List Int) : Prop where
  mp : OwM w m n p
  lo : X0 ≤ m
  pn : ∀ o, dom o = none → p o = none
  ps : ∀ o b, dom o = some b → o.wf ∧ ∃ q, p o = some q ∧ OwB w b (ins o) (hl o) q (sb o) (gb o) (sl o) ∧ zRow Z (sl o) b.own ∧ X0 ≤ q ∧ X0 ≤ sb o ∧ X0 ≤ gb o
  inj : ∀ o o' q q', p o = some q → p o' = some q' → q = q' ∨ sb o = sb o' ∨ gb o = gb o' → o = o'
  z : ∀ g, Z g → g < w.heap.size ∧ g ≠ m ∧ ∀ o q, p o = some q → g ≠ q ∧ g ≠ sb o ∧ g ≠ gb o
section
variable {w w' : World} {X0 m n : Nat} {p : Own → Option Nat} {sb gb : Own → Nat} {sl : Own → Sl} {Z : Nat → Prop} {dom : Own → Option Ob} {ins : Own → Bool} {hl : Own → List Int}
theorem Gth.pq (h : Gth w X0 m n p sb gb sl Z dom ins hl) {o : Own} {q : Nat} (hq : p o = some q) : ∃ b, dom o = some b ∧ OwB w b (ins o) (hl o) q (sb o) (gb o) (sl o) ∧ X0 ≤ q ∧ X0 ≤ sb o ∧ X0 ≤ gb o := by
  cases ho : dom o with
  | none => rw [h.pn o ho] at hq; cases hq
  | some b =>
    obtain ⟨_, q', hq', hb, _, h1⟩ := h.ps o b ho
    rw [hq] at hq'
    cases hq'
    exact ⟨b, rfl, hb, h1⟩
theorem OwB.lts {b : Ob} {i : Bool} {xs : List Int} {q s g : Nat} {sl : Sl} (h : OwB w b i xs q s g sl) : q < w.heap.size ∧ s < w.heap.size ∧ g < w.heap.size := by
  obtain ⟨hi, hk⟩ := h.k
  exact ⟨heap_lt h.o, hk.lts.1, hk.lts.2⟩
theorem OwB.ne_m {b : Ob} {i : Bool} {xs : List Int} {q s g mm k : Nat} {sl : Sl} {p : Own → Option Nat} (h : OwB w b i xs q s g sl) (hm : OwM w mm k p) : q ≠ mm ∧ s ≠ mm ∧ g ≠ mm := by
  obtain ⟨hi, hk⟩ := h.k
  obtain ⟨cs, hs⟩ := hk.ty
  obtain ⟨ds, hg⟩ := hk.tyg
  exact ⟨hm.ne h.o, hm.ne hs, hm.ne hg⟩
theorem Gth.made (w : World) (X0 n : Nat) (hX : X0 ≤ w.heap.size) (sb gb : Own → Nat) (sl : Own → Sl) (ins : Own → Bool) (hl : Own → List Int) : Gth (w.alloc (.map #[] 0)) X0 w.heap.size n (fun _ => none) sb gb sl (fun _ => False) (fun _ => none) ins hl :=
  ⟨OwM.made w n, hX, fun _ _ => rfl, fun o b h => (by cases h), fun o o' q q' h => (by cases h), fun g h => h.elim⟩
theorem Gth.below (h : Gth w X0 m n p sb gb sl Z dom ins hl) (hb : Below w.heap.size w w') : Gth w' X0 m n p sb gb sl Z dom ins hl := by
  refine ⟨h.mp.kept (hb.block _ h.mp.lt), h.lo, h.pn, fun o b ho => ?_, h.inj, fun g hg => ?_⟩
  · obtain ⟨hw, q, hq, hB, hz, h1⟩ := h.ps o b ho
    exact ⟨hw, q, hq, hB.kept (N := fun _ => False) (Fz.of_below hb) hz id id id (fun _ _ => id), hz, h1⟩
  · obtain ⟨a, b, c⟩ := h.z g hg
    exact ⟨Nat.lt_of_lt_of_le a hb.size, b, c⟩
/-- One more. -/
theorem Gth.step (h : Gth w X0 m n p sb gb sl Z dom ins hl) (hX : X0 ≤ w.heap.size) {o : Own} (hw : o.wf) (hd : dom o = none) {b : Ob} {q s g n' : Nat} {so : Sl} {i : Bool} {xs : List Int} (hi : ins o = i) (hx : hl o = xs) (hm : OwM w' m n' (updF p o (some q))) (hf : Fx [m] w w') (hB : OwB w' b i xs q s g so) (hq : w.heap.size ≤ q) (hs : w.heap.size ≤ s) (hg : w.heap.size ≤ g)
    (hz : b.own ≠ [] → ∃ x off, so.a = some ⟨x, off, none⟩ ∧ (Z x ∨ w.heap.size ≤ x ∧ x < w'.heap.size ∧ x ≠ q ∧ x ≠ s ∧ x ≠ g)) : Gth w' X0 m n' (updF p o (some q)) (updF sb o s) (updF gb o g) (updF sl o so) (fun x => Z x ∨ (w.heap.size ≤ x ∧ x < w'.heap.size ∧ x ≠ q ∧ x ≠ s ∧ x ≠ g)) (updF dom o (some b)) ins hl := by
  have hmlt := h.mp.lt
  have old : ∀ {z r}, p z = some r → r < w.heap.size ∧ sb z < w.heap.size ∧ gb z < w.heap.size := fun hz => by
    obtain ⟨b, _, hB, _⟩ := h.pq hz
    exact hB.lts
  have hpo : p o = none := h.pn o hd
  have hzo := hz
  refine ⟨hm, h.lo, fun z hz => ?_, fun z bz hz => ?_, fun z z' r r' hr hr' he => ?_, fun x hx => ?_⟩
  · by_cases e : z = o
    · subst e; rw [updF_same] at hz; cases hz
    · rw [updF_ne _ _ e] at hz ⊢; exact h.pn z hz
  · by_cases e : z = o
    · subst e
      rw [updF_same] at hz
      cases hz
      refine ⟨hw, q, updF_same _ _ _, ?_, ?_, by omega, by rw [updF_same]; omega, by rw [updF_same]; omega⟩
      · rw [updF_same, updF_same, updF_same, hi, hx]; exact hB
      · intro hne
        obtain ⟨x, off, e1, e2⟩ := hzo hne
        rw [updF_same]
        exact ⟨x, off, e1, e2⟩
    · rw [updF_ne _ _ e] at hz
      obtain ⟨hw2, r, hr, hBz, hzz, h1⟩ := h.ps z bz hz
      have hlt := hBz.lts
      have hnm := hBz.ne_m h.mp
      refine ⟨hw2, r, by rw [updF_ne _ _ e]; exact hr, ?_, ?_, by rw [updF_ne _ _ e, updF_ne _ _ e]; exact h1⟩
      · rw [updF_ne _ _ e, updF_ne _ _ e, updF_ne _ _ e]
        exact hBz.kept (N := fun x => x ∈ [m]) (Fz.of_fx hf (fun _ h => h)) hzz (by simpa using hnm.1) (by simpa using hnm.2.1) (by simpa using hnm.2.2) (fun x hx => by simpa using (h.z x hx).2.1)
      · rw [updF_ne _ _ e]
        intro hne
        obtain ⟨x, off, e1, e2⟩ := hzz hne
        exact ⟨x, off, e1, .inl e2⟩
  · by_cases e : z = o
    · subst e
      by_cases e' : z' = z
      · exact e'.symm
      · rw [updF_same] at hr
        rw [updF_ne _ _ e'] at hr'
        have := old hr'
        rw [updF_same, updF_same, updF_ne _ _ e', updF_ne _ _ e'] at he
        cases hr
        omega
    · rw [updF_ne _ _ e] at hr
      by_cases e' : z' = o
      · subst e'
        rw [updF_same] at hr'
        have := old hr
        rw [updF_same, updF_same, updF_ne _ _ e, updF_ne _ _ e] at he
        cases hr'
        omega
      · rw [updF_ne _ _ e'] at hr'
        rw [updF_ne _ _ e, updF_ne _ _ e, updF_ne _ _ e', updF_ne _ _ e'] at he
        exact h.inj z z' r r' hr hr' he
  · rcases hx with hx | ⟨a1, a2, a3, a4, a5⟩
    · obtain ⟨c1, c2, c3⟩ := h.z x hx
      refine ⟨Nat.lt_of_lt_of_le c1 hf.size, c2, fun z r hr => ?_⟩
      by_cases e : z = o
      · subst e
        rw [updF_same] at hr
        cases hr
        rw [updF_same, updF_same]
        omega
      · rw [updF_ne _ _ e] at hr ⊢
        rw [updF_ne _ _ e]
        exact c3 z r hr
    · refine ⟨a2, by omega, fun z r hr => ?_⟩
      by_cases e : z = o
      · subst e
        rw [updF_same] at hr
        cases hr
        rw [updF_same, updF_same]
        exact ⟨a3, a4, a5⟩
      · rw [updF_ne _ _ e] at hr ⊢
        rw [updF_ne _ _ e]
        have := old hr
        omega
end
end Go.Proofs.YtglnfifdjlgbcaaGreatDoor

namespace Go.Proofs.YtglnfifdjlgbcaaGreatDoor
open Go.RowKit Go.Maps Go.Shelf Go.Sort
open Go.Proofs.YtglnfifdjlgbcaaGreatDoor.St (Fx Fz iQ iP iV)
set_option linter.unusedVariables false
set_option linter.unusedSimpArgs false

/-! ### The owners of tables -/
/-- the owners so far: the first i tasks and the first j ISRs -/
def domK (tb : Tb) (i j : Nat) (o : Own) : Option Ob := if o.id < (if o.isr = true then j else i : Nat) then obs tb o else none
theorem obs_none {tb : Tb} {o : Own} (h : o.id < 0) : obs tb o = none := if_pos h
theorem domK_zero (tb : Tb) : domK tb 0 0 = fun _ => none := by
  funext o
  unfold domK
  by_cases h : o.id < 0
  · rw [obs_none h]; simp
  · rw [if_neg (by cases o.isr <;> simpa using h)]
theorem domK_task {tb : Tb} {i : Nat} {x : TkR} (hx : tb.tasks[i]? = some x) : updF (domK tb i 0) ⟨false, (i : Int)⟩ (some ⟨x.prio, 0, x.inner, x.own⟩) = domK tb (i + 1) 0 := by
  funext o
  by_cases e : o = ⟨false, (i : Int)⟩
  · subst e
    rw [updF_same]
    simp [domK, obs, hx]
    omega
  · rw [updF_ne _ _ e]
    unfold domK
    cases hi : o.isr with
    | true => simp
    | false =>
      have : o.id ≠ i := fun k => e (by cases o; simp_all)
      simp
      by_cases h1 : o.id < i
      · rw [if_pos h1, if_pos (by omega)]
      · rw [if_neg h1, if_neg (by omega)]
theorem domK_isr {tb : Tb} {n i : Nat} {x : IsR} (hx : tb.isrs[i]? = some x) : updF (domK tb n i) ⟨true, (i : Int)⟩ (some ⟨x.prio, x.cat, -1, x.own⟩) = domK tb n (i + 1) := by
  funext o
  by_cases e : o = ⟨true, (i : Int)⟩
  · subst e
    rw [updF_same]
    simp [domK, obs, hx]
    omega
  · rw [updF_ne _ _ e]
    unfold domK
    cases hi : o.isr with
    | false => simp
    | true =>
      have : o.id ≠ i := fun k => e (by cases o; simp_all)
      simp
      by_cases h1 : o.id < i
      · rw [if_pos h1, if_pos (by omega)]
      · rw [if_neg h1, if_neg (by omega)]
theorem domK_all (tb : Tb) : domK tb tb.tasks.length tb.isrs.length = obs tb := by
  funext o
  unfold domK
  by_cases h0 : o.id < 0
  · rw [obs_none h0]; simp
  · cases hi : o.isr with
    | true =>
      simp only [if_true]
      by_cases h : o.id < (tb.isrs.length : Int)
      · rw [if_pos h]
      · rw [if_neg h]
        unfold obs
        rw [if_neg h0, hi, if_pos rfl, List.getElem?_eq_none (by omega)]
        rfl
    | false =>
      simp only [Bool.false_eq_true, if_false]
      by_cases h : o.id < (tb.tasks.length : Int)
      · rw [if_pos h]
      · rw [if_neg h]
        unfold obs
        rw [if_neg h0, hi, if_neg (by simp), List.getElem?_eq_none (by omega)]
        rfl
theorem domK_new (tb : Tb) (n i : Nat) : domK tb i n ⟨false, (i : Int)⟩ = none ∧ domK tb n i ⟨true, (i : Int)⟩ = none := by
  constructor <;> (unfold domK; simp)
/-- the owners, gathered -/
def Gd (w : World) (X0 m n : Nat) (dom : Own → Option Ob) : Prop := ∃ p sb gb sl Z, Gth w X0 m n p sb gb sl Z dom (fun _ => false) (fun _ => []) ∧ ∀ g, Z g → X0 ≤ g
theorem Gd.step {w w1 : World} {X0 m n : Nat} {dom : Own → Option Ob} (h : Gd w X0 m n dom) (hX : X0 ≤ w.heap.size) (hn : n < 1024) {o : Own} (hw : o.wf) (hd : dom o = none) {b : Ob} {q s g : Nat} {so : Sl} (hb1 : Below w.heap.size w w1) (ho : w1.heap[q]? = some (.cells #[I b.prio, I b.cat, .slice so.a so.n so.c, I b.inner, .bool false, lp s] 235)) (hr : RowsAt w1 1 intP so b.own) (hz : b.own ≠ [] → ∃ g', so.a = some ⟨g', 0, none⟩ ∧ w.heap.size ≤ g' ∧ g' < w1.heap.size ∧ g' ≠ q ∧ g' ≠ s ∧ g' ≠ g) (hk : iQ w1 s g b.own.length 0 []) (hq : w.heap.size ≤ q) (hs : w.heap.size ≤ s) (hg : w.heap.size ≤ g) :
    ∃ w', (Instr.mapUpdate 169 (.map (some m)) (.agg #[.bool o.isr, I o.id]) (.pointer (some ⟨q, 0, none⟩))).run Tryz.prog w1 = .ok () w' ∧ Gd w' X0 m (n + 1) (updF dom o (some b)) ∧ Below X0 w1 w' ∧ Below m w1 w' := by
  obtain ⟨p, sb, gb, sl, Z, hG, hZ⟩ := h
  obtain ⟨w', hrun, hm, hgr⟩ := (hG.mp.kept (hb1.block _ hG.mp.lt)).put (by omega) o hw q
  have hf : Fx [m] w1 w' := (Fx.refl _ w1).grown hgr (fun g e => by cases e; exact .inl (List.mem_singleton.2 rfl))
  have hf0 : Fx [m] w w' := (Fx.of_below hb1).trans hf
  have hml := hG.mp.lt
  have hB : OwB w1 b false [] q s g so := ⟨ho, hr, 0, hk⟩
  have hl := hB.lts
  have hB' : OwB w' b false [] q s g so := hB.kept (N := fun x => x ∈ [m]) (Z := fun x => w.heap.size ≤ x) (Fz.of_fx hf (fun _ h => h)) (fun e => by obtain ⟨x, e1, e2, _⟩ := hz e; exact ⟨x, 0, e1, e2⟩) (by simp; omega) (by simp; omega) (by simp; omega) (fun x hx => by simp; omega)
  have hs1 := hf.size
  refine ⟨w', hrun, ⟨_, _, _, _, _, hG.step hX hw hd rfl rfl hm hf0 hB' hq hs hg (fun e => by
    obtain ⟨x, e1, e2, e3, e4⟩ := hz e
    exact ⟨x, 0, e1, .inr ⟨e2, by omega, e4⟩⟩), ?_⟩, below_of_grown hgr hG.lo (Nat.le_trans hX hb1.size), below_of_grown hgr (Nat.le_refl _) (by have := hb1.size; omega)⟩
  rintro x (hx | hx)
  · exact hZ x hx
  · omega
end Go.Proofs.YtglnfifdjlgbcaaGreatDoor

namespace Go.Proofs.YtglnfifdjlgbcaaGreatDoor
open Go.RowKit Go.Maps Go.Shelf Go.Sort
open Go.Proofs.YtglnfifdjlgbcaaGreatDoor.St (Fx Fz iQ iP iV)
set_option linter.unusedVariables false
set_option linter.unusedSimpArgs false

theorem wf_natO (b : Bool) {i : Nat} (h : i < 9223372036854775808) : (⟨b, (i : Int)⟩ : Own).wf := by
  show (Lit.int .i64 (i : Int)).wf = true
  exact WalkArith.wf_i64 (by omega)
theorem own_set3 {w : World} {q : Nat} {a b c d e f v : Value} {t : TypeId} (h : w.heap[q]? = some (.cells #[a, b, c, d, e, f] t)) : (w.setCell ⟨q, 3, none⟩ v).heap[q]? = some (.cells #[a, b, c, v, e, f] t) := heap_setCell_same _ q 3 _ _ _ h
theorem own_set1 {w : World} {q : Nat} {a b c d e f v : Value} {t : TypeId} (h : w.heap[q]? = some (.cells #[a, b, c, d, e, f] t)) : (w.setCell ⟨q, 1, none⟩ v).heap[q]? = some (.cells #[a, v, c, d, e, f] t) := heap_setCell_same _ q 1 _ _ _ h
theorem make_hint (w : World) (n : Int) : (Instr.makeMap 169 (some (.int .i64 n))).run Tryz.prog w = .ok (.map (some w.heap.size)) (w.alloc (.map #[] 0)) := by
  simp [Instr.makeMap, run_underlying Tryz.underlying169, go_sem, Result.andThen]
set_option maxRecDepth 100000 in
set_option maxHeartbeats 16000000 in
theorem ownersOf_any (w : World) (tb : Tb) (v : Ts) (h : TbAt w tb v) (ht : tb.tasks.length ≤ 256) (hi : tb.isrs.length ≤ 32) (hot : ∀ x ∈ tb.tasks, x.own.length ≤ 1024) (hoi : ∀ x ∈ tb.isrs, x.own.length ≤ 1024) : Calls Tryz.prog 103 #[.agg (tbC tb v)] w fun e w' => ∃ m, e = .returned (.map (some m)) ∧ Gd w' w.heap.size m (tb.tasks.length + tb.isrs.length) (obs tb) ∧ Below w.heap.size w w' := by
  have hmm := make_hint
  have hb0 := below_alloc w (.cells (tbC tb v) 30)
  have hV := heap_alloc_new w (.cells (tbC tb v) 30)
  have c2 : (w.alloc (.cells (tbC tb v) 30)).cell? ⟨w.heap.size, 2, none⟩ = some (.slice v.t.a v.t.n v.t.c) := by rw [cell_of_row _ _ 2 _ _ (0, 0) hV]; rfl
  have c7 : (w.alloc (.cells (tbC tb v) 30)).cell? ⟨w.heap.size, 7, none⟩ = some (.slice v.i.a v.i.n v.i.c) := by rw [cell_of_row _ _ 7 _ _ (0, 0) hV]; rfl
  have HT : Hid (TbAt w tb v) := h
  have htn := h.t.n
  have hin := h.i.n
  have HM : Hid (v.t.n ≤ v.t.c ∧ v.t.c ≤ maxLen ∧ v.i.n ≤ v.i.c ∧ v.i.c ≤ maxLen) := ⟨h.t.c, h.t.m, h.i.c, h.i.m⟩
  have hb1 := below_alloc (w.alloc (.cells (tbC tb v) 30)) (.map #[] 0)
  have e1 : ((w.alloc (.cells (tbC tb v) 30))).heap.size = w.heap.size + 1 := by simp
  have d2 := (cell_below hb1 w.heap.size 2 (by rw [e1]; omega)).trans c2
  have d7 := (cell_below hb1 w.heap.size 7 (by rw [e1]; omega)).trans c7
  have HI : Hid (Gd ((w.alloc (.cells (tbC tb v) 30)).alloc (.map #[] 0)) w.heap.size (w.heap.size + 1) 0 (domK tb 0 0) ∧ Below w.heap.size w ((w.alloc (.cells (tbC tb v) 30)).alloc (.map #[] 0))) := by
    refine ⟨⟨fun _ => none, fun _ => 0, fun _ => 0, fun _ => ⟨none, 0, 0⟩, fun _ => False, ?_, fun g h => h.elim⟩, hb0.trans (hb1.mono (by rw [e1]; omega))⟩
    rw [domK_zero]
    have := Gth.made (w.alloc (.cells (tbC tb v) 30)) w.heap.size 0 (by rw [e1]; omega) (fun _ => 0) (fun _ => 0) (fun _ => ⟨none, 0, 0⟩) (fun _ => false) (fun _ => [])
    rw [e1] at this
    exact this
  have H7 : Hid (∀ wr, Below (w.heap.size + 1) ((w.alloc (.cells (tbC tb v) 30)).alloc (.map #[] 0)) wr → wr.cell? ⟨w.heap.size, 7, none⟩ = some (.slice v.i.a v.i.n v.i.c)) := fun wr hb => (cell_below hb w.heap.size 7 (by omega)).trans d7
  have HN : Hid (v.t.n = tb.tasks.length ∧ v.i.n = tb.isrs.length) := ⟨htn, hin⟩
  have n1 : v.t.n ≤ 256 := by omega
  have n2 : v.i.n ≤ 32 := by omega
  have HO : Hid ((∀ x ∈ tb.tasks, x.own.length ≤ 1024) ∧ ∀ x ∈ tb.isrs, x.own.length ≤ 1024) := ⟨hot, hoi⟩
  have D2 : Hid (∀ wr, Below (w.heap.size + 1) ((w.alloc (.cells (tbC tb v) 30)).alloc (.map #[] 0)) wr → wr.cell? ⟨w.heap.size, 7, none⟩ = some (.slice v.i.a v.i.n v.i.c)) := H7.out
  have HS : Hid (((w.alloc (.cells (tbC tb v) 30)).alloc (.map #[] 0)).heap.size = w.heap.size + 2) := by show _ = _; simp
  clear h hV hb0 hb1 htn hin ht hi hot hoi H7
  rw [e1] at *
  generalize hCC : tbC tb v = C at *
  clear hCC
  go_enter Tryz.func103, Tryz.ntmps103
  go_upto_region 2 with fail
  clear hmm c2 c7 e1
  generalize (w.alloc (.cells C 30)).alloc (.map #[] 0) = w1 at *
  go_wp2
  go_loopw [4, 5, 6, 21] (fun _ _ _ v21 wr => ∃ k : Nat, k ≤ v.t.n ∧ v21 = I k ∧ Hid (Gd wr w.heap.size (w.heap.size + 1) k (domK tb k 0) ∧ Below w.heap.size w wr ∧ Below (w.heap.size + 1) w1 wr)) (fun _ _ _ v21 _ => v.t.n - (intOf v21).toNat)
  case atStart => exact ⟨0, by omega, rfl, HI.out.1, HI.out.2, Below.refl _ _⟩
  case round =>
    clear HI
    obtain ⟨k, hk, rfl, HJ⟩ := hrel
    by_cases hlt : k < v.t.n
    · have hltI : (k : Int) < v.t.n := by omega
      obtain ⟨x, hx⟩ : ∃ x, tb.tasks[k]? = some x := ⟨_, List.getElem?_eq_getElem (by rw [← HN.out.1]; exact hlt)⟩
      obtain ⟨g, off, s6, f1, f2, q0, q1, q2, q3, q4, q5, q6, q7, hR⟩ := tkr_at (HT.out.below HJ.out.2.1) hx
      rw [f1]
      have hb2 := below_alloc wr (.cells #[I x.prio, I x.ring, .bool x.full, I x.limit, .int .u32 (x.mask : Int), I x.inner, .slice s6.a s6.n s6.c, .int .u32 (x.auto : Int)] 42)
      have hV2 := heap_alloc_new wr (.cells #[I x.prio, I x.ring, .bool x.full, I x.limit, .int .u32 (x.mask : Int), I x.inner, .slice s6.a s6.n s6.c, .int .u32 (x.auto : Int)] 42)
      have ya := fun i => cell_of_row _ _ i _ _ (0, 0) hV2
      have yA : (wr.alloc (.cells #[I x.prio, I x.ring, .bool x.full, I x.limit, .int .u32 (x.mask : Int), I x.inner, .slice s6.a s6.n s6.c, .int .u32 (x.auto : Int)] 42)).cell? ⟨wr.heap.size, 0, none⟩ = some (I x.prio) := ya 0
      have yB : (wr.alloc (.cells #[I x.prio, I x.ring, .bool x.full, I x.limit, .int .u32 (x.mask : Int), I x.inner, .slice s6.a s6.n s6.c, .int .u32 (x.auto : Int)] 42)).cell? ⟨wr.heap.size, 6, none⟩ = some (.slice s6.a s6.n s6.c) := ya 6
      have yC : (wr.alloc (.cells #[I x.prio, I x.ring, .bool x.full, I x.limit, .int .u32 (x.mask : Int), I x.inner, .slice s6.a s6.n s6.c, .int .u32 (x.auto : Int)] 42)).cell? ⟨wr.heap.size, 5, none⟩ = some (I x.inner) := ya 5
      have hNO := newOwner_any (wr.alloc (.cells #[I x.prio, I x.ring, .bool x.full, I x.limit, .int .u32 (x.mask : Int), I x.inner, .slice s6.a s6.n s6.c, .int .u32 (x.auto : Int)] 42)) x.prio s6 x.own (hR.below hb2 (fun _ _ _ _ h => h)) (HO.out.1 x (List.mem_of_getElem? hx))
      have HB2 : Hid (Below wr.heap.size wr (wr.alloc (.cells #[I x.prio, I x.ring, .bool x.full, I x.limit, .int .u32 (x.mask : Int), I x.inner, .slice s6.a s6.n s6.c, .int .u32 (x.auto : Int)] 42)) ∧ wr.heap.size < (wr.alloc (.cells #[I x.prio, I x.ring, .bool x.full, I x.limit, .int .u32 (x.mask : Int), I x.inner, .slice s6.a s6.n s6.c, .int .u32 (x.auto : Int)] 42)).heap.size) := ⟨hb2, by simp⟩
      have HX : Hid (tb.tasks[k]? = some x) := hx
      clear hb2 hV2 ya hR f1 hx
      go_upto_region 5 with fail
      clear q0 q1 q2 q3 q4 q5 q6 q7
      generalize wr.alloc (.cells #[I x.prio, I x.ring, .bool x.full, I x.limit, .int .u32 (x.mask : Int), I x.inner, .slice s6.a s6.n s6.c, .int .u32 (x.auto : Int)] 42) = w2 at *
      go_upto_region 6 with (first | (go_at_call 213; refine hNO.mono ?_; clear hNO; rintro e w3 ⟨q, so, sb, gb, rfl, ho, hr, hz, hkk, l1, l2, l3, hb3⟩))
      have zC := (cell_below hb3 _ 5 HB2.out.2).trans yC
      have zq : w3.cell? ⟨q, 3, none⟩ = some (I (-1)) := by rw [cell_of_row _ _ 3 _ _ (0, 0) ho]; rfl
      have zf : w3.frozen? ⟨q, 3, none⟩ = false := frozen_of_row _ q 3 _ _ ho
      have hF4 : Fz (fun z => z = q) w3 (w3.setCell ⟨q, 3, none⟩ (I x.inner)) := (Fz.refl (fun z => z = q) w3).set (.inl rfl) _ _
      have hq1 : wr.heap.size ≤ q := by have := HB2.out.2; omega
      have hb13 : Below wr.heap.size wr w3 := HB2.out.1.trans (hb3.mono (Nat.le_of_lt HB2.out.2))
      have hb14 : Below wr.heap.size wr (w3.setCell ⟨q, 3, none⟩ (I x.inner)) := hb13.trans (hF4.below hb13.size (fun z e => by omega))
      have hsz : (w3.setCell ⟨q, 3, none⟩ (I x.inner)).heap.size = w3.heap.size := by simp
      have hqs : q ≠ sb ∧ q ≠ gb := by
        obtain ⟨cs, hcs⟩ := hkk.ty
        obtain ⟨ds, hds⟩ := hkk.tyg
        exact ⟨cells_ne ho hcs (by decide), cells_ne ho hds (by decide)⟩
      obtain ⟨w5, hrun, hG5, hB5⟩ := HJ.out.1.step HJ.out.2.1.size (by have := HN.out; omega) (o := ⟨false, (k : Int)⟩) (wf_natO _ (by omega)) (domK_new tb 0 k).1 (b := ⟨x.prio, 0, x.inner, x.own⟩) (q := q) (s := sb) (g := gb) (so := so) hb14 (own_set3 ho)
        (rows_kept (Z := fun z => z ≠ q) hr (fun e => by obtain ⟨g', e1, _, _, e2, _⟩ := hz e; exact ⟨g', 0, e1, e2⟩) (fun z hz hlt => hF4.block z hlt hz) hF4.size)
        (fun e => by obtain ⟨g', e1, e2, e3, e4⟩ := hz e; exact ⟨g', e1, by have := HB2.out.2; omega, by rw [hsz]; exact e3, e4⟩)
        (hkk.keptZ hF4 (fun e => hqs.1 e.symm) (fun e => hqs.2 e.symm)) hq1 (by have := HB2.out.2; omega) (by have := HB2.out.2; omega)
      dsimp only at hrun
      have HG : Hid (Gd w5 w.heap.size (w.heap.size + 1) (k + 1) (domK tb (k + 1) 0)) := by
        show Gd _ _ _ _ _
        rw [← domK_task HX.out]
        exact hG5
      have hbm : Below (w.heap.size + 1) wr w5 := by
        have h1 := HJ.out.1
        obtain ⟨p', sb', gb', sl', Z', h2, h3⟩ := h1
        have := h2.mp.lt
        exact (hb14.mono (by omega)).trans hB5.2
      have HB5 : Hid (Below w.heap.size w w5 ∧ Below (w.heap.size + 1) w1 w5) := ⟨HJ.out.2.1.trans ((hb14.mono HJ.out.2.1.size).trans hB5.1), HJ.out.2.2.trans hbm⟩
      clear ho hr hz hkk hF4 hb13 hb14 hsz hG5 hB5 hqs hb3 hbm yA yB yC
      go_wp2
      go_roundw
      case rel => exact ⟨k + 1, by omega, by go_num, HG.out, HB5.out.1, HB5.out.2⟩
      case measure => simp [intOf]; omega
    · obtain rfl : k = v.t.n := by omega
      have hge : ¬ ((v.t.n : Int) < v.t.n) := by omega
      have e7 := D2.out _ HJ.out.2.2
      have HI2 : Hid (Gd wr w.heap.size (w.heap.size + 1) (v.t.n + 0) (domK tb v.t.n 0) ∧ Below w.heap.size w wr ∧ Below (w.heap.size + 1) w1 wr) := HJ.out
      clear HJ
      go_wp2
      clear e7
      go_loopw [7, 8, 9, 44] (fun _ _ _ v44 wr => ∃ k : Nat, k ≤ v.i.n ∧ v44 = I k ∧ Hid (Gd wr w.heap.size (w.heap.size + 1) (v.t.n + k) (domK tb v.t.n k) ∧ Below w.heap.size w wr ∧ Below (w.heap.size + 1) w1 wr)) (fun _ _ _ v44 _ => v.i.n - (intOf v44).toNat)
      case atStart => exact ⟨0, by omega, rfl, HI2.out⟩
      case round =>
        clear HI2
        obtain ⟨k, hk, rfl, HJ⟩ := hrel
        by_cases hlt : k < v.i.n
        · have hltI : (k : Int) < v.i.n := by omega
          obtain ⟨x, hx⟩ : ∃ x, tb.isrs[k]? = some x := ⟨_, List.getElem?_eq_getElem (by rw [← HN.out.2]; exact hlt)⟩
          obtain ⟨g, off, s6, f1, f2, q0, q1, q2, hR⟩ := isr_at (HT.out.below HJ.out.2.1) hx
          rw [f1]
          have hb2 := below_alloc wr (.cells #[I x.cat, I x.prio, .slice s6.a s6.n s6.c] 148)
          have hV2 := heap_alloc_new wr (.cells #[I x.cat, I x.prio, .slice s6.a s6.n s6.c] 148)
          have ya := fun i => cell_of_row _ _ i _ _ (0, 0) hV2
          have yA : (wr.alloc (.cells #[I x.cat, I x.prio, .slice s6.a s6.n s6.c] 148)).cell? ⟨wr.heap.size, 1, none⟩ = some (I x.prio) := ya 1
          have yB : (wr.alloc (.cells #[I x.cat, I x.prio, .slice s6.a s6.n s6.c] 148)).cell? ⟨wr.heap.size, 2, none⟩ = some (.slice s6.a s6.n s6.c) := ya 2
          have yC : (wr.alloc (.cells #[I x.cat, I x.prio, .slice s6.a s6.n s6.c] 148)).cell? ⟨wr.heap.size, 0, none⟩ = some (I x.cat) := ya 0
          have hNO := newOwner_any (wr.alloc (.cells #[I x.cat, I x.prio, .slice s6.a s6.n s6.c] 148)) x.prio s6 x.own (hR.below hb2 (fun _ _ _ _ h => h)) (HO.out.2 x (List.mem_of_getElem? hx))
          have HB2 : Hid (Below wr.heap.size wr (wr.alloc (.cells #[I x.cat, I x.prio, .slice s6.a s6.n s6.c] 148)) ∧ wr.heap.size < (wr.alloc (.cells #[I x.cat, I x.prio, .slice s6.a s6.n s6.c] 148)).heap.size) := ⟨hb2, by simp⟩
          have HX : Hid (tb.isrs[k]? = some x) := hx
          clear hb2 hV2 ya hR f1 hx
          go_upto_region 12 with fail
          clear q0 q1 q2
          generalize wr.alloc (.cells #[I x.cat, I x.prio, .slice s6.a s6.n s6.c] 148) = w2 at *
          go_upto_region 13 with (first | (go_at_call 213; refine hNO.mono ?_; clear hNO; rintro e w3 ⟨q, so, sb, gb, rfl, ho, hr, hz, hkk, l1, l2, l3, hb3⟩))
          have zC := (cell_below hb3 _ 0 HB2.out.2).trans yC
          have zq : w3.cell? ⟨q, 1, none⟩ = some (I 0) := by rw [cell_of_row _ _ 1 _ _ (0, 0) ho]; rfl
          have zf : w3.frozen? ⟨q, 1, none⟩ = false := frozen_of_row _ q 1 _ _ ho
          have hF4 : Fz (fun z => z = q) w3 (w3.setCell ⟨q, 1, none⟩ (I x.cat)) := (Fz.refl (fun z => z = q) w3).set (.inl rfl) _ _
          have hq1 : wr.heap.size ≤ q := by have := HB2.out.2; omega
          have hb13 : Below wr.heap.size wr w3 := HB2.out.1.trans (hb3.mono (Nat.le_of_lt HB2.out.2))
          have hb14 : Below wr.heap.size wr (w3.setCell ⟨q, 1, none⟩ (I x.cat)) := hb13.trans (hF4.below hb13.size (fun z e => by omega))
          have hsz : (w3.setCell ⟨q, 1, none⟩ (I x.cat)).heap.size = w3.heap.size := by simp
          have hqs : q ≠ sb ∧ q ≠ gb := by
            obtain ⟨cs, hcs⟩ := hkk.ty
            obtain ⟨ds, hds⟩ := hkk.tyg
            exact ⟨cells_ne ho hcs (by decide), cells_ne ho hds (by decide)⟩
          obtain ⟨w5, hrun, hG5, hB5⟩ := HJ.out.1.step HJ.out.2.1.size (by have := HN.out; omega) (o := ⟨true, (k : Int)⟩) (wf_natO _ (by omega)) (domK_new tb v.t.n k).2 (b := ⟨x.prio, x.cat, -1, x.own⟩) (q := q) (s := sb) (g := gb) (so := so) hb14 (own_set1 ho)
            (rows_kept (Z := fun z => z ≠ q) hr (fun e => by obtain ⟨g', e1, _, _, e2, _⟩ := hz e; exact ⟨g', 0, e1, e2⟩) (fun z hz hlt => hF4.block z hlt hz) hF4.size)
            (fun e => by obtain ⟨g', e1, e2, e3, e4⟩ := hz e; exact ⟨g', e1, by have := HB2.out.2; omega, by rw [hsz]; exact e3, e4⟩)
            (hkk.keptZ hF4 (fun e => hqs.1 e.symm) (fun e => hqs.2 e.symm)) hq1 (by have := HB2.out.2; omega) (by have := HB2.out.2; omega)
          dsimp only at hrun
          have HG : Hid (Gd w5 w.heap.size (w.heap.size + 1) (v.t.n + k + 1) (domK tb v.t.n (k + 1))) := by
            show Gd _ _ _ _ _
            rw [← domK_isr HX.out]
            exact hG5
          have hbm : Below (w.heap.size + 1) wr w5 := by
            have h1 := HJ.out.1
            obtain ⟨p', sb', gb', sl', Z', h2, h3⟩ := h1
            have := h2.mp.lt
            exact (hb14.mono (by omega)).trans hB5.2
          have HB5 : Hid (Below w.heap.size w w5 ∧ Below (w.heap.size + 1) w1 w5) := ⟨HJ.out.2.1.trans ((hb14.mono HJ.out.2.1.size).trans hB5.1), HJ.out.2.2.trans hbm⟩
          clear ho hr hz hkk hF4 hb13 hb14 hsz hG5 hB5 hqs hb3 hbm yA yB yC
          go_wp2
          go_roundw
          case rel => exact ⟨k + 1, by omega, by go_num, by rw [← Nat.add_assoc]; exact HG.out, HB5.out.1, HB5.out.2⟩
          case measure => simp [intOf]; omega
        · obtain rfl : k = v.i.n := by omega
          have hge2 : ¬ ((v.i.n : Int) < v.i.n) := by omega
          go_wp2
          go_ret
          refine ⟨w.heap.size + 1, rfl, ?_, HJ.out.2.1⟩
          have := HJ.out.1
          rw [HN.out.1, HN.out.2, domK_all] at this
          exact this
end Go.Proofs.YtglnfifdjlgbcaaGreatDoor

