import Derived.Test.YtapfbinaocaclaaEeh
import Derived.Maps.AppendAt
namespace Go.Proofs.Ytapfbinaocaclaa
open Go.RowKit Go.Sort
set_option linter.unusedVariables false
set_option linter.unusedSimpArgs false

/-! ### Ceilings in memory; the document's Same -/
structure Ce where
  res : List Int
  sch : Int
  run : List Int
  tks : List Int
  isr : List Int
def ceC (k : Int) (s0 s2 s3 s4 : Sl) : Array Value := #[.slice s0.a s0.n s0.c, I k, .slice s2.a s2.n s2.c, .slice s3.a s3.n s3.c, .slice s4.a s4.n s4.c]
structure CeAt (w : World) (x : Ce) (s0 s2 s3 s4 : Sl) : Prop where
  a : RowsAt w 1 intP s0 x.res
  b : RowsAt w 1 intP s2 x.run
  c : RowsAt w 1 intP s3 x.tks
  d : RowsAt w 1 intP s4 x.isr
def sameB (x y : Ce) : Bool := decide (x.res = y.res) && (x.sch == y.sch) && decide (x.run = y.run) && decide (x.tks = y.tks) && decide (x.isr = y.isr)
set_option maxHeartbeats 8000000 in
set_option maxRecDepth 100000 in
theorem rsame_any (w : World) (x y : Ce) (s0 s2 s3 s4 t0 t2 t3 t4 : Sl) (hx : CeAt w x s0 s2 s3 s4) (hy : CeAt w y t0 t2 t3 t4) : Calls Try.prog 18 #[.agg (ceC x.sch s0 s2 s3 s4), .agg (ceC y.sch t0 t2 t3 t4)] w fun e w' => Ans w (sameB x y) e w' := by
  unfold ceC
  have hb : Below w.heap.size w ((w.alloc (.cells #[.slice s0.a s0.n s0.c, I x.sch, .slice s2.a s2.n s2.c, .slice s3.a s3.n s3.c, .slice s4.a s4.n s4.c] 36)).alloc (.cells #[.slice t0.a t0.n t0.c, I y.sch, .slice t2.a t2.n t2.c, .slice t3.a t3.n t3.c, .slice t4.a t4.n t4.c] 36)) := ((Below.refl w.heap.size w).alloc (Nat.le_refl _) _).alloc (by simp) _
  have hV1 := heap_two w (.cells #[.slice s0.a s0.n s0.c, I x.sch, .slice s2.a s2.n s2.c, .slice s3.a s3.n s3.c, .slice s4.a s4.n s4.c] 36) (.cells #[.slice t0.a t0.n t0.c, I y.sch, .slice t2.a t2.n t2.c, .slice t3.a t3.n t3.c, .slice t4.a t4.n t4.c] 36)
  have hV0 := heap_over (w.alloc (.cells #[.slice s0.a s0.n s0.c, I x.sch, .slice s2.a s2.n s2.c, .slice s3.a s3.n s3.c, .slice s4.a s4.n s4.c] 36)) (.cells #[.slice t0.a t0.n t0.c, I y.sch, .slice t2.a t2.n t2.c, .slice t3.a t3.n t3.c, .slice t4.a t4.n t4.c] 36) (heap_alloc_new w (.cells #[.slice s0.a s0.n s0.c, I x.sch, .slice s2.a s2.n s2.c, .slice s3.a s3.n s3.c, .slice s4.a s4.n s4.c] 36))
  obtain ⟨W0, hW0⟩ : ∃ W0, W0 = (w.alloc (.cells #[.slice s0.a s0.n s0.c, I x.sch, .slice s2.a s2.n s2.c, .slice s3.a s3.n s3.c, .slice s4.a s4.n s4.c] 36)).alloc (.cells #[.slice t0.a t0.n t0.c, I y.sch, .slice t2.a t2.n t2.c, .slice t3.a t3.n t3.c, .slice t4.a t4.n t4.c] 36) := ⟨_, rfl⟩
  rw [← hW0] at hb hV1 hV0
  have HF : Hid (∀ W, Below W0.heap.size W0 W → Below w.heap.size w W ∧ W.cell? ⟨w.heap.size, 1, none⟩ = some (I x.sch) ∧ W.cell? ⟨w.heap.size, 2, none⟩ = some (.slice s2.a s2.n s2.c) ∧ W.cell? ⟨w.heap.size, 3, none⟩ = some (.slice s3.a s3.n s3.c) ∧ W.cell? ⟨w.heap.size, 4, none⟩ = some (.slice s4.a s4.n s4.c) ∧ W.cell? ⟨w.heap.size + 1, 1, none⟩ = some (I y.sch) ∧ W.cell? ⟨w.heap.size + 1, 2, none⟩ = some (.slice t2.a t2.n t2.c) ∧ W.cell? ⟨w.heap.size + 1, 3, none⟩ = some (.slice t3.a t3.n t3.c) ∧ W.cell? ⟨w.heap.size + 1, 4, none⟩ = some (.slice t4.a t4.n t4.c)) := fun W hW => by
    have h0 := (hW.block _ (heap_lt hV0)).trans hV0
    have h1 := (hW.block _ (heap_lt hV1)).trans hV1
    refine ⟨hb.trans (hW.mono hb.size), ?_, ?_, ?_, ?_, ?_, ?_, ?_, ?_⟩
    · rw [cell_of_row W _ 1 _ _ (0, 0) h0]; rfl
    · rw [cell_of_row W _ 2 _ _ (0, 0) h0]; rfl
    · rw [cell_of_row W _ 3 _ _ (0, 0) h0]; rfl
    · rw [cell_of_row W _ 4 _ _ (0, 0) h0]; rfl
    · rw [cell_of_row W _ 1 _ _ (0, 0) h1]; rfl
    · rw [cell_of_row W _ 2 _ _ (0, 0) h1]; rfl
    · rw [cell_of_row W _ 3 _ _ (0, 0) h1]; rfl
    · rw [cell_of_row W _ 4 _ _ (0, 0) h1]; rfl
  have K0 : Hid (∀ W, Below w.heap.size w W → Calls Try.prog 21 #[.slice s0.a s0.n s0.c, .slice t0.a t0.n t0.c] W fun e w' => Ans W (decide (x.res = y.res)) e w') := fun W hW => rints_any W s0 t0 _ _ (hx.a.below hW (fun _ _ _ _ h => h)) (hy.a.below hW (fun _ _ _ _ h => h))
  have K2 : Hid (∀ W, Below w.heap.size w W → Calls Try.prog 21 #[.slice s2.a s2.n s2.c, .slice t2.a t2.n t2.c] W fun e w' => Ans W (decide (x.run = y.run)) e w') := fun W hW => rints_any W s2 t2 _ _ (hx.b.below hW (fun _ _ _ _ h => h)) (hy.b.below hW (fun _ _ _ _ h => h))
  have K3 : Hid (∀ W, Below w.heap.size w W → Calls Try.prog 21 #[.slice s3.a s3.n s3.c, .slice t3.a t3.n t3.c] W fun e w' => Ans W (decide (x.tks = y.tks)) e w') := fun W hW => rints_any W s3 t3 _ _ (hx.c.below hW (fun _ _ _ _ h => h)) (hy.c.below hW (fun _ _ _ _ h => h))
  have K4 : Hid (∀ W, Below w.heap.size w W → Calls Try.prog 21 #[.slice s4.a s4.n s4.c, .slice t4.a t4.n t4.c] W fun e w' => Ans W (decide (x.isr = y.isr)) e w') := fun W hW => rints_any W s4 t4 _ _ (hx.d.below hW (fun _ _ _ _ h => h)) (hy.d.below hW (fun _ _ _ _ h => h))
  have HB0 : Hid (Below w.heap.size w W0 ∧ Below W0.heap.size W0 W0) := ⟨hb, Below.refl _ _⟩
  obtain ⟨R, hR⟩ : ∃ R, R = sameB x y := ⟨_, rfl⟩
  rw [← hR]
  have HR : Hid (R = _) := hR
  unfold sameB at HR
  generalize decide (x.res = y.res) = b0 at *
  generalize hb1 : (x.sch == y.sch) = b1 at *
  generalize decide (x.run = y.run) = b2 at *
  generalize decide (x.tks = y.tks) = b3 at *
  generalize decide (x.isr = y.isr) = b4 at *
  clear hR hb hV0 hV1 hx hy
  subst hW0
  cases b0 with
  | false =>
    replace HR : Hid (R = false) := by show _ = _; rw [HR.out]; simp
    go_enter Try.func18, Try.ntmps18
    go_wp2_with (first | (go_at_call 21; refine (K0.out _ HB0.out.1).mono ?_; clear K0; rintro e w1 ⟨rfl, hbw1⟩; have hcw1 := HB0.out.2.trans (hbw1.mono HB0.out.2.size); obtain ⟨pw1, m1, m2, m3, m4, n1, n2, n3, n4⟩ := HF.out _ hcw1; have HC0 : Hid (Below w.heap.size w w1 ∧ Below _ _ w1) := ⟨pw1, hcw1⟩; clear hbw1 hcw1 pw1 HB0))
    go_ret
    exact ⟨ret_bool HR.out.symm, HC0.out.1⟩
  | true =>
    cases b1 with
    | false =>
      replace HR : Hid (R = false) := by show _ = _; rw [HR.out]; simp
      go_enter Try.func18, Try.ntmps18
      go_wp2_with (first | (go_at_call 21; refine (K0.out _ HB0.out.1).mono ?_; clear K0; rintro e w1 ⟨rfl, hbw1⟩; have hcw1 := HB0.out.2.trans (hbw1.mono HB0.out.2.size); obtain ⟨pw1, m1, m2, m3, m4, n1, n2, n3, n4⟩ := HF.out _ hcw1; have HC0 : Hid (Below w.heap.size w w1 ∧ Below _ _ w1) := ⟨pw1, hcw1⟩; clear hbw1 hcw1 pw1 HB0))
      go_ret
      exact ⟨ret_bool HR.out.symm, HC0.out.1⟩
    | true =>
      cases b2 with
      | false =>
        replace HR : Hid (R = false) := by show _ = _; rw [HR.out]; simp
        go_enter Try.func18, Try.ntmps18
        go_wp2_with (first | (go_at_call 21; refine (K0.out _ HB0.out.1).mono ?_; clear K0; rintro e w1 ⟨rfl, hbw1⟩; have hcw1 := HB0.out.2.trans (hbw1.mono HB0.out.2.size); obtain ⟨pw1, m1, m2, m3, m4, n1, n2, n3, n4⟩ := HF.out _ hcw1; have HC0 : Hid (Below w.heap.size w w1 ∧ Below _ _ w1) := ⟨pw1, hcw1⟩; clear hbw1 hcw1 pw1 HB0) | (go_at_call 21; refine (K2.out _ HC0.out.1).mono ?_; clear K2; rintro e w2 ⟨rfl, hbw2⟩; have hcw2 := HC0.out.2.trans (hbw2.mono HC0.out.2.size); obtain ⟨pw2, m1, m2, m3, m4, n1, n2, n3, n4⟩ := HF.out _ hcw2; have HC2 : Hid (Below w.heap.size w w2 ∧ Below _ _ w2) := ⟨pw2, hcw2⟩; clear hbw2 hcw2 pw2 HC0))
        go_ret
        exact ⟨ret_bool HR.out.symm, HC2.out.1⟩
      | true =>
        cases b3 with
        | false =>
          replace HR : Hid (R = false) := by show _ = _; rw [HR.out]; simp
          go_enter Try.func18, Try.ntmps18
          go_wp2_with (first | (go_at_call 21; refine (K0.out _ HB0.out.1).mono ?_; clear K0; rintro e w1 ⟨rfl, hbw1⟩; have hcw1 := HB0.out.2.trans (hbw1.mono HB0.out.2.size); obtain ⟨pw1, m1, m2, m3, m4, n1, n2, n3, n4⟩ := HF.out _ hcw1; have HC0 : Hid (Below w.heap.size w w1 ∧ Below _ _ w1) := ⟨pw1, hcw1⟩; clear hbw1 hcw1 pw1 HB0) | (go_at_call 21; refine (K2.out _ HC0.out.1).mono ?_; clear K2; rintro e w2 ⟨rfl, hbw2⟩; have hcw2 := HC0.out.2.trans (hbw2.mono HC0.out.2.size); obtain ⟨pw2, m1, m2, m3, m4, n1, n2, n3, n4⟩ := HF.out _ hcw2; have HC2 : Hid (Below w.heap.size w w2 ∧ Below _ _ w2) := ⟨pw2, hcw2⟩; clear hbw2 hcw2 pw2 HC0) | (go_at_call 21; refine (K3.out _ HC2.out.1).mono ?_; clear K3; rintro e w3 ⟨rfl, hbw3⟩; have hcw3 := HC2.out.2.trans (hbw3.mono HC2.out.2.size); obtain ⟨pw3, m1, m2, m3, m4, n1, n2, n3, n4⟩ := HF.out _ hcw3; have HC3 : Hid (Below w.heap.size w w3 ∧ Below _ _ w3) := ⟨pw3, hcw3⟩; clear hbw3 hcw3 pw3 HC2))
          go_ret
          exact ⟨ret_bool HR.out.symm, HC3.out.1⟩
        | true =>
          cases b4 with
          | false =>
            replace HR : Hid (R = false) := by show _ = _; rw [HR.out]; simp
            go_enter Try.func18, Try.ntmps18
            go_wp2_with (first | (go_at_call 21; refine (K0.out _ HB0.out.1).mono ?_; clear K0; rintro e w1 ⟨rfl, hbw1⟩; have hcw1 := HB0.out.2.trans (hbw1.mono HB0.out.2.size); obtain ⟨pw1, m1, m2, m3, m4, n1, n2, n3, n4⟩ := HF.out _ hcw1; have HC0 : Hid (Below w.heap.size w w1 ∧ Below _ _ w1) := ⟨pw1, hcw1⟩; clear hbw1 hcw1 pw1 HB0) | (go_at_call 21; refine (K2.out _ HC0.out.1).mono ?_; clear K2; rintro e w2 ⟨rfl, hbw2⟩; have hcw2 := HC0.out.2.trans (hbw2.mono HC0.out.2.size); obtain ⟨pw2, m1, m2, m3, m4, n1, n2, n3, n4⟩ := HF.out _ hcw2; have HC2 : Hid (Below w.heap.size w w2 ∧ Below _ _ w2) := ⟨pw2, hcw2⟩; clear hbw2 hcw2 pw2 HC0) | (go_at_call 21; refine (K3.out _ HC2.out.1).mono ?_; clear K3; rintro e w3 ⟨rfl, hbw3⟩; have hcw3 := HC2.out.2.trans (hbw3.mono HC2.out.2.size); obtain ⟨pw3, m1, m2, m3, m4, n1, n2, n3, n4⟩ := HF.out _ hcw3; have HC3 : Hid (Below w.heap.size w w3 ∧ Below _ _ w3) := ⟨pw3, hcw3⟩; clear hbw3 hcw3 pw3 HC2) | (go_at_call 21; refine (K4.out _ HC3.out.1).mono ?_; clear K4; rintro e w4 ⟨rfl, hbw4⟩; have hcw4 := HC3.out.2.trans (hbw4.mono HC3.out.2.size); obtain ⟨pw4, m1, m2, m3, m4, n1, n2, n3, n4⟩ := HF.out _ hcw4; have HC4 : Hid (Below w.heap.size w w4 ∧ Below _ _ w4) := ⟨pw4, hcw4⟩; clear hbw4 hcw4 pw4 HC3))
            go_ret
            exact ⟨ret_bool HR.out.symm, HC4.out.1⟩
          | true =>
            replace HR : Hid (R = true) := HR.out
            go_enter Try.func18, Try.ntmps18
            go_wp2_with (first | (go_at_call 21; refine (K0.out _ HB0.out.1).mono ?_; clear K0; rintro e w1 ⟨rfl, hbw1⟩; have hcw1 := HB0.out.2.trans (hbw1.mono HB0.out.2.size); obtain ⟨pw1, m1, m2, m3, m4, n1, n2, n3, n4⟩ := HF.out _ hcw1; have HC0 : Hid (Below w.heap.size w w1 ∧ Below _ _ w1) := ⟨pw1, hcw1⟩; clear hbw1 hcw1 pw1 HB0) | (go_at_call 21; refine (K2.out _ HC0.out.1).mono ?_; clear K2; rintro e w2 ⟨rfl, hbw2⟩; have hcw2 := HC0.out.2.trans (hbw2.mono HC0.out.2.size); obtain ⟨pw2, m1, m2, m3, m4, n1, n2, n3, n4⟩ := HF.out _ hcw2; have HC2 : Hid (Below w.heap.size w w2 ∧ Below _ _ w2) := ⟨pw2, hcw2⟩; clear hbw2 hcw2 pw2 HC0) | (go_at_call 21; refine (K3.out _ HC2.out.1).mono ?_; clear K3; rintro e w3 ⟨rfl, hbw3⟩; have hcw3 := HC2.out.2.trans (hbw3.mono HC2.out.2.size); obtain ⟨pw3, m1, m2, m3, m4, n1, n2, n3, n4⟩ := HF.out _ hcw3; have HC3 : Hid (Below w.heap.size w w3 ∧ Below _ _ w3) := ⟨pw3, hcw3⟩; clear hbw3 hcw3 pw3 HC2) | (go_at_call 21; refine (K4.out _ HC3.out.1).mono ?_; clear K4; rintro e w4 ⟨rfl, hbw4⟩; have hcw4 := HC3.out.2.trans (hbw4.mono HC3.out.2.size); obtain ⟨pw4, m1, m2, m3, m4, n1, n2, n3, n4⟩ := HF.out _ hcw4; have HC4 : Hid (Below w.heap.size w w4 ∧ Below _ _ w4) := ⟨pw4, hcw4⟩; clear hbw4 hcw4 pw4 HC3))
            go_ret
            exact ⟨ret_bool HR.out.symm, HC4.out.1⟩
end Go.Proofs.Ytapfbinaocaclaa

namespace Go.Proofs.Ytapfbinaocaclaa
open Go.RowKit Go.Maps
set_option linter.unusedVariables false
set_option linter.unusedSimpArgs false

/-! ### Two captured rows that grow -/
def BoxS (w : World) (b : Nat) (u : Value) : Prop := w.heap[b]? = some (.cells #[u] 34 (0, 0))
structure Two (w : World) (base b1 b2 : Nat) (u1 u2 : Value) (l1 l2 : List Int) : Prop where
  x1 : BoxS w b1 u1
  x2 : BoxS w b2 u2
  o1 : w.ownsRow base 3 1 u1 l1.length (l1.map fun x => I x)
  o2 : w.ownsRow base 3 1 u2 l2.length (l2.map fun x => I x)
  ap : ∀ g, u1.ownBlock = some g → u2.ownBlock ≠ some g
  n1 : b1 < base
  n2 : b2 < base
  ne : b1 ≠ b2
  sz : base ≤ w.heap.size
theorem Two.swap {w : World} {base b1 b2 : Nat} {u1 u2 : Value} {l1 l2 : List Int} (h : Two w base b1 b2 u1 u2 l1 l2) : Two w base b2 b1 u2 u1 l2 l1 :=
  ⟨h.x2, h.x1, h.o2, h.o1, fun g h2 h1 => h.ap g h1 h2, h.n2, h.n1, h.ne.symm, h.sz⟩
theorem Two.below {w w' : World} {base b1 b2 : Nat} {u1 u2 : Value} {l1 l2 : List Int} (h : Two w base b1 b2 u1 u2 l1 l2) (hb : Below w.heap.size w w') : Two w' base b1 b2 u1 u2 l1 l2 :=
  ⟨(hb.block _ (heap_lt h.x1)).trans h.x1, (hb.block _ (heap_lt h.x2)).trans h.x2, own_below h.o1 hb, own_below h.o2 hb, h.ap, h.n1, h.n2, h.ne, Nat.le_trans h.sz hb.size⟩
/-- All but two blocks stay. -/
structure Fr2 (base b1 b2 : Nat) (w w' : World) : Prop where
  os : w'.os = w.os
  tape : w'.tape = w.tape
  output : w'.output = w.output
  size : w.heap.size ≤ w'.heap.size
  block : ∀ k, k < base → k ≠ b1 → k ≠ b2 → w'.heap[k]? = w.heap[k]?
theorem Fr2.swap {base b1 b2 : Nat} {w w' : World} (h : Fr2 base b1 b2 w w') : Fr2 base b2 b1 w w' := ⟨h.os, h.tape, h.output, h.size, fun k a b c => h.block k a c b⟩
theorem Fr2.of {base b1 b2 : Nat} {w w' w'' : World} (h : Below w.heap.size w w') (hs : base ≤ w.heap.size) (k : Fr2 base b1 b2 w' w'') : Fr2 base b1 b2 w w'' :=
  ⟨k.os.trans h.os, k.tape.trans h.tape, k.output.trans h.output, Nat.le_trans h.size k.size, fun g a b c => (k.block g a b c).trans (h.block g (by omega))⟩
theorem Fr2.below {base b1 b2 n : Nat} {w w' : World} (h : Fr2 base b1 b2 w w') (h0 : n ≤ base) (h1 : n ≤ b1) (h2 : n ≤ b2) : Below n w w' :=
  ⟨h.os, h.tape, h.output, h.size, fun k hk => h.block k (by omega) (by omega) (by omega)⟩
/-- One of the two grows by a number, and its variable is written. -/
theorem two_app {w w6 : World} {base b1 b2 : Nat} {u1 u2 v6 : Value} {l1 l2 : List Int} (h : Two w base b1 b2 u1 u2 l1 l2) (o : Obj) (x : Int)
    (ho : w6.ownsRow base 3 1 v6 (l1.length + 1) (l1.map (fun x => I x) ++ [I x])) (hg : (w.alloc o).grownBy w6 u1.ownBlock) (hw : v6.ownBlock = u1.ownBlock ∨ v6.ownBlock = some (w.heap.size + 1)) :
    (BoxS w6 b1 u1) ∧ Two (w6.setCell ⟨b1, 0, none⟩ v6) base b1 b2 v6 u2 (l1 ++ [x]) l2 ∧ Fr2 base b1 b2 w (w6.setCell ⟨b1, 0, none⟩ v6) := by
  have hsz : (w.alloc o).heap.size = w.heap.size + 1 := by simp
  have hb1 : (some b1 : Option Nat) ≠ u1.ownBlock := fun e => by have := (h.o1.lt b1 e.symm).1; have := h.n1; omega
  have hb2 : (some b2 : Option Nat) ≠ u1.ownBlock := fun e => by have := (h.o1.lt b2 e.symm).1; have := h.n2; omega
  have x1 : BoxS w6 b1 u1 := heap_kept (heap_over w o h.x1) hg hb1
  have x2 : BoxS w6 b2 u2 := heap_kept (heap_over w o h.x2) hg hb2
  have gs := grown_set w6 b1 0 v6
  have o2 : w6.ownsRow base 3 1 u2 l2.length (l2.map fun x => I x) := by
    refine (h.o2.alloc o).kept hg ?_
    cases hu : u2.ownBlock with
    | none => exact .inl rfl
    | some g => exact .inr (fun e => h.ap g e.symm hu)
  have n6 : v6.ownBlock = none ∨ v6.ownBlock ≠ some b1 := .inr (fun e => by have := (ho.lt b1 e).1; have := h.n1; omega)
  have n2 : u2.ownBlock = none ∨ u2.ownBlock ≠ some b1 := .inr (fun e => by have := (o2.lt b1 e).1; have := h.n1; omega)
  refine ⟨x1, ⟨heap_setCell_same w6 b1 0 _ _ v6 x1, heap_kept x2 gs (fun e => h.ne (Option.some.inj e).symm), ?_, o2.kept gs n2, ?_, h.n1, h.n2, h.ne, ?_⟩, ?_⟩
  · have := ho.kept gs n6
    rw [List.length_append, List.map_append]
    exact this
  · intro g h6 h2
    rcases hw with hw | hw
    · exact h.ap g (hw.symm.trans h6) h2
    · have := (h.o2.lt g h2).2
      rw [hw] at h6
      have := Option.some.inj h6
      omega
  · exact Nat.le_trans h.sz (Nat.le_trans (by omega) (Nat.le_trans hg.size gs.size))
  · refine ⟨gs.os.trans hg.os, gs.tape.trans hg.tape, gs.output.trans hg.output, Nat.le_trans (by omega) (Nat.le_trans hg.size gs.size), fun k hk hk1 hk2 => ?_⟩
    have hkw : k < w.heap.size := by have := h.sz; omega
    have hk6 : (some k : Option Nat) ≠ u1.ownBlock := fun e => by have := (h.o1.lt k e.symm).1; omega
    rw [gs.block k (by have := hg.size; omega) (fun e => hk1 (Option.some.inj e)), hg.block k (by omega) hk6]
    exact (below_alloc w o).block k hkw
end Go.Proofs.Ytapfbinaocaclaa

