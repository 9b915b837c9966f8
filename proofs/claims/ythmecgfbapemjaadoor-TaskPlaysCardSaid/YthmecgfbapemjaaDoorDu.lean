import Derived.Test.YthmecgfbapemjaaDoorDe
namespace Go.Proofs.YthmecgfbapemjaaDoor
open Go.RowKit Go.Shelf Go.Sort
set_option linter.unusedVariables false
set_option linter.unusedSimpArgs false

/-! ### told, over whatever tells alike -/
/-- a row of numbers that is one's own -/
def Row (w w' : World) (e : Ending) (l : List Nat) : Prop := ∃ a c, e = .returned (.slice a l.length c) ∧ w'.ownsRow w.heap.size 3 1 (.slice a l.length c) l.length (inL l) ∧ Below w.heap.size w w'
structure Tells (w : World) (t : Value) (D n : Nat) (a : Option Addr) (c : Nat) (ρ : Int) (S E N : Int → Int) (L : Int → List Nat) : Prop where
  cell : ∀ Z, Below w.heap.size w Z → Z.cell? ⟨D, 1, none⟩ = some (.slice a n c)
  run : ∀ Z, Below w.heap.size w Z → Calls Tryd.prog 13 #[t] Z fun e w' => e = .returned (I ρ) ∧ Below Z.heap.size Z w'
  drun : ∀ Z, Below w.heap.size w Z → Calls Tryd.prog 38 #[.pointer (some ⟨D, 0, none⟩)] Z fun e w' => e = .returned (I ρ) ∧ Z = w'
  st : ∀ Z i, Below w.heap.size w Z → Calls Tryd.prog 15 #[t, I i] Z fun e w' => e = .returned (.tuple #[I (S i), I (E i)]) ∧ Z = w'
  dst : ∀ Z i, Below w.heap.size w Z → Calls Tryd.prog 39 #[.pointer (some ⟨D, 0, none⟩), I i] Z fun e w' => e = .returned (.tuple #[I (S i), I (E i)]) ∧ Z = w'
  act : ∀ Z i, Below w.heap.size w Z → Calls Tryd.prog 19 #[t, I i] Z fun e w' => e = .returned (I (N i)) ∧ Z = w'
  dact : ∀ Z i, Below w.heap.size w Z → Calls Tryd.prog 40 #[.pointer (some ⟨D, 0, none⟩), I i] Z fun e w' => e = .returned (I (N i)) ∧ Z = w'
  th : ∀ Z s, Below w.heap.size w Z → Calls Tryd.prog 21 #[t, I s] Z fun e w' => Row Z w' e (L s)
  dth : ∀ Z s, Below w.heap.size w Z → Calls Tryd.prog 41 #[.pointer (some ⟨D, 0, none⟩), I s] Z fun e w' => Row Z w' e (L s)
  len : n ≤ 256 ∧ ∀ s, (L s).length ≤ 256
set_option maxHeartbeats 8000000 in
set_option maxRecDepth 100000 in
theorem told_gen {w : World} {t : Value} {D n : Nat} {a : Option Addr} {c : Nat} {ρ : Int} {S E N : Int → Int} {L : Int → List Nat} (h : Tells w t D n a c ρ S E N L) : Calls Tryd.prog 23 #[t, .pointer (some ⟨D, 0, none⟩)] w fun e w' => e = .returned (.bool true) ∧ Below w.heap.size w w' := by
  have HT : Hid (Tells w t D n a c ρ S E N L) := h
  have hn := h.len.1
  have h1 := h.run w (Below.refl _ _)
  clear h
  go_enter Tryd.func23, Tryd.ntmps23
  go_upto_region 3 with (first
    | (go_at_call 13; refine h1.mono ?_; clear h1; rintro e w1 ⟨rfl, b1⟩; have h2 := HT.out.drun w1 b1; have HB : Hid (Below w.heap.size w w1) := b1; clear b1)
    | (go_at_call 38; refine h2.mono ?_; clear h2; rintro e w2 ⟨rfl, rfl⟩))
  go_wp2
  go_loopw [5, 6, 7, 8, 9] (fun v5 _ _ _ _ wr => ∃ k : Nat, k ≤ n + 2 ∧ v5 = I ((k : Int) - 1) ∧ Hid (Below w.heap.size w wr)) (fun v5 _ _ _ _ _ => n + 2 - (intOf v5 + 1).toNat)
  case atStart => exact ⟨0, by omega, rfl, HB.out⟩
  case round =>
    clear HB
    obtain ⟨k, hk, rfl, HJ⟩ := hrel
    have c1 := HT.out.cell wr HJ.out
    by_cases hlt : k < n + 2
    · have hltI : (k : Int) - 1 ≤ n := by omega
      have s1 := HT.out.st wr ((k : Int) - 1) HJ.out
      have s2 := HT.out.dst wr ((k : Int) - 1) HJ.out
      have s3 := HT.out.act wr ((k : Int) - 1) HJ.out
      have s4 := HT.out.dact wr ((k : Int) - 1) HJ.out
      generalize S ((k : Int) - 1) = st at *
      generalize E ((k : Int) - 1) = en at *
      generalize N ((k : Int) - 1) = an at *
      go_wp2_with (first
        | (go_at_call 15; refine s1.mono ?_; clear s1; rintro e w3 ⟨rfl, rfl⟩)
        | (go_at_call 39; refine s2.mono ?_; clear s2; rintro e w3 ⟨rfl, rfl⟩)
        | (go_at_call 19; refine s3.mono ?_; clear s3; rintro e w3 ⟨rfl, rfl⟩)
        | (go_at_call 40; refine s4.mono ?_; clear s4; rintro e w3 ⟨rfl, rfl⟩))
      go_roundw
      case rel => exact ⟨k + 1, by omega, by go_num, HJ.out⟩
      case measure => simp [intOf]; omega
    · obtain rfl : k = n + 2 := by omega
      have hge : ¬ (((n + 2 : Nat) : Int) - 1 ≤ n) := by omega
      clear hk
      go_upto_region 10 with (first | fail)
      clear c1 hge
      go_wp2
      go_loopw [10, 11, 12, 13] (fun v10 _ _ _ wr => ∃ k : Nat, k ≤ 6 ∧ v10 = I ((k : Int) - 1) ∧ Hid (Below w.heap.size w wr)) (fun v10 _ _ _ _ => 6 - (intOf v10 + 1).toNat)
      case atStart => exact ⟨0, by omega, rfl, HJ.out⟩
      case round =>
        clear HJ
        obtain ⟨k, hk, rfl, HJ⟩ := hrel
        by_cases hlt : k < 6
        · have hltI : (k : Int) - 1 ≤ 4 := by omega
          have s1 := HT.out.th wr ((k : Int) - 1) HJ.out
          have s2 := fun Z hZ => HT.out.dth Z ((k : Int) - 1) hZ
          have hl := HT.out.len.2 ((k : Int) - 1)
          generalize L ((k : Int) - 1) = l at *
          go_upto_region 16 with (first
            | (go_at_call 21; refine s1.mono ?_; clear s1; rintro e w3 ⟨a3, k3, rfl, o3, b3⟩; have s2' := s2 w3 (HJ.out.trans (b3.mono HJ.out.size)); have H3 : Hid (w3.ownsRow wr.heap.size 3 1 (.slice a3 l.length k3) l.length (inL l) ∧ Below wr.heap.size wr w3) := ⟨o3, b3⟩; clear o3 b3 s2)
            | (go_at_call 41; refine s2'.mono ?_; clear s2'; rintro e w4 ⟨a4, k4, rfl, o4, b4⟩; have H4 : Hid (w4.ownsRow w3.heap.size 3 1 (.slice a4 l.length k4) l.length (inL l) ∧ Below w3.heap.size w3 w4) := ⟨o4, b4⟩; clear o4 b4))
          have HQ : Hid (w4.ownsRow wr.heap.size 3 1 (.slice a3 l.length k3) l.length (inL l) ∧ w4.ownsRow w3.heap.size 3 1 (.slice a4 l.length k4) l.length (inL l) ∧ Below w.heap.size w w4 ∧ (∀ g, (Value.slice a3 l.length k3).ownBlock = some g → g < w3.heap.size) ∧ w.heap.size ≤ wr.heap.size ∧ ∀ j, 0 ≤ j → (inL l)[j]? = (inL l)[j]?) :=
            ⟨own_below H3.out.1 H4.out.2, H4.out.1, HJ.out.trans ((H3.out.2.trans (H4.out.2.mono H3.out.2.size)).mono HJ.out.size), fun g e => (H3.out.1.lt g e).2, HJ.out.size, fun _ _ => rfl⟩
          clear H3 H4 HJ
          generalize hb3 : wr.heap.size = q3 at *
          generalize hb4 : w3.heap.size = q4 at *
          clear hb3 hb4
          go_wp2
          go_loopw [13] (fun v13 wq => ∃ (i : Nat) (xs : List Value), i ≤ l.length ∧ v13 = I i ∧ Hid (wq.ownsRow q3 3 1 (.slice a3 l.length k3) l.length xs ∧ wq.ownsRow q4 3 1 (.slice a4 l.length k4) l.length (inL l) ∧ Below w.heap.size w wq ∧ (∀ g, (Value.slice a3 l.length k3).ownBlock = some g → g < q4) ∧ w.heap.size ≤ q3 ∧ ∀ j, i ≤ j → xs[j]? = (inL l)[j]?)) (fun v13 _ => l.length - (intOf v13).toNat)
          case atStart => exact ⟨0, inL l, by omega, rfl, HQ.out.1, HQ.out.2.1, HQ.out.2.2.1, HQ.out.2.2.2.1, HQ.out.2.2.2.2.1, fun _ _ => rfl⟩
          case round =>
            clear HQ
            obtain ⟨i, xs, hi, rfl, HK⟩ := hrel
            by_cases hli : i < l.length
            · have hliI : (i : Int) < l.length := by omega
              obtain ⟨g3, c3, e3⟩ := own_some HK.out.1 (by omega)
              obtain ⟨g4, c4, e4⟩ := own_some HK.out.2.1 (by omega)
              cases e3
              cases e4
              obtain ⟨x, hx⟩ : ∃ x, l[i]? = some x := ⟨_, List.getElem?_eq_getElem hli⟩
              have y1 : wr.cell? ⟨g3, i, none⟩ = some (I x) := by rw [HK.out.1.cellAt i (by omega), HK.out.2.2.2.2.2 i (Nat.le_refl _)]; simp [inL, hx]
              have y2 : wr.cell? ⟨g4, i, none⟩ = some (I x) := by rw [HK.out.2.1.cellAt i (by omega)]; simp [inL, hx]
              have z1 := cell_regrown y1
              have z2 := cell_regrown y2
              clear y1 y2 hx
              go_upto_region 19 with (first | fail)
              refine wp_region_quiet_below (by kernel_rfl) (by kernel_rfl) ?_
              repeat (go_big_quiet_step (first | fail))
              refine wpQuiet_nil ?_
              rintro _ ⟨⟨dq, osq⟩, rfl⟩
              dsimp only
              have bq := below_regrown wr dq osq
              have H7 : Hid ((grow (redrawn wr dq) osq).ownsRow q3 3 1 (.slice (some ⟨g3, 0, none⟩) l.length k3) l.length xs ∧ (grow (redrawn wr dq) osq).ownsRow q4 3 1 (.slice (some ⟨g4, 0, none⟩) l.length k4) l.length (inL l) ∧ Below w.heap.size w (grow (redrawn wr dq) osq)) := ⟨own_below HK.out.1 bq, own_below HK.out.2.1 bq, HK.out.2.2.1.trans (bq.mono HK.out.2.2.1.size)⟩
              have H8 : Hid ((∀ g, (Value.slice (some ⟨g3, 0, none⟩) l.length k3).ownBlock = some g → g < q4) ∧ w.heap.size ≤ q3 ∧ ∀ j, i ≤ j → xs[j]? = (inL l)[j]?) := HK.out.2.2.2
              clear z1 z2 bq HK
              generalize grow (redrawn wr dq) osq = w7 at *
              obtain ⟨u0, hu0⟩ : ∃ u0, xs[i]? = some u0 := ⟨_, List.getElem?_eq_getElem (by have := H7.out.1.1; omega)⟩
              have y1 : w7.cell? ⟨g3, i, none⟩ = some u0 := by rw [H7.out.1.cellAt i (by omega)]; exact hu0
              have y3 := H7.out.1.frozenAt i
              have F9 : Fz (fun b => b = g3) w7 (w7.setCell ⟨g3, i, none⟩ (I (-9))) := (Fz.refl (fun b => b = g3) w7).set (.inl rfl) _ _
              have hg3 := H8.out.1 g3 rfl
              have hg3b := (H7.out.1.lt g3 rfl).1
              have H9 : Hid ((w7.setCell ⟨g3, i, none⟩ (I (-9))).ownsRow q3 3 1 (.slice (some ⟨g3, 0, none⟩) l.length k3) l.length (xs.set i (I (-9))) ∧ (w7.setCell ⟨g3, i, none⟩ (I (-9))).ownsRow q4 3 1 (.slice (some ⟨g4, 0, none⟩) l.length k4) l.length (inL l) ∧ Below w.heap.size w (w7.setCell ⟨g3, i, none⟩ (I (-9))) ∧ (∀ g, (Value.slice (some ⟨g3, 0, none⟩) l.length k3).ownBlock = some g → g < q4) ∧ w.heap.size ≤ q3 ∧ ∀ j, i + 1 ≤ j → (xs.set i (I (-9)))[j]? = (inL l)[j]?) := by
                refine ⟨(H7.out.1.stored i (I (-9))).1, F9.own H7.out.2.1 (fun g e e2 => by have := (H7.out.2.1.lt g e).1; omega), H7.out.2.2.trans (F9.below H7.out.2.2.size (fun b e => by have := H8.out.2.1; omega)), H8.out.1, H8.out.2.1, fun j hj => ?_⟩
                rw [List.getElem?_set_ne (by omega)]
                exact H8.out.2.2 j (by omega)
              clear H7 H8 F9 hu0 hg3 hg3b
              go_wp2
              go_roundw
              case rel => exact ⟨i + 1, _, by omega, by go_num, H9.out⟩
              case measure => simp [intOf]; omega
            · obtain rfl : i = l.length := by omega
              have hge : ¬ ((l.length : Int) < l.length) := by omega
              have HB9 : Hid (Below w.heap.size w wr) := HK.out.2.2.1
              clear HK
              go_wp2
              go_roundw
              case rel => exact ⟨k + 1, by omega, by omega⟩
              case measure => simp [intOf]; omega
        · obtain rfl : k = 6 := by omega
          go_wp2
          go_ret
          exact ⟨rfl, HJ.out⟩
end Go.Proofs.YthmecgfbapemjaaDoor
