import Derived.Test.YticgikbnlpgnkaaYra
import Derived.Deep.Cut
import Derived.Sort.CutIn
namespace Go.Proofs.Yticgikbnlpgnkaa
open Go.RowKit Go.Shelf
set_option linter.unusedVariables false
set_option linter.unusedSimpArgs false
attribute [local go_sem] Oper.semAt_some

set_option maxRecDepth 100000 in
set_option maxHeartbeats 16000000 in
theorem qranges_any (W : World) (s : Sl) (l : List (Int × Int)) (h : RowsAt W 2 rwP s l) (hl : l.length * 16 ≤ 140737488351232) (s2 : Sl) (cs : List (Int × Int × Int)) (h2 : RowsAt W 3 clP s2 cs) (hl2 : cs.length * 24 ≤ 140737488351232) (lv : Int) : Calls Try.prog 4 #[.slice s.a s.n s.c, .slice s2.a s2.n s2.c, I lv] W fun e w' => e = .returned (.bool true) ∧ Below W.heap.size W w' := by
  have hse := seq_some13
  have b2 : Below W.heap.size W ((W.alloc (.cells #[I lv] 3)).alloc (.cells #[.bool false] 4)) := ((Below.refl _ W).alloc (Nat.le_refl _) _).alloc (by simp) _
  have t1 := qmade_any ((W.alloc (.cells #[I lv] 3)).alloc (.cells #[.bool false] 4)) s l (rows_below h b2) hl
  clear h hl
  obtain ⟨a2, n2, c2⟩ := s2
  have hn2 := h2.n
  simp only at hn2
  subst hn2
  have HC : Hid (RowsAt W 3 clP ⟨a2, cs.length, c2⟩ cs) := h2
  clear h2
  simp only
  cases hf : fitB 64 l with
  | false =>
    have t2 := t1.mono (R' := fun e w' => e = .returned (.tuple #[.pointer none, .pointer none, .bool true]) ∧ Hid (Below ((W.alloc (.cells #[I lv] 3)).alloc (.cells #[.bool false] 4)).heap.size ((W.alloc (.cells #[I lv] 3)).alloc (.cells #[.bool false] 4)) w')) (fun e w' k => by
      obtain ⟨k1, k2 | k2⟩ := k
      · exact ⟨k2.2, k1⟩
      · rw [hf] at k2; exact absurd k2.1 (by simp))
    clear t1 hf
    have x6 : Boxed ((W.alloc (.cells #[I lv] 3)).alloc (.cells #[.bool false] 4)) (W.heap.size + 1) 4 (.bool false) := by
      have := Boxed.new (W.alloc (.cells #[I lv] 3)) 4 (.bool false)
      rw [World.size_alloc] at this
      exact this
    have HX6 : Hid (Boxed ((W.alloc (.cells #[I lv] 3)).alloc (.cells #[.bool false] 4)) (W.heap.size + 1) 4 (.bool false) ∧ W.heap.size + 1 < ((W.alloc (.cells #[I lv] 3)).alloc (.cells #[.bool false] 4)).heap.size) := ⟨x6, x6.lt⟩
    clear x6
    refine (callsIn_wide (n := 3)).1 ?_
    refine callsIn_of_wp_marks Try.func4 rfl trivial ?_ rfl
    simp only [Try.ntmps4, List.size_toArray, List.length_cons, List.length_nil, Nat.reduceAdd, Nat.reduceSub, Array.replicate_succ, Array.replicate_zero, List.push_toArray, List.append_toArray, List.nil_append, List.cons_append]
    refine wpIn_wide.2 (wp_mono (Q := seenPost _ _ _) ?_ seen_post)
    go_upto_region 2 with (first
      | (go_at_call 8; refine t2.mono ?_; clear t2; rintro e w1 ⟨rfl, HB1⟩))
    have b3 : Below w1.heap.size w1 ((w1.alloc (.cells #[.pointer none] 24)).alloc (.cells #[.pointer none] 25)) := ((Below.refl _ w1).alloc (Nat.le_refl _) _).alloc (by simp) _
    have z7 := (Boxed.new w1 24 (.pointer none)).alloc (.cells #[.pointer none] 25)
    have HZ : Hid (Boxed ((w1.alloc (.cells #[.pointer none] 24)).alloc (.cells #[.pointer none] 25)) w1.heap.size 24 (.pointer none) ∧ Boxed ((w1.alloc (.cells #[.pointer none] 24)).alloc (.cells #[.pointer none] 25)) (W.heap.size + 1) 4 (.bool false) ∧ Below W.heap.size W ((w1.alloc (.cells #[.pointer none] 24)).alloc (.cells #[.pointer none] 25))) := by
      have hb1 := HB1.out
      have hs := hb1.size
      have bW := b2.trans (hb1.mono b2.size)
      exact ⟨z7, (b3.block _ (by have := HX6.out.2; omega)).trans ((hb1.block _ HX6.out.2).trans HX6.out.1), bW.trans (b3.mono bW.size)⟩
    clear z7 b3 HB1 HX6 b2
    generalize ((w1.alloc (.cells #[.pointer none] 24)).alloc (.cells #[.pointer none] 25)) = W3 at *
    go_wp2_with (first
      | (go_at_call 9; refine (qheads_any _).mono ?_; rintro e w8 ⟨rfl, b8⟩; have x7 : Boxed w8 w1.heap.size 24 (.pointer none) := (b8.block _ HZ.out.1.lt).trans HZ.out.1; have y7 := x7.cell; have x6 : Boxed w8 (W.heap.size + 1) 4 (.bool false) := (b8.block _ HZ.out.2.1.lt).trans HZ.out.2.1; have y6 := x6.cell; have yz6 := x6.frozen))
    have b08 : Below W.heap.size W w8 := HZ.out.2.2.trans (b8.mono HZ.out.2.2.size)
    have f8 : Fx [W.heap.size + 1] w8 (w8.setCell ⟨W.heap.size + 1, 0, none⟩ (.bool true)) := (Fx.refl _ _).set (b := W.heap.size + 1) (.inl (by simp)) _ _
    exact leave0 (p := 6) rfl rfl (x6.set _) (b08.trans (f8.below b08.size (by simp)))
  | true =>
    have t2 := t1.mono (R' := fun e w' => ∃ Q D X Y, e = .returned (.tuple #[qP Q, dQ D, .bool true]) ∧ Hid (Cp w' Q D X Y (newR l) ∧ Below ((W.alloc (.cells #[I lv] 3)).alloc (.cells #[.bool false] 4)).heap.size ((W.alloc (.cells #[I lv] 3)).alloc (.cells #[.bool false] 4)) w' ∧ ∀ b, X b ∨ Y b → W.heap.size + 1 + 1 ≤ b)) (fun e w' k => by
      obtain ⟨k1, k2 | k2⟩ := k
      · rw [hf] at k2; exact absurd k2.1 (by simp)
      · obtain ⟨_, Q, D, X, Y, e1, k3, k4⟩ := k2
        exact ⟨Q, D, X, Y, e1, k3, k1, fun b e => by have := k4 b e; simpa using this⟩)
    clear t1 hf
    refine (callsIn_wide (n := 3)).1 ?_
    refine callsIn_of_wp_marks Try.func4 rfl trivial ?_ rfl
    simp only [Try.ntmps4, List.size_toArray, List.length_cons, List.length_nil, Nat.reduceAdd, Nat.reduceSub, Array.replicate_succ, Array.replicate_zero, List.push_toArray, List.append_toArray, List.nil_append, List.cons_append]
    refine wpIn_wide.2 (wp_mono (Q := seenPost _ _ _) ?_ seen_post)
    go_upto_region 2 with (first
      | (go_at_call 8; refine t2.mono ?_; clear t2; rintro e w1 ⟨Q, D, X, Y, rfl, HP⟩))
    have HG : Hid (RG W ((w1.alloc (.cells #[qP Q] 24)).alloc (.cells #[dQ D] 25)) W.heap.size (W.heap.size + 1) w1.heap.size (w1.heap.size + 1) lv Q D X Y (newR l)) := by
      obtain ⟨hc, hb, hk⟩ := HP.out
      have hs : ((W.alloc (.cells #[I lv] 3)).alloc (.cells #[.bool false] 4)).heap.size = W.heap.size + 1 + 1 := by simp
      have hsz := hb.size
      rw [hs] at hsz
      have x5 := (Boxed.new W 3 (I lv)).alloc (.cells #[.bool false] 4)
      have x6 : Boxed ((W.alloc (.cells #[I lv] 3)).alloc (.cells #[.bool false] 4)) (W.heap.size + 1) 4 (.bool false) := by
        have := Boxed.new (W.alloc (.cells #[I lv] 3)) 4 (.bool false)
        rw [World.size_alloc] at this
        exact this
      have b3 : Below w1.heap.size w1 ((w1.alloc (.cells #[qP Q] 24)).alloc (.cells #[dQ D] 25)) := ((Below.refl _ w1).alloc (Nat.le_refl _) _).alloc (by simp) _
      have z7 := (Boxed.new w1 24 (qP Q)).alloc (.cells #[dQ D] 25)
      have z8 : Boxed ((w1.alloc (.cells #[qP Q] 24)).alloc (.cells #[dQ D] 25)) (w1.heap.size + 1) 25 (dQ D) := by
        have := Boxed.new (w1.alloc (.cells #[qP Q] 24)) 25 (dQ D)
        rw [World.size_alloc] at this
        exact this
      have bW := b2.trans (hb.mono b2.size)
      have hx : ∀ b, X b → b < w1.heap.size := hc.x
      have hy : ∀ b, Y b → b < w1.heap.size := fun b e => (hc.d.yx b e).1
      exact ⟨hc.below b3, bW.trans (b3.mono bW.size), fun b e => by have := hk b e; omega, (b3.block _ (by omega)).trans ((hb.block _ (by omega)).trans x5), (b3.block _ (by omega)).trans ((hb.block _ (by omega)).trans x6), z7, z8,
        ⟨fun e => by have := hk _ (.inl e); omega, fun e => by have := hk _ (.inr e); omega⟩, ⟨fun e => by have := hk _ (.inl e); omega, fun e => by have := hk _ (.inr e); omega⟩, ⟨fun e => by have := hx _ e; omega, fun e => by have := hy _ e; omega⟩, ⟨fun e => by have := hx _ e; omega, fun e => by have := hy _ e; omega⟩, ⟨Nat.le_refl _, by omega, by omega, by omega⟩⟩
    have hA1 : W.heap.size + 1 + 1 ≤ w1.heap.size := by have := HP.out.2.1.size; simpa using this
    clear HP b2
    generalize ((w1.alloc (.cells #[qP Q] 24)).alloc (.cells #[dQ D] 25)) = W3 at *
    go_wp2_with (first
      | (go_at_call 9; refine (qheads_any _).mono ?_; rintro e w3 ⟨rfl, b3⟩; have HG3 : Hid (RG W w3 W.heap.size (W.heap.size + 1) w1.heap.size (w1.heap.size + 1) lv Q D X Y (newR l)) := HG.out.below b3; have y7 := HG3.out.x7.cell; clear b3 HG))
    clear y7
    go_loopw [10] (fun j wr => ∃ (k : Nat) (rs : List Rr), k ≤ cs.length ∧ j = .int .i64 k ∧ Hid (RG W wr W.heap.size (W.heap.size + 1) w1.heap.size (w1.heap.size + 1) lv Q D X Y rs)) (fun j _ => cs.length - (intOf j).toNat)
    case atStart => exact ⟨0, _, Nat.zero_le _, rfl, HG3.out⟩
    case round =>
      clear HG3
      obtain ⟨k, rs, hk, rfl, HG⟩ := hrel
      have hk0 : ¬ (k : Int) < 0 := by omega
      by_cases hlt : k < cs.length
      · obtain ⟨⟨kd, pr, id⟩, hx⟩ : ∃ x, cs[k]? = some x := ⟨_, List.getElem?_eq_getElem hlt⟩
        have hkI : (k : Int) < cs.length := by omega
        obtain ⟨g, off, rfl, _, x1, x2⟩ := HC.out.three HG.out.b hx
        have HX : Hid (∀ Z, Below W.heap.size W Z → Z.cell? ⟨g, off + k * 3 + 1, none⟩ = some (I pr) ∧ Z.cell? ⟨g, off + k * 3 + 2, none⟩ = some (I id)) := fun Z hb => by
          obtain ⟨g', off', e', _, r1, r2⟩ := HC.out.three hb hx
          cases e'
          exact ⟨r1, r2⟩
        clear hx
        have y7 := HG.out.x7.cell
        obtain ⟨c, rs', tp, td⟩ := bothTail HG.out.c pr id
        have t1 := tp wr.drew ((Below.refl _ wr).drew)
        clear tp
        go_wp2
        go_region_held_law (fun w' => w'.cell? ⟨w1.heap.size, 0, none⟩ = some (qP Q) ∧ w'.cell? ⟨g, off + k * 3 + 1, none⟩ = some (I pr) ∧ w'.cell? ⟨g, off + k * 3 + 2, none⟩ = some (I id))
          (first | exact ⟨y7, x1, x2⟩ | exact S4 | (go_keep; done))
          (first | (go_at_call 10; refine t1.mono ?_; clear t1; rintro e w4 ⟨rfl, m4, f4⟩; have bW4 : Below W.heap.size W w4 := (HG.out.below (Below.refl _ wr).drew).b.trans (f4.below (HG.out.below (Below.refl _ wr).drew).b.size (fun b e => HG.out.k b (.inl e))); have S4 : w4.cell? ⟨w1.heap.size, 0, none⟩ = some (qP Q) ∧ w4.cell? ⟨g, off + k * 3 + 1, none⟩ = some (I pr) ∧ w4.cell? ⟨g, off + k * 3 + 2, none⟩ = some (I id) := ⟨f4.cell (a := wr.drew) y7 HG.out.n7.1, HX.out w4 bW4⟩))
        all_goals
          have y8 := f4.cell (a := wr.drew) HG.out.x8.cell HG.out.n8.1
          have x3 := S4.2.1
          have x4 := S4.2.2
          have t2 := td w4.drew (m4.below (Below.refl _ w4).drew)
          have HF4 : Hid (Fz X wr w4.drew ∧ Below W.heap.size W w4) := ⟨(((Fz.refl X wr).drewN 1).trans f4).drewN 1, bW4⟩
          clear S4 td m4 f4 bW4 y7 x1 x2
          go_wp2
          go_region_held_law (fun w' => w'.cell? ⟨w1.heap.size + 1, 0, none⟩ = some (dQ D) ∧ w'.cell? ⟨g, off + k * 3 + 1, none⟩ = some (I pr) ∧ w'.cell? ⟨g, off + k * 3 + 2, none⟩ = some (I id))
            (first | exact ⟨y8, x3, x4⟩ | exact S5 | (go_keep; done))
            (first | (go_at_call 17; refine t2.mono ?_; clear t2; rintro e w5 ⟨rfl, c5, f5⟩; have HG5 : Hid (RG W w5 W.heap.size (W.heap.size + 1) w1.heap.size (w1.heap.size + 1) lv Q D X Y rs') := HG.out.pair c5 HF4.out.1 f5; have S5 : w5.cell? ⟨w1.heap.size + 1, 0, none⟩ = some (dQ D) ∧ w5.cell? ⟨g, off + k * 3 + 1, none⟩ = some (I pr) ∧ w5.cell? ⟨g, off + k * 3 + 2, none⟩ = some (I id) := ⟨HG5.out.x8.cell, HX.out w5 HG5.out.b⟩; clear c5 f5))
          all_goals
            clear S5 y8 x3 x4 HF4 HG
            go_wp2
            go_roundw
            case rel => exact ⟨k + 1, rs', by omega, by go_num, HG5.out⟩
            case measure => simp [intOf]; omega
      · obtain rfl : k = cs.length := by omega
        have hge : ¬ ((cs.length : Int) < cs.length) := by omega
        have y8 := HG.out.x8.cell
        have t3 := eAllC HG.out.c
        go_wp2_with (first
          | (go_at_call 18; refine t3.mono ?_; clear t3; rintro e w5 ⟨vL, rfl, o5, b5⟩
             obtain ⟨aL, cL, e5⟩ := own_sl2 o5
             subst e5
             have HO : Hid (w5.ownsRow wr.heap.size 35 2 (.slice aL (allR rs).length cL) (allR rs).length (pairsC (allR rs)) ∧ Below wr.heap.size wr w5) := ⟨o5, b5⟩
             have y7 : (w5.alloc (.cells #[.slice aL (allR rs).length cL] 29)).cell? ⟨w1.heap.size, 0, none⟩ = some (qP Q) := ((HG.out.below b5).below (below_alloc _ _)).x7.cell
             clear o5 b5)
          | (go_at_call 19; refine (qAll_ptr _ _).mono ?_; rintro e w6 ⟨rfl, rfl⟩))
        have HG7 : ∃ X', Hid (G7 W (((w5.alloc (.cells #[.slice aL (allR rs).length cL] 29)).alloc (.cells #[qP Q] 24)).alloc (.cells #[.int .i64 0] 3)) W.heap.size (W.heap.size + 1) w1.heap.size (w1.heap.size + 1) w5.heap.size (w5.heap.size + 1 + 1) (w5.heap.size + 1) lv Q D X X' Y rs aL cL) := by
          obtain ⟨o5, b5⟩ := HO.out
          have G0 := HG.out
          have G5 := G0.below b5
          have b7 : Below w5.heap.size w5 (((w5.alloc (.cells #[.slice aL (allR rs).length cL] 29)).alloc (.cells #[qP Q] 24)).alloc (.cells #[.int .i64 0] 3)) := (((Below.refl _ w5).alloc (Nat.le_refl _) _).alloc (by simp) _).alloc (by simp; omega) _
          have s7 : (((w5.alloc (.cells #[.slice aL (allR rs).length cL] 29)).alloc (.cells #[qP Q] 24)).alloc (.cells #[.int .i64 0] 3)).heap.size = w5.heap.size + 1 + 1 + 1 := by simp
          have G7' := G5.below b7
          have hx : ∀ b, X b → b < wr.heap.size := G0.c.x
          have hy : ∀ b, Y b → b < wr.heap.size := fun b e => (G0.c.d.yx b e).1
          have hs5 := b5.size
          have l5 := G0.x5.lt
          have l6 := G0.x6.lt
          have l7 := G0.x7.lt
          have l8 := G0.x8.lt
          have bW := G5.b.size
          have x11 : Boxed (((w5.alloc (.cells #[.slice aL (allR rs).length cL] 29)).alloc (.cells #[qP Q] 24)).alloc (.cells #[.int .i64 0] 3)) w5.heap.size 29 (.slice aL (allR rs).length cL) := ((Boxed.new w5 29 (.slice aL (allR rs).length cL)).alloc _).alloc _
          have xS : Boxed (((w5.alloc (.cells #[.slice aL (allR rs).length cL] 29)).alloc (.cells #[qP Q] 24)).alloc (.cells #[.int .i64 0] 3)) (w5.heap.size + 1) 24 (qP Q) := by
            have := (Boxed.new (w5.alloc (.cells #[.slice aL (allR rs).length cL] 29)) 24 (qP Q)).alloc (.cells #[.int .i64 0] 3)
            rw [World.size_alloc] at this
            exact this
          have x13 : Boxed (((w5.alloc (.cells #[.slice aL (allR rs).length cL] 29)).alloc (.cells #[qP Q] 24)).alloc (.cells #[.int .i64 0] 3)) (w5.heap.size + 1 + 1) 3 (I (0 : Nat)) := by
            have := Boxed.new ((w5.alloc (.cells #[.slice aL (allR rs).length cL] 29)).alloc (.cells #[qP Q] 24)) 3 (.int .i64 0)
            rw [World.size_alloc, World.size_alloc] at this
            exact this
          refine ⟨fun b => X b ∨ b = w5.heap.size ∨ b = w5.heap.size + 1 + 1, G7'.b, fun b e => ?_, G5.c.tw b7 (fun b e => ?_) (fun b e => .inl e), G7'.x5, G7'.x6, G7'.x7, G7'.x8, x11, x13, xS, own_mono0 (own_below o5 b7), fun A e e2 => ?_, fun g e e2 => ?_, ⟨.inr (.inr rfl), fun e => ?_, fun e => ?_⟩, ⟨.inr (.inl rfl), by omega, by omega, by omega, by omega, by omega⟩, ⟨by omega, by omega, by omega⟩⟩
          · rw [s7]
            rcases e with (e | rfl | rfl) | e
            · have h1 := G0.k b (.inl e); have h2 := hx b e; omega
            · omega
            · omega
            · have h1 := G0.k b (.inr e); have h2 := hy b e; omega
          · rw [s7]
            rcases e with e | rfl | rfl
            · exact .inl e
            · exact .inr (by omega)
            · exact .inr (by omega)
          · rcases e2 with e2 | e2 | e2
            · have h2 := hx A e2
              rcases e with rfl | rfl | rfl | rfl | rfl | rfl
              · exact G0.n5.1 e2
              · exact G0.n6.1 e2
              · exact G0.n7.1 e2
              · exact G0.n8.1 e2
              · omega
              · omega
            · omega
            · have h2 := hy A e2
              rcases e with rfl | rfl | rfl | rfl | rfl | rfl
              · exact G0.n5.2 e2
              · exact G0.n6.2 e2
              · exact G0.n7.2 e2
              · exact G0.n8.2 e2
              · omega
              · omega
          · have h1 := o5.lt g e
            rcases e2 with e2 | e2 | e2
            · have := hx g e2; omega
            · omega
            · have := hy g e2; omega
          · have := hx _ e; omega
          · have := hy _ e; omega
        obtain ⟨X', HG7⟩ := HG7
        have hAc : w1.heap.size + 1 < w5.heap.size := by have h1 := HG.out.x8.lt; have h2 := HO.out.2.size; omega
        clear HO HG y7 y8
        generalize (((w5.alloc (.cells #[.slice aL (allR rs).length cL] 29)).alloc (.cells #[qP Q] 24)).alloc (.cells #[.int .i64 0] 3)) = W7 at *
        generalize w5.heap.size = c at *
        refine (wpIn_wide (n := 3)).1 ?_
        generalize hA1 : ({ tmps := _, defers := _ } : Act) = a1
        have hg1 : a1.eval (.tmp 66) = .func (.func 39) #[] #[.pointer (some ⟨c + 1, 0, none⟩)] := by rw [← hA1]; rfl
        refine wpIn_rangeFunc_ownH (α := Int × Int) rfl (by omega) (gf := 39) (lb := #[.pointer (some ⟨c + 1, 0, none⟩)]) hg1 trivial (enters_of Try.func39 (by kernel_rfl) rfl)
          (qAll_stops (3 - 1) (by omega) (c + 1) (fun _ b => X b ∨ b = c + 1 + 1 ∨ Y b) (allR rs) (qP Q) W7 HG7.out.xs.lt HG7.out.xs.cell (fun Z hZ => rlist (HG7.out.t.q.below hZ)) HG7.out.t.q.allLen (fun Z b _ hm => (HG7.out.m b hm).2) (fun Z o b _ hm => hm)) Kq.trans (Kq.put (fun _ _ _ _ _ hm => hm)) (Below.refl _ _) (fun _ => rfl)
          (fun pre Z => RI W7 Z Q D X X' Y (c + 1 + 1) pre.length ∧ pre <+: allR rs)
          (fun cc pre Z => (cc = .ret ∧ ¬ pre <+: allR rs) ∨ (cc = .exit 2 ∧ RI W7 Z Q D X X' Y (c + 1 + 1) pre.length ∧ pre <+: allR rs ∧ (pre.length : Int) = lv))
          (fun pre Z Z' row hI hg hr => ⟨hI.1.turn (fun b e => (HG7.out.k b e).2) hg hr, hI.2⟩)
          (fun cc pre Z Z' row hI hg hr => hI.imp id (fun h => ⟨h.1, h.2.1.turn (fun b e => (HG7.out.k b e).2) hg hr, h.2.2⟩))
          ⟨HG7.out.i0, List.nil_prefix⟩
          (fun x a' Z => ∃ Bx, Z.heap[Bx]? = some (.cells #[I x.1, I x.2] 35) ∧ a' = { tmps := (a1.tmps.setIfInBounds 67 (.agg #[I x.1, I x.2])).setIfInBounds 14 (.pointer (some ⟨Bx, 0, none⟩)), defers := [] })
          (fun x a' s W W' row hs hg hr => by
            obtain ⟨Bx, h1, h2⟩ := hs
            refine ⟨Bx, (hg.block Bx (heap_lt h1) (fun e => ?_)).trans h1, h2⟩
            obtain ⟨_, o, ho, hc⟩ := hr Bx e.symm
            rw [h1] at ho
            cases ho
            cases hc) ?assign1 ?body1 ?done1 ?stop1
        case assign1 =>
          rintro lp pre ⟨x1, x2⟩ Z K hI hK
          have hst := run_storeCells_new (P := Try.prog) Z 35 #[.int .i64 0, .int .i64 0] #[I x1, I x2] (by kernel_rfl) rfl (by simp [Value.oneCell'])
          have hK2 := hK { tmps := (a1.tmps.setIfInBounds 67 (.agg #[I x1, I x2])).setIfInBounds 14 (.pointer (some ⟨Z.heap.size, 0, none⟩)), defers := [] } (Z.alloc (.cells #[I x1, I x2] 35)) ((KeepsOthers.alloc _ _).from _) (Kq.alloc (fun b hm => hm)) ⟨hI.1.below (below_alloc _ _), hI.2⟩ ⟨Z.heap.size, heap_alloc_new Z _, rfl⟩
          clear hK
          subst hA1
          simp only [List.setIfInBounds_toArray, List.set_cons_succ, List.set_cons_zero] at hK2
          gi_wp2
          exact hK2
        case body1 =>
          rintro lp pre ⟨x1, x2⟩ a' Z hlp ⟨lr, hlr⟩ ⟨hR, hpre⟩ ⟨Bx, hX, rfl⟩ hlt
          subst hA1
          simp only [List.setIfInBounds_toArray, List.set_cons_succ, List.set_cons_zero]
          clear hlr
          have y13 := hR.n.cell
          have y11 := (hR.f.boxed HG7.out.x11 (HG7.out.n _ (by simp))).cell
          obtain ⟨⟨p1, p2⟩, hy⟩ : ∃ y, (allR rs)[pre.length]? = some y := ⟨_, List.getElem?_eq_getElem hlt⟩
          obtain ⟨g, eg, r0, r1⟩ := HG7.out.row hR.f hy
          have v0 : Z.cell? ⟨Bx, 0, none⟩ = some (I x1) := by rw [cell_of_row _ _ _ _ _ (0, 0) hX]; rfl
          have v1 : Z.cell? ⟨Bx, 1, none⟩ = some (I x2) := by rw [cell_of_row _ _ _ _ _ (0, 0) hX]; rfl
          have hltI : ¬ ((allR rs).length : Int) ≤ pre.length := by omega
          have hltJ : (pre.length : Int) < (allR rs).length := by omega
          have hge0 : ¬ (pre.length : Int) < 0 := by omega
          have hpb : (pre.length : Int) < 4194305 := by have := HG7.out.t.q.allLen; omega
          have R5 := hR.below (Below.refl _ Z).drew
          have HGg := HG7
          clear hX
          subst eg
          by_cases hxy : x1 = p1 ∧ x2 = p2
          · obtain ⟨rfl, rfl⟩ := hxy
            have HPX : Hid (pre ++ [(x1, x2)] <+: allR rs) := pre_next hpre hy
            have HR5 : Hid (Fz (fun b => X b ∨ b = c + 1 + 1 ∨ Y b) Z Z.drew ∧ RI W7 Z.drew Q D X X' Y (c + 1 + 1) pre.length) := ⟨(Fz.refl _ Z).drewN 1, R5⟩
            clear hy hpre hR R5
            gi_wp2
            refine only_normal (fun K hK => ?_)
            refine region_round (by kernel_rfl) (by kernel_rfl) (not_lets_onlyN _) (S := fun w' => w'.cell? ⟨c + 1 + 1, 0, none⟩ = some (I pre.length) ∧ w'.cell? ⟨c, 0, none⟩ = some (.slice (some ⟨g, 0, none⟩) (allR rs).length cL) ∧ w'.cell? ⟨Bx, 0, none⟩ = some (I x1) ∧ w'.cell? ⟨Bx, 1, none⟩ = some (I x2) ∧ w'.cell? ⟨g, pre.length * 2, none⟩ = some (I x1) ∧ w'.cell? ⟨g, pre.length * 2 + 1, none⟩ = some (I x2)) ⟨y13, y11, v0, v1, r0, r1⟩ (fun hHeld => ?_)
            refine takeD 0 68 (I pre.length) hHeld rfl rfl (by kernel_rfl) (by kernel_rfl) (by kernel_rfl) (Or.inl ⟨by rfl, fun w' hSw => by obtain ⟨q0, q1, q2, q3, q4, q5⟩ := hSw; go_simp⟩) ?_
            try simp only [Act.put, List.setIfInBounds_toArray, List.set_cons_zero, List.set_cons_succ]
            refine takeD 1 69 (.slice (some ⟨g, 0, none⟩) (allR rs).length cL) hHeld rfl rfl (by kernel_rfl) (by kernel_rfl) (by kernel_rfl) (Or.inl ⟨by rfl, fun w' hSw => by obtain ⟨q0, q1, q2, q3, q4, q5⟩ := hSw; go_simp⟩) ?_
            try simp only [Act.put, List.setIfInBounds_toArray, List.set_cons_zero, List.set_cons_succ]
            refine takeD 2 70 (I (allR rs).length) hHeld rfl rfl (by kernel_rfl) (by kernel_rfl) (by kernel_rfl) (Or.inl ⟨by rfl, fun w' hSw => by obtain ⟨q0, q1, q2, q3, q4, q5⟩ := hSw; go_simp⟩) ?_
            try simp only [Act.put, List.setIfInBounds_toArray, List.set_cons_zero, List.set_cons_succ]
            refine takeD 3 71 (.bool false) hHeld rfl rfl (by kernel_rfl) (by kernel_rfl) (by kernel_rfl) (Or.inl ⟨by rfl, fun w' hSw => by obtain ⟨q0, q1, q2, q3, q4, q5⟩ := hSw; go_simp⟩) ?_
            try simp only [Act.put, List.setIfInBounds_toArray, List.set_cons_zero, List.set_cons_succ]
            refine takeD 4 72 (.bool false) hHeld rfl rfl (by kernel_rfl) (by kernel_rfl) (by kernel_rfl) (Or.inl ⟨by rfl, fun w' hSw => by obtain ⟨q0, q1, q2, q3, q4, q5⟩ := hSw; go_simp⟩) ?_
            try simp only [Act.put, List.setIfInBounds_toArray, List.set_cons_zero, List.set_cons_succ]
            refine takeD 5 73 (.agg #[I x1, I x2]) hHeld rfl rfl (by kernel_rfl) (by kernel_rfl) (by kernel_rfl) (Or.inl ⟨by rfl, fun w' hSw => by obtain ⟨q0, q1, q2, q3, q4, q5⟩ := hSw; go_simp⟩) ?_
            try simp only [Act.put, List.setIfInBounds_toArray, List.set_cons_zero, List.set_cons_succ]
            refine takeD 6 74 (.slice (some ⟨g, 0, none⟩) (allR rs).length cL) hHeld rfl rfl (by kernel_rfl) (by kernel_rfl) (by kernel_rfl) (Or.inl ⟨by rfl, fun w' hSw => by obtain ⟨q0, q1, q2, q3, q4, q5⟩ := hSw; go_simp⟩) ?_
            try simp only [Act.put, List.setIfInBounds_toArray, List.set_cons_zero, List.set_cons_succ]
            refine takeD 7 75 (I pre.length) hHeld rfl rfl (by kernel_rfl) (by kernel_rfl) (by kernel_rfl) (Or.inl ⟨by rfl, fun w' hSw => by obtain ⟨q0, q1, q2, q3, q4, q5⟩ := hSw; go_simp⟩) ?_
            try simp only [Act.put, List.setIfInBounds_toArray, List.set_cons_zero, List.set_cons_succ]
            refine takeD 8 76 (.pointer (some ⟨g, pre.length * 2, none⟩)) hHeld rfl rfl (by kernel_rfl) (by kernel_rfl) (by kernel_rfl) (Or.inl ⟨by rfl, fun w' hSw => by obtain ⟨q0, q1, q2, q3, q4, q5⟩ := hSw; go_simp⟩) ?_
            try simp only [Act.put, List.setIfInBounds_toArray, List.set_cons_zero, List.set_cons_succ]
            refine takeD 9 77 (.agg #[I x1, I x2]) hHeld rfl rfl (by kernel_rfl) (by kernel_rfl) (by kernel_rfl) (Or.inl ⟨by rfl, fun w' hSw => by obtain ⟨q0, q1, q2, q3, q4, q5⟩ := hSw; go_simp⟩) ?_
            try simp only [Act.put, List.setIfInBounds_toArray, List.set_cons_zero, List.set_cons_succ]
            refine takeD 10 78 (.bool false) hHeld rfl rfl (by kernel_rfl) (by kernel_rfl) (by kernel_rfl) (Or.inl ⟨by rfl, fun w' hSw => by obtain ⟨q0, q1, q2, q3, q4, q5⟩ := hSw; go_simp⟩) ?_
            try simp only [Act.put, List.setIfInBounds_toArray, List.set_cons_zero, List.set_cons_succ]
            refine takeD 11 79 (.bool false) hHeld rfl rfl (by kernel_rfl) (by kernel_rfl) (by kernel_rfl) (Or.inl ⟨by rfl, fun w' hSw => by obtain ⟨q0, q1, q2, q3, q4, q5⟩ := hSw; go_simp⟩) ?_
            try simp only [Act.put, List.setIfInBounds_toArray, List.set_cons_zero, List.set_cons_succ]
            refine wpAnyH_done (by kernel_rfl) ?_ _
            refine hK.out _ _ ?_
            clear hK K hHeld
            clear y13 y11 v0 v1 r0 r1
            generalize Z.drew = Zd at *
            have hpl : ((pre.length + 1 : Nat) : Int) = (pre.length : Int) + 1 := by omega
            have hl1 : (pre ++ [(x1, x2)]).length = pre.length + 1 := by simp
            have y13 := HR5.out.2.n.cell
            have z13 := HR5.out.2.n.frozen
            have R6 := HR5.out.2.box HGg.out.a.1 HGg.out.a.2.1 (pre.length + 1)
            have F6 : Fz (fun b => X b ∨ b = c + 1 + 1 ∨ Y b) Z (Zd.setCell ⟨c + 1 + 1, 0, none⟩ (I ((pre.length + 1 : Nat) : Int))) := HR5.out.1.set (b := c + 1 + 1) (.inl (.inr (.inl rfl))) _ _
            rw [hpl] at R6 F6
            obtain ⟨rs5, t5⟩ := R6.c
            obtain ⟨rs6, tk⟩ := twTake t5
            have y7 := (R6.f.boxed HGg.out.x7 (HGg.out.n _ (by simp))).cell
            have y8 := (R6.f.boxed HGg.out.x8 (HGg.out.n _ (by simp))).cell
            have n8 : ¬ X (w1.heap.size + 1) := fun e => HGg.out.n (w1.heap.size + 1) (by simp) (.inl e)
            have HR6 : Hid (_ ∧ _) := ⟨R6, F6⟩
            have TK : Hid (Calls Try.prog 12 #[qP Q] (Zd.setCell ⟨c + 1 + 1, 0, none⟩ (I ((pre.length : Int) + 1))) fun e w1 => (∃ v, e = .returned v) ∧ Fz X (Zd.setCell ⟨c + 1 + 1, 0, none⟩ (I ((pre.length : Int) + 1))) w1 ∧ Hid (Calls Try.prog 20 #[dQ D] w1 fun e w2 => (∃ v, e = .returned v) ∧ Tw w2 Q D X X' Y rs6 ∧ Fz Y w1 w2)) := tk
            have HL1 : Hid ((pre ++ [(x1, x2)]).length = pre.length + 1) := hl1
            clear R6 F6 t5 tk hpl hl1
            gi_upto_region 21 with (fail)
            clear y13 z13
            generalize (Zd.setCell ⟨c + 1 + 1, 0, none⟩ (I ((pre.length : Int) + 1))) = Z6 at *
            by_cases hlv : (pre.length : Int) + 1 = lv
            · have hlvb : ((pre.length : Int) + 1 == lv) = true := by simp [hlv]
              gi_wp2_with (first
                | ((first | refine ⟨trivial, ?_⟩ | refine ⟨fun hh => (by cases hh), ?_⟩ | skip); gi_at_call 12; refine (CallsIn.inRound lp (callsIn_wide.2 TK.out)).mono ?_; clear TK; rintro e w7 ⟨⟨vv, rfl⟩, f7, TD⟩; have y8' := f7.cell y8 n8)
                | ((first | refine ⟨trivial, ?_⟩ | refine ⟨fun hh => (by cases hh), ?_⟩ | skip); gi_at_call 20; refine (CallsIn.inRound lp (callsIn_wide.2 TD.out)).mono ?_; clear TD; rintro e w8 ⟨⟨vv2, rfl⟩, t8, f8⟩; have R8 := HR6.out.1.took HGg.out.a.2 f7 t8 f8; have F8 := (HR6.out.2.trans (f7.mono (fun _ e => .inl e))).trans (f8.mono (fun _ e => .inr (.inr e))); have yn := R8.n.cell; have y5 := (R8.f.boxed HGg.out.x5 (HGg.out.n _ (by simp))).cell; have HR8 : Hid (_ ∧ _) := ⟨R8, F8⟩; clear R8 F8 t8 f8 f7))
              exact ⟨HR8.out.2.keepsFrom (fun b e => (HGg.out.m b e).2), .inr ⟨rfl, by rw [HL1.out]; exact HR8.out.1, HPX.out, by rw [HL1.out]; omega⟩⟩
            · have hlvb : ((pre.length : Int) + 1 == lv) = false := by simp [hlv]
              gi_wp2_with (first
                | ((first | refine ⟨trivial, ?_⟩ | refine ⟨fun hh => (by cases hh), ?_⟩ | skip); gi_at_call 12; refine (CallsIn.inRound lp (callsIn_wide.2 TK.out)).mono ?_; clear TK; rintro e w7 ⟨⟨vv, rfl⟩, f7, TD⟩; have y8' := f7.cell y8 n8)
                | ((first | refine ⟨trivial, ?_⟩ | refine ⟨fun hh => (by cases hh), ?_⟩ | skip); gi_at_call 20; refine (CallsIn.inRound lp (callsIn_wide.2 TD.out)).mono ?_; clear TD; rintro e w8 ⟨⟨vv2, rfl⟩, t8, f8⟩; have R8 := HR6.out.1.took HGg.out.a.2 f7 t8 f8; have F8 := (HR6.out.2.trans (f7.mono (fun _ e => .inl e))).trans (f8.mono (fun _ e => .inr (.inr e))); have yn := R8.n.cell; have y5 := (R8.f.boxed HGg.out.x5 (HGg.out.n _ (by simp))).cell; have HR8 : Hid (_ ∧ _) := ⟨R8, F8⟩; clear R8 F8 t8 f8 f7))
              exact ⟨HR8.out.2.keepsFrom (fun b e => (HGg.out.m b e).2), HR8.out.2.kq, by rw [HL1.out]; exact HR8.out.1, HPX.out⟩
          · have HNX : Hid (¬ pre ++ [(x1, x2)] <+: allR rs) := pre_not hy (fun e => hxy (by simpa using e))
            have x6 := R5.f.boxed HGg.out.x6 (HGg.out.n _ (by simp))
            have y6 := x6.cell
            have z6 := x6.frozen
            have hxyb : (decide (x1 = p1) && decide (x2 = p2)) = false := by simpa using hxy
            clear hy hpre hR R5 x6
            by_cases h1 : x1 = p1
            · subst h1
              have h2 : ¬ x2 = p2 := fun e => hxy ⟨rfl, e⟩
              gi_wp2
              refine only_normal (fun K hK => ?_)
              refine region_round (by kernel_rfl) (by kernel_rfl) (not_lets_onlyN _) (S := fun w' => w'.cell? ⟨c + 1 + 1, 0, none⟩ = some (I pre.length) ∧ w'.cell? ⟨c, 0, none⟩ = some (.slice (some ⟨g, 0, none⟩) (allR rs).length cL) ∧ w'.cell? ⟨Bx, 0, none⟩ = some (I x1) ∧ w'.cell? ⟨Bx, 1, none⟩ = some (I x2) ∧ w'.cell? ⟨g, pre.length * 2, none⟩ = some (I x1) ∧ w'.cell? ⟨g, pre.length * 2 + 1, none⟩ = some (I p2)) ⟨y13, y11, v0, v1, r0, r1⟩ (fun hHeld => ?_)
              refine takeD 0 68 (I pre.length) hHeld rfl rfl (by kernel_rfl) (by kernel_rfl) (by kernel_rfl) (Or.inl ⟨by rfl, fun w' hSw => by obtain ⟨q0, q1, q2, q3, q4, q5⟩ := hSw; go_simp⟩) ?_
              try simp only [Act.put, List.setIfInBounds_toArray, List.set_cons_zero, List.set_cons_succ]
              refine takeD 1 69 (.slice (some ⟨g, 0, none⟩) (allR rs).length cL) hHeld rfl rfl (by kernel_rfl) (by kernel_rfl) (by kernel_rfl) (Or.inl ⟨by rfl, fun w' hSw => by obtain ⟨q0, q1, q2, q3, q4, q5⟩ := hSw; go_simp⟩) ?_
              try simp only [Act.put, List.setIfInBounds_toArray, List.set_cons_zero, List.set_cons_succ]
              refine takeD 2 70 (I (allR rs).length) hHeld rfl rfl (by kernel_rfl) (by kernel_rfl) (by kernel_rfl) (Or.inl ⟨by rfl, fun w' hSw => by obtain ⟨q0, q1, q2, q3, q4, q5⟩ := hSw; go_simp⟩) ?_
              try simp only [Act.put, List.setIfInBounds_toArray, List.set_cons_zero, List.set_cons_succ]
              refine takeD 3 71 (.bool false) hHeld rfl rfl (by kernel_rfl) (by kernel_rfl) (by kernel_rfl) (Or.inl ⟨by rfl, fun w' hSw => by obtain ⟨q0, q1, q2, q3, q4, q5⟩ := hSw; go_simp⟩) ?_
              try simp only [Act.put, List.setIfInBounds_toArray, List.set_cons_zero, List.set_cons_succ]
              refine takeD 4 72 (.bool false) hHeld rfl rfl (by kernel_rfl) (by kernel_rfl) (by kernel_rfl) (Or.inl ⟨by rfl, fun w' hSw => by obtain ⟨q0, q1, q2, q3, q4, q5⟩ := hSw; go_simp⟩) ?_
              try simp only [Act.put, List.setIfInBounds_toArray, List.set_cons_zero, List.set_cons_succ]
              refine takeD 5 73 (.agg #[I x1, I x2]) hHeld rfl rfl (by kernel_rfl) (by kernel_rfl) (by kernel_rfl) (Or.inl ⟨by rfl, fun w' hSw => by obtain ⟨q0, q1, q2, q3, q4, q5⟩ := hSw; go_simp⟩) ?_
              try simp only [Act.put, List.setIfInBounds_toArray, List.set_cons_zero, List.set_cons_succ]
              refine takeD 6 74 (.slice (some ⟨g, 0, none⟩) (allR rs).length cL) hHeld rfl rfl (by kernel_rfl) (by kernel_rfl) (by kernel_rfl) (Or.inl ⟨by rfl, fun w' hSw => by obtain ⟨q0, q1, q2, q3, q4, q5⟩ := hSw; go_simp⟩) ?_
              try simp only [Act.put, List.setIfInBounds_toArray, List.set_cons_zero, List.set_cons_succ]
              refine takeD 7 75 (I pre.length) hHeld rfl rfl (by kernel_rfl) (by kernel_rfl) (by kernel_rfl) (Or.inl ⟨by rfl, fun w' hSw => by obtain ⟨q0, q1, q2, q3, q4, q5⟩ := hSw; go_simp⟩) ?_
              try simp only [Act.put, List.setIfInBounds_toArray, List.set_cons_zero, List.set_cons_succ]
              refine takeD 8 76 (.pointer (some ⟨g, pre.length * 2, none⟩)) hHeld rfl rfl (by kernel_rfl) (by kernel_rfl) (by kernel_rfl) (Or.inl ⟨by rfl, fun w' hSw => by obtain ⟨q0, q1, q2, q3, q4, q5⟩ := hSw; go_simp⟩) ?_
              try simp only [Act.put, List.setIfInBounds_toArray, List.set_cons_zero, List.set_cons_succ]
              refine takeD 9 77 (.agg #[I x1, I p2]) hHeld rfl rfl (by kernel_rfl) (by kernel_rfl) (by kernel_rfl) (Or.inl ⟨by rfl, fun w' hSw => by obtain ⟨q0, q1, q2, q3, q4, q5⟩ := hSw; go_simp⟩) ?_
              try simp only [Act.put, List.setIfInBounds_toArray, List.set_cons_zero, List.set_cons_succ]
              refine takeD 10 78 (.bool true) hHeld rfl rfl (by kernel_rfl) (by kernel_rfl) (by kernel_rfl) (Or.inl ⟨by rfl, fun w' hSw => by obtain ⟨q0, q1, q2, q3, q4, q5⟩ := hSw; go_simp⟩) ?_
              try simp only [Act.put, List.setIfInBounds_toArray, List.set_cons_zero, List.set_cons_succ]
              refine takeD 11 79 (.bool true) hHeld rfl rfl (by kernel_rfl) (by kernel_rfl) (by kernel_rfl) (Or.inl ⟨by rfl, fun w' hSw => by obtain ⟨q0, q1, q2, q3, q4, q5⟩ := hSw; go_simp⟩) ?_
              try simp only [Act.put, List.setIfInBounds_toArray, List.set_cons_zero, List.set_cons_succ]
              refine wpAnyH_done (by kernel_rfl) ?_ _
              refine hK.out _ _ ?_
              clear hK K hHeld
              gi_wp2
              exact ⟨((KeepsOthers.drew Z).trans (KeepsOthers.setCell _ _ _)).from _, .inl ⟨rfl, HNX.out⟩⟩
            · skip
              gi_wp2
              refine only_normal (fun K hK => ?_)
              refine region_round (by kernel_rfl) (by kernel_rfl) (not_lets_onlyN _) (S := fun w' => w'.cell? ⟨c + 1 + 1, 0, none⟩ = some (I pre.length) ∧ w'.cell? ⟨c, 0, none⟩ = some (.slice (some ⟨g, 0, none⟩) (allR rs).length cL) ∧ w'.cell? ⟨Bx, 0, none⟩ = some (I x1) ∧ w'.cell? ⟨Bx, 1, none⟩ = some (I x2) ∧ w'.cell? ⟨g, pre.length * 2, none⟩ = some (I p1) ∧ w'.cell? ⟨g, pre.length * 2 + 1, none⟩ = some (I p2)) ⟨y13, y11, v0, v1, r0, r1⟩ (fun hHeld => ?_)
              refine takeD 0 68 (I pre.length) hHeld rfl rfl (by kernel_rfl) (by kernel_rfl) (by kernel_rfl) (Or.inl ⟨by rfl, fun w' hSw => by obtain ⟨q0, q1, q2, q3, q4, q5⟩ := hSw; go_simp⟩) ?_
              try simp only [Act.put, List.setIfInBounds_toArray, List.set_cons_zero, List.set_cons_succ]
              refine takeD 1 69 (.slice (some ⟨g, 0, none⟩) (allR rs).length cL) hHeld rfl rfl (by kernel_rfl) (by kernel_rfl) (by kernel_rfl) (Or.inl ⟨by rfl, fun w' hSw => by obtain ⟨q0, q1, q2, q3, q4, q5⟩ := hSw; go_simp⟩) ?_
              try simp only [Act.put, List.setIfInBounds_toArray, List.set_cons_zero, List.set_cons_succ]
              refine takeD 2 70 (I (allR rs).length) hHeld rfl rfl (by kernel_rfl) (by kernel_rfl) (by kernel_rfl) (Or.inl ⟨by rfl, fun w' hSw => by obtain ⟨q0, q1, q2, q3, q4, q5⟩ := hSw; go_simp⟩) ?_
              try simp only [Act.put, List.setIfInBounds_toArray, List.set_cons_zero, List.set_cons_succ]
              refine takeD 3 71 (.bool false) hHeld rfl rfl (by kernel_rfl) (by kernel_rfl) (by kernel_rfl) (Or.inl ⟨by rfl, fun w' hSw => by obtain ⟨q0, q1, q2, q3, q4, q5⟩ := hSw; go_simp⟩) ?_
              try simp only [Act.put, List.setIfInBounds_toArray, List.set_cons_zero, List.set_cons_succ]
              refine takeD 4 72 (.bool false) hHeld rfl rfl (by kernel_rfl) (by kernel_rfl) (by kernel_rfl) (Or.inl ⟨by rfl, fun w' hSw => by obtain ⟨q0, q1, q2, q3, q4, q5⟩ := hSw; go_simp⟩) ?_
              try simp only [Act.put, List.setIfInBounds_toArray, List.set_cons_zero, List.set_cons_succ]
              refine takeD 5 73 (.agg #[I x1, I x2]) hHeld rfl rfl (by kernel_rfl) (by kernel_rfl) (by kernel_rfl) (Or.inl ⟨by rfl, fun w' hSw => by obtain ⟨q0, q1, q2, q3, q4, q5⟩ := hSw; go_simp⟩) ?_
              try simp only [Act.put, List.setIfInBounds_toArray, List.set_cons_zero, List.set_cons_succ]
              refine takeD 6 74 (.slice (some ⟨g, 0, none⟩) (allR rs).length cL) hHeld rfl rfl (by kernel_rfl) (by kernel_rfl) (by kernel_rfl) (Or.inl ⟨by rfl, fun w' hSw => by obtain ⟨q0, q1, q2, q3, q4, q5⟩ := hSw; go_simp⟩) ?_
              try simp only [Act.put, List.setIfInBounds_toArray, List.set_cons_zero, List.set_cons_succ]
              refine takeD 7 75 (I pre.length) hHeld rfl rfl (by kernel_rfl) (by kernel_rfl) (by kernel_rfl) (Or.inl ⟨by rfl, fun w' hSw => by obtain ⟨q0, q1, q2, q3, q4, q5⟩ := hSw; go_simp⟩) ?_
              try simp only [Act.put, List.setIfInBounds_toArray, List.set_cons_zero, List.set_cons_succ]
              refine takeD 8 76 (.pointer (some ⟨g, pre.length * 2, none⟩)) hHeld rfl rfl (by kernel_rfl) (by kernel_rfl) (by kernel_rfl) (Or.inl ⟨by rfl, fun w' hSw => by obtain ⟨q0, q1, q2, q3, q4, q5⟩ := hSw; go_simp⟩) ?_
              try simp only [Act.put, List.setIfInBounds_toArray, List.set_cons_zero, List.set_cons_succ]
              refine takeD 9 77 (.agg #[I p1, I p2]) hHeld rfl rfl (by kernel_rfl) (by kernel_rfl) (by kernel_rfl) (Or.inl ⟨by rfl, fun w' hSw => by obtain ⟨q0, q1, q2, q3, q4, q5⟩ := hSw; go_simp⟩) ?_
              try simp only [Act.put, List.setIfInBounds_toArray, List.set_cons_zero, List.set_cons_succ]
              refine takeD 10 78 (.bool true) hHeld rfl rfl (by kernel_rfl) (by kernel_rfl) (by kernel_rfl) (Or.inl ⟨by rfl, fun w' hSw => by obtain ⟨q0, q1, q2, q3, q4, q5⟩ := hSw; go_simp⟩) ?_
              try simp only [Act.put, List.setIfInBounds_toArray, List.set_cons_zero, List.set_cons_succ]
              refine takeD 11 79 (.bool true) hHeld rfl rfl (by kernel_rfl) (by kernel_rfl) (by kernel_rfl) (Or.inl ⟨by rfl, fun w' hSw => by obtain ⟨q0, q1, q2, q3, q4, q5⟩ := hSw; go_simp⟩) ?_
              try simp only [Act.put, List.setIfInBounds_toArray, List.set_cons_zero, List.set_cons_succ]
              refine wpAnyH_done (by kernel_rfl) ?_ _
              refine hK.out _ _ ?_
              clear hK K hHeld
              gi_wp2
              exact ⟨((KeepsOthers.drew Z).trans (KeepsOthers.setCell _ _ _)).from _, .inl ⟨rfl, HNX.out⟩⟩
        case done1 =>
          intro D1 xs Z hD1 hxs hI hDz
          obtain ⟨hR, _⟩ := hI
          subst hxs
          subst hA1
          have y13 := hR.n.cell
          have y11 := (hR.f.boxed HG7.out.x11 (HG7.out.n _ (by simp))).cell
          have y5 : True := trivial
          have y8 := (hR.f.boxed HG7.out.x8 (HG7.out.n _ (by simp))).cell
          obtain ⟨rs9, ht⟩ := hR.c
          have t8 := eAll ht.d ht.n ht.q.allLen (fun i r hi => by have := ht.q.p64 i r hi; omega)
          have HZ : Hid (RI W7 Z Q D X X' Y (c + 1 + 1) (allR rs).length ∧ Tw Z Q D X X' Y rs9 ∧ Z.heap[D1]? = some (.deferred (some []))) := ⟨hR, ht, hDz⟩
          have lc := HG7.out.x11.lt
          have lc2 := HG7.out.x13.lt
          clear hR ht hDz
          go_wp2_with (first
            | (go_at_call 18; refine t8.mono ?_; clear t8; rintro e w8 ⟨v8, rfl, o8, b8⟩
               obtain ⟨a8, c8, e8⟩ := own_sl2 o8
               subst e8
               have x11 : Boxed w8 c 29 (.slice aL (allR rs).length cL) := (b8.block _ (by have := HZ.out.1.f.size; omega)).trans (HZ.out.1.f.boxed HG7.out.x11 (HG7.out.n _ (by simp)))
               have y11b := x11.cell
               have z11b := x11.frozen
               have x13 : Boxed w8 (c + 1 + 1) 3 (I (allR rs).length) := (b8.block _ (by have := HZ.out.1.f.size; omega)).trans HZ.out.1.n
               have f11 : Fz (fun b => b = c) w8 (w8.setCell ⟨c, 0, none⟩ (.slice a8 (allR rs9).length c8)) := Fz.set (M := fun b => b = c) (Fz.refl (fun b => b = c) w8) (b := c) (Or.inl rfl) _ _
               have x13b := f11.boxed x13 (fun e => by omega)
               have y13b := x13b.cell
               have z13b := x13b.frozen
               have HO8 : Hid (w8.ownsRow Z.heap.size 35 2 (.slice a8 (allR rs9).length c8) (allR rs9).length (pairsC (allR rs9)) ∧ Below Z.heap.size Z w8) := ⟨o8, b8⟩
               clear x11 x13 x13b f11 o8 b8))
          have HG9 : Hid (G7 W ((w8.setCell ⟨c, 0, none⟩ (.slice a8 (allR rs9).length c8)).setCell ⟨c + 1 + 1, 0, none⟩ (.int .i64 0)) W.heap.size (W.heap.size + 1) w1.heap.size (w1.heap.size + 1) c (c + 1 + 1) (c + 1) lv Q D X X' Y rs9 a8 c8) := HG7.out.next HZ.out.1 HZ.out.2.1 HO8.out.2 HO8.out.1
          have HD9 : Hid (((w8.setCell ⟨c, 0, none⟩ (.slice a8 (allR rs9).length c8)).setCell ⟨c + 1 + 1, 0, none⟩ (.int .i64 0)).heap[D1]? = some (.deferred (some []))) := by
            have f9 : Fz (fun b => b = c ∨ b = c + 1 + 1) w8 ((w8.setCell ⟨c, 0, none⟩ (.slice a8 (allR rs9).length c8)).setCell ⟨c + 1 + 1, 0, none⟩ (.int .i64 0)) := Fz.set (M := fun b => b = c ∨ b = c + 1 + 1) (Fz.set (M := fun b => b = c ∨ b = c + 1 + 1) (Fz.refl _ w8) (b := c) (Or.inl (.inl rfl)) _ _) (b := c + 1 + 1) (Or.inl (.inr rfl)) _ _
            exact f9.heap ((HO8.out.2.block _ (heap_lt HZ.out.2.2)).trans HZ.out.2.2) (fun e => by rcases e with e | e <;> omega)
          have lD1 := heap_lt HD9.out
          clear HO8 HZ y13 y11 y5 y8 y11b z11b y13b z13b
          generalize ((w8.setCell ⟨c, 0, none⟩ (.slice a8 (allR rs9).length c8)).setCell ⟨c + 1 + 1, 0, none⟩ (.int .i64 0)) = W9 at *
          refine (wpIn_wide (n := 3)).1 ?_
          generalize hA9 : ({ tmps := _, defers := _ } : Act) = a9
          have hg9 : a9.eval (.tmp 100) = .func (.func 39) #[] #[.pointer (some ⟨c + 1, 0, none⟩)] := by rw [← hA9]; rfl
          refine wpIn_rangeFunc_ownH (α := Int × Int) rfl (by omega) (gf := 39) (lb := #[.pointer (some ⟨c + 1, 0, none⟩)]) hg9 trivial (enters_of Try.func39 (by kernel_rfl) rfl)
            (qAll_stops (3 - 1) (by omega) (c + 1) (fun _ b => X b ∨ b = c + 1 + 1 ∨ Y b) (allR rs9) (qP Q) W9 HG9.out.xs.lt HG9.out.xs.cell (fun Z hZ => rlist (HG9.out.t.q.below hZ)) HG9.out.t.q.allLen (fun Z b _ hm => (HG9.out.m b hm).2) (fun Z o b _ hm => hm)) Kq.trans (Kq.put (fun _ _ _ _ _ hm => hm)) (Below.refl _ _) (fun _ => rfl)
            (fun pre Z => RI W9 Z Q D X X' Y (c + 1 + 1) pre.length ∧ pre <+: allR rs9 ∧ Z.heap[D1]? = some (.deferred (some [])))
            (fun cc pre Z => cc = .ret ∧ ¬ pre <+: allR rs9)
            (fun pre Z Z' row hI hg hr => ⟨hI.1.turn (fun b e => (HG9.out.k b e).2) hg hr, hI.2.1, (hg.block D1 (heap_lt hI.2.2) (fun e => by have := (hr D1 e.symm).1; omega)).trans hI.2.2⟩)
            (fun cc pre Z Z' row hI hg hr => hI)
            ⟨HG9.out.i0, List.nil_prefix, HD9.out⟩
            (fun x a' Z => ∃ Bx, Z.heap[Bx]? = some (.cells #[I x.1, I x.2] 35) ∧ a' = { tmps := (a9.tmps.setIfInBounds 101 (.agg #[I x.1, I x.2])).setIfInBounds 15 (.pointer (some ⟨Bx, 0, none⟩)), defers := [] })
            (fun x a' s W W' row hs hg hr => by
              obtain ⟨Bx, h1, h2⟩ := hs
              refine ⟨Bx, (hg.block Bx (heap_lt h1) (fun e => ?_)).trans h1, h2⟩
              obtain ⟨_, o, ho, hc⟩ := hr Bx e.symm
              rw [h1] at ho
              cases ho
              cases hc) ?assign9 ?body9 ?done9 ?stop9
          case assign9 =>
            rintro lp pre ⟨x1, x2⟩ Z K hI hK
            have hst := run_storeCells_new (P := Try.prog) Z 35 #[.int .i64 0, .int .i64 0] #[I x1, I x2] (by kernel_rfl) rfl (by simp [Value.oneCell'])
            have hK2 := hK { tmps := (a9.tmps.setIfInBounds 101 (.agg #[I x1, I x2])).setIfInBounds 15 (.pointer (some ⟨Z.heap.size, 0, none⟩)), defers := [] } (Z.alloc (.cells #[I x1, I x2] 35)) ((KeepsOthers.alloc _ _).from _) (Kq.alloc (fun b hm => hm)) ⟨hI.1.below (below_alloc _ _), hI.2.1, heap_over _ _ hI.2.2⟩ ⟨Z.heap.size, heap_alloc_new Z _, rfl⟩
            clear hK
            subst hA9
            simp only [List.setIfInBounds_toArray, List.set_cons_succ, List.set_cons_zero] at hK2
            gi_wp2
            exact hK2
          case body9 =>
            rintro lp pre ⟨x1, x2⟩ a' Z hlp ⟨lr, hlr⟩ ⟨hR, hpre, hD⟩ ⟨Bx, hX, rfl⟩ hlt
            subst hA9
            simp only [List.setIfInBounds_toArray, List.set_cons_succ, List.set_cons_zero]
            clear hlr
            have y13 := hR.n.cell
            have y11 := (hR.f.boxed HG9.out.x11 (HG9.out.n _ (by simp))).cell
            obtain ⟨⟨p1, p2⟩, hy⟩ : ∃ y, (allR rs9)[pre.length]? = some y := ⟨_, List.getElem?_eq_getElem hlt⟩
            obtain ⟨g, eg, r0, r1⟩ := HG9.out.row hR.f hy
            have v0 : Z.cell? ⟨Bx, 0, none⟩ = some (I x1) := by rw [cell_of_row _ _ _ _ _ (0, 0) hX]; rfl
            have v1 : Z.cell? ⟨Bx, 1, none⟩ = some (I x2) := by rw [cell_of_row _ _ _ _ _ (0, 0) hX]; rfl
            have hltI : ¬ ((allR rs9).length : Int) ≤ pre.length := by omega
            have hltJ : (pre.length : Int) < (allR rs9).length := by omega
            have hge0 : ¬ (pre.length : Int) < 0 := by omega
            have hpb : (pre.length : Int) < 4194305 := by have := HG9.out.t.q.allLen; omega
            have R5 := hR.below (Below.refl _ Z).drew
            have HGg := HG9
            clear hX
            subst eg
            by_cases hxy : x1 = p1 ∧ x2 = p2
            · obtain ⟨rfl, rfl⟩ := hxy
              have HPX : Hid (pre ++ [(x1, x2)] <+: allR rs9) := pre_next hpre hy
              have HR5 : Hid (Fz (fun b => X b ∨ b = c + 1 + 1 ∨ Y b) Z Z.drew ∧ RI W9 Z.drew Q D X X' Y (c + 1 + 1) pre.length) := ⟨(Fz.refl _ Z).drewN 1, R5⟩
              clear hy hpre hR R5
              gi_wp2
              refine only_normal (fun K hK => ?_)
              refine region_round (by kernel_rfl) (by kernel_rfl) (not_lets_onlyN _) (S := fun w' => w'.cell? ⟨c + 1 + 1, 0, none⟩ = some (I pre.length) ∧ w'.cell? ⟨c, 0, none⟩ = some (.slice (some ⟨g, 0, none⟩) (allR rs9).length c8) ∧ w'.cell? ⟨Bx, 0, none⟩ = some (I x1) ∧ w'.cell? ⟨Bx, 1, none⟩ = some (I x2) ∧ w'.cell? ⟨g, pre.length * 2, none⟩ = some (I x1) ∧ w'.cell? ⟨g, pre.length * 2 + 1, none⟩ = some (I x2)) ⟨y13, y11, v0, v1, r0, r1⟩ (fun hHeld => ?_)
              refine takeD 0 102 (I pre.length) hHeld rfl rfl (by kernel_rfl) (by kernel_rfl) (by kernel_rfl) (Or.inl ⟨by rfl, fun w' hSw => by obtain ⟨q0, q1, q2, q3, q4, q5⟩ := hSw; go_simp⟩) ?_
              try simp only [Act.put, List.setIfInBounds_toArray, List.set_cons_zero, List.set_cons_succ]
              refine takeD 1 103 (.slice (some ⟨g, 0, none⟩) (allR rs9).length c8) hHeld rfl rfl (by kernel_rfl) (by kernel_rfl) (by kernel_rfl) (Or.inl ⟨by rfl, fun w' hSw => by obtain ⟨q0, q1, q2, q3, q4, q5⟩ := hSw; go_simp⟩) ?_
              try simp only [Act.put, List.setIfInBounds_toArray, List.set_cons_zero, List.set_cons_succ]
              refine takeD 2 104 (I (allR rs9).length) hHeld rfl rfl (by kernel_rfl) (by kernel_rfl) (by kernel_rfl) (Or.inl ⟨by rfl, fun w' hSw => by obtain ⟨q0, q1, q2, q3, q4, q5⟩ := hSw; go_simp⟩) ?_
              try simp only [Act.put, List.setIfInBounds_toArray, List.set_cons_zero, List.set_cons_succ]
              refine takeD 3 105 (.bool false) hHeld rfl rfl (by kernel_rfl) (by kernel_rfl) (by kernel_rfl) (Or.inl ⟨by rfl, fun w' hSw => by obtain ⟨q0, q1, q2, q3, q4, q5⟩ := hSw; go_simp⟩) ?_
              try simp only [Act.put, List.setIfInBounds_toArray, List.set_cons_zero, List.set_cons_succ]
              refine takeD 4 106 (.bool false) hHeld rfl rfl (by kernel_rfl) (by kernel_rfl) (by kernel_rfl) (Or.inl ⟨by rfl, fun w' hSw => by obtain ⟨q0, q1, q2, q3, q4, q5⟩ := hSw; go_simp⟩) ?_
              try simp only [Act.put, List.setIfInBounds_toArray, List.set_cons_zero, List.set_cons_succ]
              refine takeD 5 107 (.agg #[I x1, I x2]) hHeld rfl rfl (by kernel_rfl) (by kernel_rfl) (by kernel_rfl) (Or.inl ⟨by rfl, fun w' hSw => by obtain ⟨q0, q1, q2, q3, q4, q5⟩ := hSw; go_simp⟩) ?_
              try simp only [Act.put, List.setIfInBounds_toArray, List.set_cons_zero, List.set_cons_succ]
              refine takeD 6 108 (.slice (some ⟨g, 0, none⟩) (allR rs9).length c8) hHeld rfl rfl (by kernel_rfl) (by kernel_rfl) (by kernel_rfl) (Or.inl ⟨by rfl, fun w' hSw => by obtain ⟨q0, q1, q2, q3, q4, q5⟩ := hSw; go_simp⟩) ?_
              try simp only [Act.put, List.setIfInBounds_toArray, List.set_cons_zero, List.set_cons_succ]
              refine takeD 7 109 (I pre.length) hHeld rfl rfl (by kernel_rfl) (by kernel_rfl) (by kernel_rfl) (Or.inl ⟨by rfl, fun w' hSw => by obtain ⟨q0, q1, q2, q3, q4, q5⟩ := hSw; go_simp⟩) ?_
              try simp only [Act.put, List.setIfInBounds_toArray, List.set_cons_zero, List.set_cons_succ]
              refine takeD 8 110 (.pointer (some ⟨g, pre.length * 2, none⟩)) hHeld rfl rfl (by kernel_rfl) (by kernel_rfl) (by kernel_rfl) (Or.inl ⟨by rfl, fun w' hSw => by obtain ⟨q0, q1, q2, q3, q4, q5⟩ := hSw; go_simp⟩) ?_
              try simp only [Act.put, List.setIfInBounds_toArray, List.set_cons_zero, List.set_cons_succ]
              refine takeD 9 111 (.agg #[I x1, I x2]) hHeld rfl rfl (by kernel_rfl) (by kernel_rfl) (by kernel_rfl) (Or.inl ⟨by rfl, fun w' hSw => by obtain ⟨q0, q1, q2, q3, q4, q5⟩ := hSw; go_simp⟩) ?_
              try simp only [Act.put, List.setIfInBounds_toArray, List.set_cons_zero, List.set_cons_succ]
              refine takeD 10 112 (.bool false) hHeld rfl rfl (by kernel_rfl) (by kernel_rfl) (by kernel_rfl) (Or.inl ⟨by rfl, fun w' hSw => by obtain ⟨q0, q1, q2, q3, q4, q5⟩ := hSw; go_simp⟩) ?_
              try simp only [Act.put, List.setIfInBounds_toArray, List.set_cons_zero, List.set_cons_succ]
              refine takeD 11 113 (.bool false) hHeld rfl rfl (by kernel_rfl) (by kernel_rfl) (by kernel_rfl) (Or.inl ⟨by rfl, fun w' hSw => by obtain ⟨q0, q1, q2, q3, q4, q5⟩ := hSw; go_simp⟩) ?_
              try simp only [Act.put, List.setIfInBounds_toArray, List.set_cons_zero, List.set_cons_succ]
              refine wpAnyH_done (by kernel_rfl) ?_ _
              refine hK.out _ _ ?_
              clear hK K hHeld
              clear y13 y11 v0 v1 r0 r1
              generalize Z.drew = Zd at *
              have hpl : ((pre.length + 1 : Nat) : Int) = (pre.length : Int) + 1 := by omega
              have hl1 : (pre ++ [(x1, x2)]).length = pre.length + 1 := by simp
              have y13 := HR5.out.2.n.cell
              have z13 := HR5.out.2.n.frozen
              have R6 := HR5.out.2.box HGg.out.a.1 HGg.out.a.2.1 (pre.length + 1)
              have F6 : Fz (fun b => X b ∨ b = c + 1 + 1 ∨ Y b) Z (Zd.setCell ⟨c + 1 + 1, 0, none⟩ (I ((pre.length + 1 : Nat) : Int))) := HR5.out.1.set (b := c + 1 + 1) (.inl (.inr (.inl rfl))) _ _
              rw [hpl] at R6 F6
              have HR6 : Hid (_ ∧ _) := ⟨R6, F6⟩
              clear R6 F6
              gi_wp2
              exact ⟨HR6.out.2.keepsFrom (fun b e => (HGg.out.m b e).2), HR6.out.2.kq, by rw [hl1]; exact HR6.out.1, HPX.out, HR6.out.2.heap hD (fun e => by have := (HG7.out.m D1 e).2; omega)⟩
            · have HNX : Hid (¬ pre ++ [(x1, x2)] <+: allR rs9) := pre_not hy (fun e => hxy (by simpa using e))
              have x6 := R5.f.boxed HGg.out.x6 (HGg.out.n _ (by simp))
              have y6 := x6.cell
              have z6 := x6.frozen
              have hxyb : (decide (x1 = p1) && decide (x2 = p2)) = false := by simpa using hxy
              clear hy hpre hR R5 x6
              by_cases h1 : x1 = p1
              · subst h1
                have h2 : ¬ x2 = p2 := fun e => hxy ⟨rfl, e⟩
                gi_wp2
                refine only_normal (fun K hK => ?_)
                refine region_round (by kernel_rfl) (by kernel_rfl) (not_lets_onlyN _) (S := fun w' => w'.cell? ⟨c + 1 + 1, 0, none⟩ = some (I pre.length) ∧ w'.cell? ⟨c, 0, none⟩ = some (.slice (some ⟨g, 0, none⟩) (allR rs9).length c8) ∧ w'.cell? ⟨Bx, 0, none⟩ = some (I x1) ∧ w'.cell? ⟨Bx, 1, none⟩ = some (I x2) ∧ w'.cell? ⟨g, pre.length * 2, none⟩ = some (I x1) ∧ w'.cell? ⟨g, pre.length * 2 + 1, none⟩ = some (I p2)) ⟨y13, y11, v0, v1, r0, r1⟩ (fun hHeld => ?_)
                refine takeD 0 102 (I pre.length) hHeld rfl rfl (by kernel_rfl) (by kernel_rfl) (by kernel_rfl) (Or.inl ⟨by rfl, fun w' hSw => by obtain ⟨q0, q1, q2, q3, q4, q5⟩ := hSw; go_simp⟩) ?_
                try simp only [Act.put, List.setIfInBounds_toArray, List.set_cons_zero, List.set_cons_succ]
                refine takeD 1 103 (.slice (some ⟨g, 0, none⟩) (allR rs9).length c8) hHeld rfl rfl (by kernel_rfl) (by kernel_rfl) (by kernel_rfl) (Or.inl ⟨by rfl, fun w' hSw => by obtain ⟨q0, q1, q2, q3, q4, q5⟩ := hSw; go_simp⟩) ?_
                try simp only [Act.put, List.setIfInBounds_toArray, List.set_cons_zero, List.set_cons_succ]
                refine takeD 2 104 (I (allR rs9).length) hHeld rfl rfl (by kernel_rfl) (by kernel_rfl) (by kernel_rfl) (Or.inl ⟨by rfl, fun w' hSw => by obtain ⟨q0, q1, q2, q3, q4, q5⟩ := hSw; go_simp⟩) ?_
                try simp only [Act.put, List.setIfInBounds_toArray, List.set_cons_zero, List.set_cons_succ]
                refine takeD 3 105 (.bool false) hHeld rfl rfl (by kernel_rfl) (by kernel_rfl) (by kernel_rfl) (Or.inl ⟨by rfl, fun w' hSw => by obtain ⟨q0, q1, q2, q3, q4, q5⟩ := hSw; go_simp⟩) ?_
                try simp only [Act.put, List.setIfInBounds_toArray, List.set_cons_zero, List.set_cons_succ]
                refine takeD 4 106 (.bool false) hHeld rfl rfl (by kernel_rfl) (by kernel_rfl) (by kernel_rfl) (Or.inl ⟨by rfl, fun w' hSw => by obtain ⟨q0, q1, q2, q3, q4, q5⟩ := hSw; go_simp⟩) ?_
                try simp only [Act.put, List.setIfInBounds_toArray, List.set_cons_zero, List.set_cons_succ]
                refine takeD 5 107 (.agg #[I x1, I x2]) hHeld rfl rfl (by kernel_rfl) (by kernel_rfl) (by kernel_rfl) (Or.inl ⟨by rfl, fun w' hSw => by obtain ⟨q0, q1, q2, q3, q4, q5⟩ := hSw; go_simp⟩) ?_
                try simp only [Act.put, List.setIfInBounds_toArray, List.set_cons_zero, List.set_cons_succ]
                refine takeD 6 108 (.slice (some ⟨g, 0, none⟩) (allR rs9).length c8) hHeld rfl rfl (by kernel_rfl) (by kernel_rfl) (by kernel_rfl) (Or.inl ⟨by rfl, fun w' hSw => by obtain ⟨q0, q1, q2, q3, q4, q5⟩ := hSw; go_simp⟩) ?_
                try simp only [Act.put, List.setIfInBounds_toArray, List.set_cons_zero, List.set_cons_succ]
                refine takeD 7 109 (I pre.length) hHeld rfl rfl (by kernel_rfl) (by kernel_rfl) (by kernel_rfl) (Or.inl ⟨by rfl, fun w' hSw => by obtain ⟨q0, q1, q2, q3, q4, q5⟩ := hSw; go_simp⟩) ?_
                try simp only [Act.put, List.setIfInBounds_toArray, List.set_cons_zero, List.set_cons_succ]
                refine takeD 8 110 (.pointer (some ⟨g, pre.length * 2, none⟩)) hHeld rfl rfl (by kernel_rfl) (by kernel_rfl) (by kernel_rfl) (Or.inl ⟨by rfl, fun w' hSw => by obtain ⟨q0, q1, q2, q3, q4, q5⟩ := hSw; go_simp⟩) ?_
                try simp only [Act.put, List.setIfInBounds_toArray, List.set_cons_zero, List.set_cons_succ]
                refine takeD 9 111 (.agg #[I x1, I p2]) hHeld rfl rfl (by kernel_rfl) (by kernel_rfl) (by kernel_rfl) (Or.inl ⟨by rfl, fun w' hSw => by obtain ⟨q0, q1, q2, q3, q4, q5⟩ := hSw; go_simp⟩) ?_
                try simp only [Act.put, List.setIfInBounds_toArray, List.set_cons_zero, List.set_cons_succ]
                refine takeD 10 112 (.bool true) hHeld rfl rfl (by kernel_rfl) (by kernel_rfl) (by kernel_rfl) (Or.inl ⟨by rfl, fun w' hSw => by obtain ⟨q0, q1, q2, q3, q4, q5⟩ := hSw; go_simp⟩) ?_
                try simp only [Act.put, List.setIfInBounds_toArray, List.set_cons_zero, List.set_cons_succ]
                refine takeD 11 113 (.bool true) hHeld rfl rfl (by kernel_rfl) (by kernel_rfl) (by kernel_rfl) (Or.inl ⟨by rfl, fun w' hSw => by obtain ⟨q0, q1, q2, q3, q4, q5⟩ := hSw; go_simp⟩) ?_
                try simp only [Act.put, List.setIfInBounds_toArray, List.set_cons_zero, List.set_cons_succ]
                refine wpAnyH_done (by kernel_rfl) ?_ _
                refine hK.out _ _ ?_
                clear hK K hHeld
                gi_wp2
                exact ⟨((KeepsOthers.drew Z).trans (KeepsOthers.setCell _ _ _)).from _, rfl, HNX.out⟩
              · skip
                gi_wp2
                refine only_normal (fun K hK => ?_)
                refine region_round (by kernel_rfl) (by kernel_rfl) (not_lets_onlyN _) (S := fun w' => w'.cell? ⟨c + 1 + 1, 0, none⟩ = some (I pre.length) ∧ w'.cell? ⟨c, 0, none⟩ = some (.slice (some ⟨g, 0, none⟩) (allR rs9).length c8) ∧ w'.cell? ⟨Bx, 0, none⟩ = some (I x1) ∧ w'.cell? ⟨Bx, 1, none⟩ = some (I x2) ∧ w'.cell? ⟨g, pre.length * 2, none⟩ = some (I p1) ∧ w'.cell? ⟨g, pre.length * 2 + 1, none⟩ = some (I p2)) ⟨y13, y11, v0, v1, r0, r1⟩ (fun hHeld => ?_)
                refine takeD 0 102 (I pre.length) hHeld rfl rfl (by kernel_rfl) (by kernel_rfl) (by kernel_rfl) (Or.inl ⟨by rfl, fun w' hSw => by obtain ⟨q0, q1, q2, q3, q4, q5⟩ := hSw; go_simp⟩) ?_
                try simp only [Act.put, List.setIfInBounds_toArray, List.set_cons_zero, List.set_cons_succ]
                refine takeD 1 103 (.slice (some ⟨g, 0, none⟩) (allR rs9).length c8) hHeld rfl rfl (by kernel_rfl) (by kernel_rfl) (by kernel_rfl) (Or.inl ⟨by rfl, fun w' hSw => by obtain ⟨q0, q1, q2, q3, q4, q5⟩ := hSw; go_simp⟩) ?_
                try simp only [Act.put, List.setIfInBounds_toArray, List.set_cons_zero, List.set_cons_succ]
                refine takeD 2 104 (I (allR rs9).length) hHeld rfl rfl (by kernel_rfl) (by kernel_rfl) (by kernel_rfl) (Or.inl ⟨by rfl, fun w' hSw => by obtain ⟨q0, q1, q2, q3, q4, q5⟩ := hSw; go_simp⟩) ?_
                try simp only [Act.put, List.setIfInBounds_toArray, List.set_cons_zero, List.set_cons_succ]
                refine takeD 3 105 (.bool false) hHeld rfl rfl (by kernel_rfl) (by kernel_rfl) (by kernel_rfl) (Or.inl ⟨by rfl, fun w' hSw => by obtain ⟨q0, q1, q2, q3, q4, q5⟩ := hSw; go_simp⟩) ?_
                try simp only [Act.put, List.setIfInBounds_toArray, List.set_cons_zero, List.set_cons_succ]
                refine takeD 4 106 (.bool false) hHeld rfl rfl (by kernel_rfl) (by kernel_rfl) (by kernel_rfl) (Or.inl ⟨by rfl, fun w' hSw => by obtain ⟨q0, q1, q2, q3, q4, q5⟩ := hSw; go_simp⟩) ?_
                try simp only [Act.put, List.setIfInBounds_toArray, List.set_cons_zero, List.set_cons_succ]
                refine takeD 5 107 (.agg #[I x1, I x2]) hHeld rfl rfl (by kernel_rfl) (by kernel_rfl) (by kernel_rfl) (Or.inl ⟨by rfl, fun w' hSw => by obtain ⟨q0, q1, q2, q3, q4, q5⟩ := hSw; go_simp⟩) ?_
                try simp only [Act.put, List.setIfInBounds_toArray, List.set_cons_zero, List.set_cons_succ]
                refine takeD 6 108 (.slice (some ⟨g, 0, none⟩) (allR rs9).length c8) hHeld rfl rfl (by kernel_rfl) (by kernel_rfl) (by kernel_rfl) (Or.inl ⟨by rfl, fun w' hSw => by obtain ⟨q0, q1, q2, q3, q4, q5⟩ := hSw; go_simp⟩) ?_
                try simp only [Act.put, List.setIfInBounds_toArray, List.set_cons_zero, List.set_cons_succ]
                refine takeD 7 109 (I pre.length) hHeld rfl rfl (by kernel_rfl) (by kernel_rfl) (by kernel_rfl) (Or.inl ⟨by rfl, fun w' hSw => by obtain ⟨q0, q1, q2, q3, q4, q5⟩ := hSw; go_simp⟩) ?_
                try simp only [Act.put, List.setIfInBounds_toArray, List.set_cons_zero, List.set_cons_succ]
                refine takeD 8 110 (.pointer (some ⟨g, pre.length * 2, none⟩)) hHeld rfl rfl (by kernel_rfl) (by kernel_rfl) (by kernel_rfl) (Or.inl ⟨by rfl, fun w' hSw => by obtain ⟨q0, q1, q2, q3, q4, q5⟩ := hSw; go_simp⟩) ?_
                try simp only [Act.put, List.setIfInBounds_toArray, List.set_cons_zero, List.set_cons_succ]
                refine takeD 9 111 (.agg #[I p1, I p2]) hHeld rfl rfl (by kernel_rfl) (by kernel_rfl) (by kernel_rfl) (Or.inl ⟨by rfl, fun w' hSw => by obtain ⟨q0, q1, q2, q3, q4, q5⟩ := hSw; go_simp⟩) ?_
                try simp only [Act.put, List.setIfInBounds_toArray, List.set_cons_zero, List.set_cons_succ]
                refine takeD 10 112 (.bool true) hHeld rfl rfl (by kernel_rfl) (by kernel_rfl) (by kernel_rfl) (Or.inl ⟨by rfl, fun w' hSw => by obtain ⟨q0, q1, q2, q3, q4, q5⟩ := hSw; go_simp⟩) ?_
                try simp only [Act.put, List.setIfInBounds_toArray, List.set_cons_zero, List.set_cons_succ]
                refine takeD 11 113 (.bool true) hHeld rfl rfl (by kernel_rfl) (by kernel_rfl) (by kernel_rfl) (Or.inl ⟨by rfl, fun w' hSw => by obtain ⟨q0, q1, q2, q3, q4, q5⟩ := hSw; go_simp⟩) ?_
                try simp only [Act.put, List.setIfInBounds_toArray, List.set_cons_zero, List.set_cons_succ]
                refine wpAnyH_done (by kernel_rfl) ?_ _
                refine hK.out _ _ ?_
                clear hK K hHeld
                gi_wp2
                exact ⟨((KeepsOthers.drew Z).trans (KeepsOthers.setCell _ _ _)).from _, rfl, HNX.out⟩
          case done9 =>
            intro D2 xs Y1 hD2 hxs hI hDy
            obtain ⟨hR2, _, hD⟩ := hI
            subst hxs
            subst hA9
            have y13 := hR2.n.cell
            have y11 := (hR2.f.boxed HG9.out.x11 (HG9.out.n _ (by simp))).cell
            have x6 := hR2.f.boxed HG9.out.x6 (HG9.out.n _ (by simp))
            have y6 := x6.cell
            have z6 := x6.frozen
            have hR2' : Hid (RI W9 Y1 Q D X X' Y (c + 1 + 1) (allR rs9).length) := hR2
            have HDD : Hid (Y1.heap[D1]? = some (.deferred (some [])) ∧ Y1.heap[D2]? = some (.deferred (some [])) ∧ Boxed Y1 (W.heap.size + 1) 4 (.bool false)) := ⟨hD, hDy, x6⟩
            clear hR2 hD hDy x6
            go_wp2
            have f6 : Fz (fun b => b = W.heap.size + 1) Y1 (Y1.setCell ⟨W.heap.size + 1, 0, none⟩ (.bool true)) := Fz.set (M := fun b => b = W.heap.size + 1) (Fz.refl (fun b => b = W.heap.size + 1) Y1) (b := W.heap.size + 1) (Or.inl rfl) _ _
            have b9 := HG9.out.b
            have bY := b9.trans (hR2'.out.f.below b9.size (fun b e => (HG9.out.m b e).1))
            have l6 := HG7.out.x6.lt
            have bs7 := HG7.out.b.size
            show LeavesInM Fence.wide 3 _ _ _ _ _ _ _
            exact leave2 (p := 6) rfl rfl (HDD.out.2.2.set _) (f6.heap HDD.out.2.1 (fun e => by omega)) (f6.heap HDD.out.1 (fun e => by omega)) (by omega) (bY.trans (f6.below bY.size (fun b e => by omega))) (by omega) (by omega)
          case stop9 =>
            rintro D2 cc pre Y1 hD2 hpre ⟨rfl, hnp⟩ hDy
            exact absurd hpre hnp
        case stop1 =>
          rintro D1 cc pre Z hD1 hpre (⟨rfl, hnp⟩ | ⟨rfl, hR, _, hlv⟩) hDz
          · exact absurd hpre hnp
          · subst hA1
            have HLV : Hid ((pre.length : Int) = lv) := hlv
            clear hlv
            by_cases hkl : pre.length = (allR rs).length
            · have hkb : ((pre.length : Int) != (allR rs).length) = false := by simp [hkl]
              clear hkl
              have y13 := hR.n.cell
              have y11 := (hR.f.boxed HG7.out.x11 (HG7.out.n _ (by simp))).cell
              have y5 : Z.cell? ⟨W.heap.size, 0, none⟩ = some (I pre.length) := by rw [HLV.out]; exact (hR.f.boxed HG7.out.x5 (HG7.out.n _ (by simp))).cell
              have y8 := (hR.f.boxed HG7.out.x8 (HG7.out.n _ (by simp))).cell
              obtain ⟨rs9, ht⟩ := hR.c
              have t8 := eAll ht.d ht.n ht.q.allLen (fun i r hi => by have := ht.q.p64 i r hi; omega)
              have HZ : Hid (RI W7 Z Q D X X' Y (c + 1 + 1) pre.length ∧ Tw Z Q D X X' Y rs9 ∧ Z.heap[D1]? = some (.deferred (some []))) := ⟨hR, ht, hDz⟩
              have lc := HG7.out.x11.lt
              have lc2 := HG7.out.x13.lt
              clear hR ht hDz
              gi_wp2
              go_wp2_with (first
                | (go_at_call 18; refine t8.mono ?_; clear t8; rintro e w8 ⟨v8, rfl, o8, b8⟩
                   obtain ⟨a8, c8, e8⟩ := own_sl2 o8
                   subst e8
                   have x11 : Boxed w8 c 29 (.slice aL (allR rs).length cL) := (b8.block _ (by have := HZ.out.1.f.size; omega)).trans (HZ.out.1.f.boxed HG7.out.x11 (HG7.out.n _ (by simp)))
                   have y11b := x11.cell
                   have z11b := x11.frozen
                   have x13 : Boxed w8 (c + 1 + 1) 3 (I pre.length) := (b8.block _ (by have := HZ.out.1.f.size; omega)).trans HZ.out.1.n
                   have f11 : Fz (fun b => b = c) w8 (w8.setCell ⟨c, 0, none⟩ (.slice a8 (allR rs9).length c8)) := Fz.set (M := fun b => b = c) (Fz.refl (fun b => b = c) w8) (b := c) (Or.inl rfl) _ _
                   have x13b := f11.boxed x13 (fun e => by omega)
                   have y13b := x13b.cell
                   have z13b := x13b.frozen
                   have HO8 : Hid (w8.ownsRow Z.heap.size 35 2 (.slice a8 (allR rs9).length c8) (allR rs9).length (pairsC (allR rs9)) ∧ Below Z.heap.size Z w8) := ⟨o8, b8⟩
                   clear x11 x13 x13b f11 o8 b8))
              have HG9 : Hid (G7 W ((w8.setCell ⟨c, 0, none⟩ (.slice a8 (allR rs9).length c8)).setCell ⟨c + 1 + 1, 0, none⟩ (.int .i64 0)) W.heap.size (W.heap.size + 1) w1.heap.size (w1.heap.size + 1) c (c + 1 + 1) (c + 1) lv Q D X X' Y rs9 a8 c8) := HG7.out.next HZ.out.1 HZ.out.2.1 HO8.out.2 HO8.out.1
              have HD9 : Hid (((w8.setCell ⟨c, 0, none⟩ (.slice a8 (allR rs9).length c8)).setCell ⟨c + 1 + 1, 0, none⟩ (.int .i64 0)).heap[D1]? = some (.deferred (some []))) := by
                have f9 : Fz (fun b => b = c ∨ b = c + 1 + 1) w8 ((w8.setCell ⟨c, 0, none⟩ (.slice a8 (allR rs9).length c8)).setCell ⟨c + 1 + 1, 0, none⟩ (.int .i64 0)) := Fz.set (M := fun b => b = c ∨ b = c + 1 + 1) (Fz.set (M := fun b => b = c ∨ b = c + 1 + 1) (Fz.refl _ w8) (b := c) (Or.inl (.inl rfl)) _ _) (b := c + 1 + 1) (Or.inl (.inr rfl)) _ _
                exact f9.heap ((HO8.out.2.block _ (heap_lt HZ.out.2.2)).trans HZ.out.2.2) (fun e => by rcases e with e | e <;> omega)
              have lD1 := heap_lt HD9.out
              clear HO8 HZ y13 y11 y5 y8 y11b z11b y13b z13b
              generalize ((w8.setCell ⟨c, 0, none⟩ (.slice a8 (allR rs9).length c8)).setCell ⟨c + 1 + 1, 0, none⟩ (.int .i64 0)) = W9 at *
              refine (wpIn_wide (n := 3)).1 ?_
              generalize hA9 : ({ tmps := _, defers := _ } : Act) = a9
              have hg9 : a9.eval (.tmp 100) = .func (.func 39) #[] #[.pointer (some ⟨c + 1, 0, none⟩)] := by rw [← hA9]; rfl
              refine wpIn_rangeFunc_ownH (α := Int × Int) rfl (by omega) (gf := 39) (lb := #[.pointer (some ⟨c + 1, 0, none⟩)]) hg9 trivial (enters_of Try.func39 (by kernel_rfl) rfl)
                (qAll_stops (3 - 1) (by omega) (c + 1) (fun _ b => X b ∨ b = c + 1 + 1 ∨ Y b) (allR rs9) (qP Q) W9 HG9.out.xs.lt HG9.out.xs.cell (fun Z hZ => rlist (HG9.out.t.q.below hZ)) HG9.out.t.q.allLen (fun Z b _ hm => (HG9.out.m b hm).2) (fun Z o b _ hm => hm)) Kq.trans (Kq.put (fun _ _ _ _ _ hm => hm)) (Below.refl _ _) (fun _ => rfl)
                (fun pre Z => RI W9 Z Q D X X' Y (c + 1 + 1) pre.length ∧ pre <+: allR rs9 ∧ Z.heap[D1]? = some (.deferred (some [])))
                (fun cc pre Z => cc = .ret ∧ ¬ pre <+: allR rs9)
                (fun pre Z Z' row hI hg hr => ⟨hI.1.turn (fun b e => (HG9.out.k b e).2) hg hr, hI.2.1, (hg.block D1 (heap_lt hI.2.2) (fun e => by have := (hr D1 e.symm).1; omega)).trans hI.2.2⟩)
                (fun cc pre Z Z' row hI hg hr => hI)
                ⟨HG9.out.i0, List.nil_prefix, HD9.out⟩
                (fun x a' Z => ∃ Bx, Z.heap[Bx]? = some (.cells #[I x.1, I x.2] 35) ∧ a' = { tmps := (a9.tmps.setIfInBounds 101 (.agg #[I x.1, I x.2])).setIfInBounds 15 (.pointer (some ⟨Bx, 0, none⟩)), defers := [] })
                (fun x a' s W W' row hs hg hr => by
                  obtain ⟨Bx, h1, h2⟩ := hs
                  refine ⟨Bx, (hg.block Bx (heap_lt h1) (fun e => ?_)).trans h1, h2⟩
                  obtain ⟨_, o, ho, hc⟩ := hr Bx e.symm
                  rw [h1] at ho
                  cases ho
                  cases hc) ?assign9 ?body9 ?done9 ?stop9
              case assign9 =>
                rintro lp pre ⟨x1, x2⟩ Z K hI hK
                have hst := run_storeCells_new (P := Try.prog) Z 35 #[.int .i64 0, .int .i64 0] #[I x1, I x2] (by kernel_rfl) rfl (by simp [Value.oneCell'])
                have hK2 := hK { tmps := (a9.tmps.setIfInBounds 101 (.agg #[I x1, I x2])).setIfInBounds 15 (.pointer (some ⟨Z.heap.size, 0, none⟩)), defers := [] } (Z.alloc (.cells #[I x1, I x2] 35)) ((KeepsOthers.alloc _ _).from _) (Kq.alloc (fun b hm => hm)) ⟨hI.1.below (below_alloc _ _), hI.2.1, heap_over _ _ hI.2.2⟩ ⟨Z.heap.size, heap_alloc_new Z _, rfl⟩
                clear hK
                subst hA9
                simp only [List.setIfInBounds_toArray, List.set_cons_succ, List.set_cons_zero] at hK2
                gi_wp2
                exact hK2
              case body9 =>
                rintro lp pre ⟨x1, x2⟩ a' Z hlp ⟨lr, hlr⟩ ⟨hR, hpre, hD⟩ ⟨Bx, hX, rfl⟩ hlt
                subst hA9
                simp only [List.setIfInBounds_toArray, List.set_cons_succ, List.set_cons_zero]
                clear hlr
                have y13 := hR.n.cell
                have y11 := (hR.f.boxed HG9.out.x11 (HG9.out.n _ (by simp))).cell
                obtain ⟨⟨p1, p2⟩, hy⟩ : ∃ y, (allR rs9)[pre.length]? = some y := ⟨_, List.getElem?_eq_getElem hlt⟩
                obtain ⟨g, eg, r0, r1⟩ := HG9.out.row hR.f hy
                have v0 : Z.cell? ⟨Bx, 0, none⟩ = some (I x1) := by rw [cell_of_row _ _ _ _ _ (0, 0) hX]; rfl
                have v1 : Z.cell? ⟨Bx, 1, none⟩ = some (I x2) := by rw [cell_of_row _ _ _ _ _ (0, 0) hX]; rfl
                have hltI : ¬ ((allR rs9).length : Int) ≤ pre.length := by omega
                have hltJ : (pre.length : Int) < (allR rs9).length := by omega
                have hge0 : ¬ (pre.length : Int) < 0 := by omega
                have hpb : (pre.length : Int) < 4194305 := by have := HG9.out.t.q.allLen; omega
                have R5 := hR.below (Below.refl _ Z).drew
                have HGg := HG9
                clear hX
                subst eg
                by_cases hxy : x1 = p1 ∧ x2 = p2
                · obtain ⟨rfl, rfl⟩ := hxy
                  have HPX : Hid (pre ++ [(x1, x2)] <+: allR rs9) := pre_next hpre hy
                  have HR5 : Hid (Fz (fun b => X b ∨ b = c + 1 + 1 ∨ Y b) Z Z.drew ∧ RI W9 Z.drew Q D X X' Y (c + 1 + 1) pre.length) := ⟨(Fz.refl _ Z).drewN 1, R5⟩
                  clear hy hpre hR R5
                  gi_wp2
                  refine only_normal (fun K hK => ?_)
                  refine region_round (by kernel_rfl) (by kernel_rfl) (not_lets_onlyN _) (S := fun w' => w'.cell? ⟨c + 1 + 1, 0, none⟩ = some (I pre.length) ∧ w'.cell? ⟨c, 0, none⟩ = some (.slice (some ⟨g, 0, none⟩) (allR rs9).length c8) ∧ w'.cell? ⟨Bx, 0, none⟩ = some (I x1) ∧ w'.cell? ⟨Bx, 1, none⟩ = some (I x2) ∧ w'.cell? ⟨g, pre.length * 2, none⟩ = some (I x1) ∧ w'.cell? ⟨g, pre.length * 2 + 1, none⟩ = some (I x2)) ⟨y13, y11, v0, v1, r0, r1⟩ (fun hHeld => ?_)
                  refine takeD 0 102 (I pre.length) hHeld rfl rfl (by kernel_rfl) (by kernel_rfl) (by kernel_rfl) (Or.inl ⟨by rfl, fun w' hSw => by obtain ⟨q0, q1, q2, q3, q4, q5⟩ := hSw; go_simp⟩) ?_
                  try simp only [Act.put, List.setIfInBounds_toArray, List.set_cons_zero, List.set_cons_succ]
                  refine takeD 1 103 (.slice (some ⟨g, 0, none⟩) (allR rs9).length c8) hHeld rfl rfl (by kernel_rfl) (by kernel_rfl) (by kernel_rfl) (Or.inl ⟨by rfl, fun w' hSw => by obtain ⟨q0, q1, q2, q3, q4, q5⟩ := hSw; go_simp⟩) ?_
                  try simp only [Act.put, List.setIfInBounds_toArray, List.set_cons_zero, List.set_cons_succ]
                  refine takeD 2 104 (I (allR rs9).length) hHeld rfl rfl (by kernel_rfl) (by kernel_rfl) (by kernel_rfl) (Or.inl ⟨by rfl, fun w' hSw => by obtain ⟨q0, q1, q2, q3, q4, q5⟩ := hSw; go_simp⟩) ?_
                  try simp only [Act.put, List.setIfInBounds_toArray, List.set_cons_zero, List.set_cons_succ]
                  refine takeD 3 105 (.bool false) hHeld rfl rfl (by kernel_rfl) (by kernel_rfl) (by kernel_rfl) (Or.inl ⟨by rfl, fun w' hSw => by obtain ⟨q0, q1, q2, q3, q4, q5⟩ := hSw; go_simp⟩) ?_
                  try simp only [Act.put, List.setIfInBounds_toArray, List.set_cons_zero, List.set_cons_succ]
                  refine takeD 4 106 (.bool false) hHeld rfl rfl (by kernel_rfl) (by kernel_rfl) (by kernel_rfl) (Or.inl ⟨by rfl, fun w' hSw => by obtain ⟨q0, q1, q2, q3, q4, q5⟩ := hSw; go_simp⟩) ?_
                  try simp only [Act.put, List.setIfInBounds_toArray, List.set_cons_zero, List.set_cons_succ]
                  refine takeD 5 107 (.agg #[I x1, I x2]) hHeld rfl rfl (by kernel_rfl) (by kernel_rfl) (by kernel_rfl) (Or.inl ⟨by rfl, fun w' hSw => by obtain ⟨q0, q1, q2, q3, q4, q5⟩ := hSw; go_simp⟩) ?_
                  try simp only [Act.put, List.setIfInBounds_toArray, List.set_cons_zero, List.set_cons_succ]
                  refine takeD 6 108 (.slice (some ⟨g, 0, none⟩) (allR rs9).length c8) hHeld rfl rfl (by kernel_rfl) (by kernel_rfl) (by kernel_rfl) (Or.inl ⟨by rfl, fun w' hSw => by obtain ⟨q0, q1, q2, q3, q4, q5⟩ := hSw; go_simp⟩) ?_
                  try simp only [Act.put, List.setIfInBounds_toArray, List.set_cons_zero, List.set_cons_succ]
                  refine takeD 7 109 (I pre.length) hHeld rfl rfl (by kernel_rfl) (by kernel_rfl) (by kernel_rfl) (Or.inl ⟨by rfl, fun w' hSw => by obtain ⟨q0, q1, q2, q3, q4, q5⟩ := hSw; go_simp⟩) ?_
                  try simp only [Act.put, List.setIfInBounds_toArray, List.set_cons_zero, List.set_cons_succ]
                  refine takeD 8 110 (.pointer (some ⟨g, pre.length * 2, none⟩)) hHeld rfl rfl (by kernel_rfl) (by kernel_rfl) (by kernel_rfl) (Or.inl ⟨by rfl, fun w' hSw => by obtain ⟨q0, q1, q2, q3, q4, q5⟩ := hSw; go_simp⟩) ?_
                  try simp only [Act.put, List.setIfInBounds_toArray, List.set_cons_zero, List.set_cons_succ]
                  refine takeD 9 111 (.agg #[I x1, I x2]) hHeld rfl rfl (by kernel_rfl) (by kernel_rfl) (by kernel_rfl) (Or.inl ⟨by rfl, fun w' hSw => by obtain ⟨q0, q1, q2, q3, q4, q5⟩ := hSw; go_simp⟩) ?_
                  try simp only [Act.put, List.setIfInBounds_toArray, List.set_cons_zero, List.set_cons_succ]
                  refine takeD 10 112 (.bool false) hHeld rfl rfl (by kernel_rfl) (by kernel_rfl) (by kernel_rfl) (Or.inl ⟨by rfl, fun w' hSw => by obtain ⟨q0, q1, q2, q3, q4, q5⟩ := hSw; go_simp⟩) ?_
                  try simp only [Act.put, List.setIfInBounds_toArray, List.set_cons_zero, List.set_cons_succ]
                  refine takeD 11 113 (.bool false) hHeld rfl rfl (by kernel_rfl) (by kernel_rfl) (by kernel_rfl) (Or.inl ⟨by rfl, fun w' hSw => by obtain ⟨q0, q1, q2, q3, q4, q5⟩ := hSw; go_simp⟩) ?_
                  try simp only [Act.put, List.setIfInBounds_toArray, List.set_cons_zero, List.set_cons_succ]
                  refine wpAnyH_done (by kernel_rfl) ?_ _
                  refine hK.out _ _ ?_
                  clear hK K hHeld
                  clear y13 y11 v0 v1 r0 r1
                  generalize Z.drew = Zd at *
                  have hpl : ((pre.length + 1 : Nat) : Int) = (pre.length : Int) + 1 := by omega
                  have hl1 : (pre ++ [(x1, x2)]).length = pre.length + 1 := by simp
                  have y13 := HR5.out.2.n.cell
                  have z13 := HR5.out.2.n.frozen
                  have R6 := HR5.out.2.box HGg.out.a.1 HGg.out.a.2.1 (pre.length + 1)
                  have F6 : Fz (fun b => X b ∨ b = c + 1 + 1 ∨ Y b) Z (Zd.setCell ⟨c + 1 + 1, 0, none⟩ (I ((pre.length + 1 : Nat) : Int))) := HR5.out.1.set (b := c + 1 + 1) (.inl (.inr (.inl rfl))) _ _
                  rw [hpl] at R6 F6
                  have HR6 : Hid (_ ∧ _) := ⟨R6, F6⟩
                  clear R6 F6
                  gi_wp2
                  exact ⟨HR6.out.2.keepsFrom (fun b e => (HGg.out.m b e).2), HR6.out.2.kq, by rw [hl1]; exact HR6.out.1, HPX.out, HR6.out.2.heap hD (fun e => by have := (HG7.out.m D1 e).2; omega)⟩
                · have HNX : Hid (¬ pre ++ [(x1, x2)] <+: allR rs9) := pre_not hy (fun e => hxy (by simpa using e))
                  have x6 := R5.f.boxed HGg.out.x6 (HGg.out.n _ (by simp))
                  have y6 := x6.cell
                  have z6 := x6.frozen
                  have hxyb : (decide (x1 = p1) && decide (x2 = p2)) = false := by simpa using hxy
                  clear hy hpre hR R5 x6
                  by_cases h1 : x1 = p1
                  · subst h1
                    have h2 : ¬ x2 = p2 := fun e => hxy ⟨rfl, e⟩
                    gi_wp2
                    refine only_normal (fun K hK => ?_)
                    refine region_round (by kernel_rfl) (by kernel_rfl) (not_lets_onlyN _) (S := fun w' => w'.cell? ⟨c + 1 + 1, 0, none⟩ = some (I pre.length) ∧ w'.cell? ⟨c, 0, none⟩ = some (.slice (some ⟨g, 0, none⟩) (allR rs9).length c8) ∧ w'.cell? ⟨Bx, 0, none⟩ = some (I x1) ∧ w'.cell? ⟨Bx, 1, none⟩ = some (I x2) ∧ w'.cell? ⟨g, pre.length * 2, none⟩ = some (I x1) ∧ w'.cell? ⟨g, pre.length * 2 + 1, none⟩ = some (I p2)) ⟨y13, y11, v0, v1, r0, r1⟩ (fun hHeld => ?_)
                    refine takeD 0 102 (I pre.length) hHeld rfl rfl (by kernel_rfl) (by kernel_rfl) (by kernel_rfl) (Or.inl ⟨by rfl, fun w' hSw => by obtain ⟨q0, q1, q2, q3, q4, q5⟩ := hSw; go_simp⟩) ?_
                    try simp only [Act.put, List.setIfInBounds_toArray, List.set_cons_zero, List.set_cons_succ]
                    refine takeD 1 103 (.slice (some ⟨g, 0, none⟩) (allR rs9).length c8) hHeld rfl rfl (by kernel_rfl) (by kernel_rfl) (by kernel_rfl) (Or.inl ⟨by rfl, fun w' hSw => by obtain ⟨q0, q1, q2, q3, q4, q5⟩ := hSw; go_simp⟩) ?_
                    try simp only [Act.put, List.setIfInBounds_toArray, List.set_cons_zero, List.set_cons_succ]
                    refine takeD 2 104 (I (allR rs9).length) hHeld rfl rfl (by kernel_rfl) (by kernel_rfl) (by kernel_rfl) (Or.inl ⟨by rfl, fun w' hSw => by obtain ⟨q0, q1, q2, q3, q4, q5⟩ := hSw; go_simp⟩) ?_
                    try simp only [Act.put, List.setIfInBounds_toArray, List.set_cons_zero, List.set_cons_succ]
                    refine takeD 3 105 (.bool false) hHeld rfl rfl (by kernel_rfl) (by kernel_rfl) (by kernel_rfl) (Or.inl ⟨by rfl, fun w' hSw => by obtain ⟨q0, q1, q2, q3, q4, q5⟩ := hSw; go_simp⟩) ?_
                    try simp only [Act.put, List.setIfInBounds_toArray, List.set_cons_zero, List.set_cons_succ]
                    refine takeD 4 106 (.bool false) hHeld rfl rfl (by kernel_rfl) (by kernel_rfl) (by kernel_rfl) (Or.inl ⟨by rfl, fun w' hSw => by obtain ⟨q0, q1, q2, q3, q4, q5⟩ := hSw; go_simp⟩) ?_
                    try simp only [Act.put, List.setIfInBounds_toArray, List.set_cons_zero, List.set_cons_succ]
                    refine takeD 5 107 (.agg #[I x1, I x2]) hHeld rfl rfl (by kernel_rfl) (by kernel_rfl) (by kernel_rfl) (Or.inl ⟨by rfl, fun w' hSw => by obtain ⟨q0, q1, q2, q3, q4, q5⟩ := hSw; go_simp⟩) ?_
                    try simp only [Act.put, List.setIfInBounds_toArray, List.set_cons_zero, List.set_cons_succ]
                    refine takeD 6 108 (.slice (some ⟨g, 0, none⟩) (allR rs9).length c8) hHeld rfl rfl (by kernel_rfl) (by kernel_rfl) (by kernel_rfl) (Or.inl ⟨by rfl, fun w' hSw => by obtain ⟨q0, q1, q2, q3, q4, q5⟩ := hSw; go_simp⟩) ?_
                    try simp only [Act.put, List.setIfInBounds_toArray, List.set_cons_zero, List.set_cons_succ]
                    refine takeD 7 109 (I pre.length) hHeld rfl rfl (by kernel_rfl) (by kernel_rfl) (by kernel_rfl) (Or.inl ⟨by rfl, fun w' hSw => by obtain ⟨q0, q1, q2, q3, q4, q5⟩ := hSw; go_simp⟩) ?_
                    try simp only [Act.put, List.setIfInBounds_toArray, List.set_cons_zero, List.set_cons_succ]
                    refine takeD 8 110 (.pointer (some ⟨g, pre.length * 2, none⟩)) hHeld rfl rfl (by kernel_rfl) (by kernel_rfl) (by kernel_rfl) (Or.inl ⟨by rfl, fun w' hSw => by obtain ⟨q0, q1, q2, q3, q4, q5⟩ := hSw; go_simp⟩) ?_
                    try simp only [Act.put, List.setIfInBounds_toArray, List.set_cons_zero, List.set_cons_succ]
                    refine takeD 9 111 (.agg #[I x1, I p2]) hHeld rfl rfl (by kernel_rfl) (by kernel_rfl) (by kernel_rfl) (Or.inl ⟨by rfl, fun w' hSw => by obtain ⟨q0, q1, q2, q3, q4, q5⟩ := hSw; go_simp⟩) ?_
                    try simp only [Act.put, List.setIfInBounds_toArray, List.set_cons_zero, List.set_cons_succ]
                    refine takeD 10 112 (.bool true) hHeld rfl rfl (by kernel_rfl) (by kernel_rfl) (by kernel_rfl) (Or.inl ⟨by rfl, fun w' hSw => by obtain ⟨q0, q1, q2, q3, q4, q5⟩ := hSw; go_simp⟩) ?_
                    try simp only [Act.put, List.setIfInBounds_toArray, List.set_cons_zero, List.set_cons_succ]
                    refine takeD 11 113 (.bool true) hHeld rfl rfl (by kernel_rfl) (by kernel_rfl) (by kernel_rfl) (Or.inl ⟨by rfl, fun w' hSw => by obtain ⟨q0, q1, q2, q3, q4, q5⟩ := hSw; go_simp⟩) ?_
                    try simp only [Act.put, List.setIfInBounds_toArray, List.set_cons_zero, List.set_cons_succ]
                    refine wpAnyH_done (by kernel_rfl) ?_ _
                    refine hK.out _ _ ?_
                    clear hK K hHeld
                    gi_wp2
                    exact ⟨((KeepsOthers.drew Z).trans (KeepsOthers.setCell _ _ _)).from _, rfl, HNX.out⟩
                  · skip
                    gi_wp2
                    refine only_normal (fun K hK => ?_)
                    refine region_round (by kernel_rfl) (by kernel_rfl) (not_lets_onlyN _) (S := fun w' => w'.cell? ⟨c + 1 + 1, 0, none⟩ = some (I pre.length) ∧ w'.cell? ⟨c, 0, none⟩ = some (.slice (some ⟨g, 0, none⟩) (allR rs9).length c8) ∧ w'.cell? ⟨Bx, 0, none⟩ = some (I x1) ∧ w'.cell? ⟨Bx, 1, none⟩ = some (I x2) ∧ w'.cell? ⟨g, pre.length * 2, none⟩ = some (I p1) ∧ w'.cell? ⟨g, pre.length * 2 + 1, none⟩ = some (I p2)) ⟨y13, y11, v0, v1, r0, r1⟩ (fun hHeld => ?_)
                    refine takeD 0 102 (I pre.length) hHeld rfl rfl (by kernel_rfl) (by kernel_rfl) (by kernel_rfl) (Or.inl ⟨by rfl, fun w' hSw => by obtain ⟨q0, q1, q2, q3, q4, q5⟩ := hSw; go_simp⟩) ?_
                    try simp only [Act.put, List.setIfInBounds_toArray, List.set_cons_zero, List.set_cons_succ]
                    refine takeD 1 103 (.slice (some ⟨g, 0, none⟩) (allR rs9).length c8) hHeld rfl rfl (by kernel_rfl) (by kernel_rfl) (by kernel_rfl) (Or.inl ⟨by rfl, fun w' hSw => by obtain ⟨q0, q1, q2, q3, q4, q5⟩ := hSw; go_simp⟩) ?_
                    try simp only [Act.put, List.setIfInBounds_toArray, List.set_cons_zero, List.set_cons_succ]
                    refine takeD 2 104 (I (allR rs9).length) hHeld rfl rfl (by kernel_rfl) (by kernel_rfl) (by kernel_rfl) (Or.inl ⟨by rfl, fun w' hSw => by obtain ⟨q0, q1, q2, q3, q4, q5⟩ := hSw; go_simp⟩) ?_
                    try simp only [Act.put, List.setIfInBounds_toArray, List.set_cons_zero, List.set_cons_succ]
                    refine takeD 3 105 (.bool false) hHeld rfl rfl (by kernel_rfl) (by kernel_rfl) (by kernel_rfl) (Or.inl ⟨by rfl, fun w' hSw => by obtain ⟨q0, q1, q2, q3, q4, q5⟩ := hSw; go_simp⟩) ?_
                    try simp only [Act.put, List.setIfInBounds_toArray, List.set_cons_zero, List.set_cons_succ]
                    refine takeD 4 106 (.bool false) hHeld rfl rfl (by kernel_rfl) (by kernel_rfl) (by kernel_rfl) (Or.inl ⟨by rfl, fun w' hSw => by obtain ⟨q0, q1, q2, q3, q4, q5⟩ := hSw; go_simp⟩) ?_
                    try simp only [Act.put, List.setIfInBounds_toArray, List.set_cons_zero, List.set_cons_succ]
                    refine takeD 5 107 (.agg #[I x1, I x2]) hHeld rfl rfl (by kernel_rfl) (by kernel_rfl) (by kernel_rfl) (Or.inl ⟨by rfl, fun w' hSw => by obtain ⟨q0, q1, q2, q3, q4, q5⟩ := hSw; go_simp⟩) ?_
                    try simp only [Act.put, List.setIfInBounds_toArray, List.set_cons_zero, List.set_cons_succ]
                    refine takeD 6 108 (.slice (some ⟨g, 0, none⟩) (allR rs9).length c8) hHeld rfl rfl (by kernel_rfl) (by kernel_rfl) (by kernel_rfl) (Or.inl ⟨by rfl, fun w' hSw => by obtain ⟨q0, q1, q2, q3, q4, q5⟩ := hSw; go_simp⟩) ?_
                    try simp only [Act.put, List.setIfInBounds_toArray, List.set_cons_zero, List.set_cons_succ]
                    refine takeD 7 109 (I pre.length) hHeld rfl rfl (by kernel_rfl) (by kernel_rfl) (by kernel_rfl) (Or.inl ⟨by rfl, fun w' hSw => by obtain ⟨q0, q1, q2, q3, q4, q5⟩ := hSw; go_simp⟩) ?_
                    try simp only [Act.put, List.setIfInBounds_toArray, List.set_cons_zero, List.set_cons_succ]
                    refine takeD 8 110 (.pointer (some ⟨g, pre.length * 2, none⟩)) hHeld rfl rfl (by kernel_rfl) (by kernel_rfl) (by kernel_rfl) (Or.inl ⟨by rfl, fun w' hSw => by obtain ⟨q0, q1, q2, q3, q4, q5⟩ := hSw; go_simp⟩) ?_
                    try simp only [Act.put, List.setIfInBounds_toArray, List.set_cons_zero, List.set_cons_succ]
                    refine takeD 9 111 (.agg #[I p1, I p2]) hHeld rfl rfl (by kernel_rfl) (by kernel_rfl) (by kernel_rfl) (Or.inl ⟨by rfl, fun w' hSw => by obtain ⟨q0, q1, q2, q3, q4, q5⟩ := hSw; go_simp⟩) ?_
                    try simp only [Act.put, List.setIfInBounds_toArray, List.set_cons_zero, List.set_cons_succ]
                    refine takeD 10 112 (.bool true) hHeld rfl rfl (by kernel_rfl) (by kernel_rfl) (by kernel_rfl) (Or.inl ⟨by rfl, fun w' hSw => by obtain ⟨q0, q1, q2, q3, q4, q5⟩ := hSw; go_simp⟩) ?_
                    try simp only [Act.put, List.setIfInBounds_toArray, List.set_cons_zero, List.set_cons_succ]
                    refine takeD 11 113 (.bool true) hHeld rfl rfl (by kernel_rfl) (by kernel_rfl) (by kernel_rfl) (Or.inl ⟨by rfl, fun w' hSw => by obtain ⟨q0, q1, q2, q3, q4, q5⟩ := hSw; go_simp⟩) ?_
                    try simp only [Act.put, List.setIfInBounds_toArray, List.set_cons_zero, List.set_cons_succ]
                    refine wpAnyH_done (by kernel_rfl) ?_ _
                    refine hK.out _ _ ?_
                    clear hK K hHeld
                    gi_wp2
                    exact ⟨((KeepsOthers.drew Z).trans (KeepsOthers.setCell _ _ _)).from _, rfl, HNX.out⟩
              case done9 =>
                intro D2 xs Y1 hD2 hxs hI hDy
                obtain ⟨hR2, _, hD⟩ := hI
                subst hxs
                subst hA9
                have y13 := hR2.n.cell
                have y11 := (hR2.f.boxed HG9.out.x11 (HG9.out.n _ (by simp))).cell
                have x6 := hR2.f.boxed HG9.out.x6 (HG9.out.n _ (by simp))
                have y6 := x6.cell
                have z6 := x6.frozen
                have hR2' : Hid (RI W9 Y1 Q D X X' Y (c + 1 + 1) (allR rs9).length) := hR2
                have HDD : Hid (Y1.heap[D1]? = some (.deferred (some [])) ∧ Y1.heap[D2]? = some (.deferred (some [])) ∧ Boxed Y1 (W.heap.size + 1) 4 (.bool false)) := ⟨hD, hDy, x6⟩
                clear hR2 hD hDy x6
                go_wp2
                have f6 : Fz (fun b => b = W.heap.size + 1) Y1 (Y1.setCell ⟨W.heap.size + 1, 0, none⟩ (.bool true)) := Fz.set (M := fun b => b = W.heap.size + 1) (Fz.refl (fun b => b = W.heap.size + 1) Y1) (b := W.heap.size + 1) (Or.inl rfl) _ _
                have b9 := HG9.out.b
                have bY := b9.trans (hR2'.out.f.below b9.size (fun b e => (HG9.out.m b e).1))
                have l6 := HG7.out.x6.lt
                have bs7 := HG7.out.b.size
                show LeavesInM Fence.wide 3 _ _ _ _ _ _ _
                exact leave2 (p := 6) rfl rfl (HDD.out.2.2.set _) (f6.heap HDD.out.2.1 (fun e => by omega)) (f6.heap HDD.out.1 (fun e => by omega)) (by omega) (bY.trans (f6.below bY.size (fun b e => by omega))) (by omega) (by omega)
              case stop9 =>
                rintro D2 cc pre Y1 hD2 hpre ⟨rfl, hnp⟩ hDy
                exact absurd hpre hnp
            · have hkb : ((pre.length : Int) != (allR rs).length) = true := by simp; omega
              clear hkl
              have y13 := hR.n.cell
              have y11 := (hR.f.boxed HG7.out.x11 (HG7.out.n _ (by simp))).cell
              have y5 : Z.cell? ⟨W.heap.size, 0, none⟩ = some (I pre.length) := by rw [HLV.out]; exact (hR.f.boxed HG7.out.x5 (HG7.out.n _ (by simp))).cell
              have y8 := (hR.f.boxed HG7.out.x8 (HG7.out.n _ (by simp))).cell
              obtain ⟨rs9, ht⟩ := hR.c
              have t8 := eAll ht.d ht.n ht.q.allLen (fun i r hi => by have := ht.q.p64 i r hi; omega)
              have HZ : Hid (RI W7 Z Q D X X' Y (c + 1 + 1) pre.length ∧ Tw Z Q D X X' Y rs9 ∧ Z.heap[D1]? = some (.deferred (some []))) := ⟨hR, ht, hDz⟩
              have lc := HG7.out.x11.lt
              have lc2 := HG7.out.x13.lt
              clear hR ht hDz
              gi_wp2
              go_wp2_with (first
                | (go_at_call 18; refine t8.mono ?_; clear t8; rintro e w8 ⟨v8, rfl, o8, b8⟩
                   obtain ⟨a8, c8, e8⟩ := own_sl2 o8
                   subst e8
                   have x11 : Boxed w8 c 29 (.slice aL (allR rs).length cL) := (b8.block _ (by have := HZ.out.1.f.size; omega)).trans (HZ.out.1.f.boxed HG7.out.x11 (HG7.out.n _ (by simp)))
                   have y11b := x11.cell
                   have z11b := x11.frozen
                   have x13 : Boxed w8 (c + 1 + 1) 3 (I pre.length) := (b8.block _ (by have := HZ.out.1.f.size; omega)).trans HZ.out.1.n
                   have f11 : Fz (fun b => b = c) w8 (w8.setCell ⟨c, 0, none⟩ (.slice a8 (allR rs9).length c8)) := Fz.set (M := fun b => b = c) (Fz.refl (fun b => b = c) w8) (b := c) (Or.inl rfl) _ _
                   have x13b := f11.boxed x13 (fun e => by omega)
                   have y13b := x13b.cell
                   have z13b := x13b.frozen
                   have HO8 : Hid (w8.ownsRow Z.heap.size 35 2 (.slice a8 (allR rs9).length c8) (allR rs9).length (pairsC (allR rs9)) ∧ Below Z.heap.size Z w8) := ⟨o8, b8⟩
                   clear x11 x13 x13b f11 o8 b8))
              have HG9 : Hid (G7 W ((w8.setCell ⟨c, 0, none⟩ (.slice a8 (allR rs9).length c8)).setCell ⟨c + 1 + 1, 0, none⟩ (.int .i64 0)) W.heap.size (W.heap.size + 1) w1.heap.size (w1.heap.size + 1) c (c + 1 + 1) (c + 1) lv Q D X X' Y rs9 a8 c8) := HG7.out.next HZ.out.1 HZ.out.2.1 HO8.out.2 HO8.out.1
              have HD9 : Hid (((w8.setCell ⟨c, 0, none⟩ (.slice a8 (allR rs9).length c8)).setCell ⟨c + 1 + 1, 0, none⟩ (.int .i64 0)).heap[D1]? = some (.deferred (some []))) := by
                have f9 : Fz (fun b => b = c ∨ b = c + 1 + 1) w8 ((w8.setCell ⟨c, 0, none⟩ (.slice a8 (allR rs9).length c8)).setCell ⟨c + 1 + 1, 0, none⟩ (.int .i64 0)) := Fz.set (M := fun b => b = c ∨ b = c + 1 + 1) (Fz.set (M := fun b => b = c ∨ b = c + 1 + 1) (Fz.refl _ w8) (b := c) (Or.inl (.inl rfl)) _ _) (b := c + 1 + 1) (Or.inl (.inr rfl)) _ _
                exact f9.heap ((HO8.out.2.block _ (heap_lt HZ.out.2.2)).trans HZ.out.2.2) (fun e => by rcases e with e | e <;> omega)
              have lD1 := heap_lt HD9.out
              clear HO8 HZ y13 y11 y5 y8 y11b z11b y13b z13b
              generalize ((w8.setCell ⟨c, 0, none⟩ (.slice a8 (allR rs9).length c8)).setCell ⟨c + 1 + 1, 0, none⟩ (.int .i64 0)) = W9 at *
              refine (wpIn_wide (n := 3)).1 ?_
              generalize hA9 : ({ tmps := _, defers := _ } : Act) = a9
              have hg9 : a9.eval (.tmp 100) = .func (.func 39) #[] #[.pointer (some ⟨c + 1, 0, none⟩)] := by rw [← hA9]; rfl
              refine wpIn_rangeFunc_ownH (α := Int × Int) rfl (by omega) (gf := 39) (lb := #[.pointer (some ⟨c + 1, 0, none⟩)]) hg9 trivial (enters_of Try.func39 (by kernel_rfl) rfl)
                (qAll_stops (3 - 1) (by omega) (c + 1) (fun _ b => X b ∨ b = c + 1 + 1 ∨ Y b) (allR rs9) (qP Q) W9 HG9.out.xs.lt HG9.out.xs.cell (fun Z hZ => rlist (HG9.out.t.q.below hZ)) HG9.out.t.q.allLen (fun Z b _ hm => (HG9.out.m b hm).2) (fun Z o b _ hm => hm)) Kq.trans (Kq.put (fun _ _ _ _ _ hm => hm)) (Below.refl _ _) (fun _ => rfl)
                (fun pre Z => RI W9 Z Q D X X' Y (c + 1 + 1) pre.length ∧ pre <+: allR rs9 ∧ Z.heap[D1]? = some (.deferred (some [])))
                (fun cc pre Z => cc = .ret ∧ ¬ pre <+: allR rs9)
                (fun pre Z Z' row hI hg hr => ⟨hI.1.turn (fun b e => (HG9.out.k b e).2) hg hr, hI.2.1, (hg.block D1 (heap_lt hI.2.2) (fun e => by have := (hr D1 e.symm).1; omega)).trans hI.2.2⟩)
                (fun cc pre Z Z' row hI hg hr => hI)
                ⟨HG9.out.i0, List.nil_prefix, HD9.out⟩
                (fun x a' Z => ∃ Bx, Z.heap[Bx]? = some (.cells #[I x.1, I x.2] 35) ∧ a' = { tmps := (a9.tmps.setIfInBounds 101 (.agg #[I x.1, I x.2])).setIfInBounds 15 (.pointer (some ⟨Bx, 0, none⟩)), defers := [] })
                (fun x a' s W W' row hs hg hr => by
                  obtain ⟨Bx, h1, h2⟩ := hs
                  refine ⟨Bx, (hg.block Bx (heap_lt h1) (fun e => ?_)).trans h1, h2⟩
                  obtain ⟨_, o, ho, hc⟩ := hr Bx e.symm
                  rw [h1] at ho
                  cases ho
                  cases hc) ?assign9 ?body9 ?done9 ?stop9
              case assign9 =>
                rintro lp pre ⟨x1, x2⟩ Z K hI hK
                have hst := run_storeCells_new (P := Try.prog) Z 35 #[.int .i64 0, .int .i64 0] #[I x1, I x2] (by kernel_rfl) rfl (by simp [Value.oneCell'])
                have hK2 := hK { tmps := (a9.tmps.setIfInBounds 101 (.agg #[I x1, I x2])).setIfInBounds 15 (.pointer (some ⟨Z.heap.size, 0, none⟩)), defers := [] } (Z.alloc (.cells #[I x1, I x2] 35)) ((KeepsOthers.alloc _ _).from _) (Kq.alloc (fun b hm => hm)) ⟨hI.1.below (below_alloc _ _), hI.2.1, heap_over _ _ hI.2.2⟩ ⟨Z.heap.size, heap_alloc_new Z _, rfl⟩
                clear hK
                subst hA9
                simp only [List.setIfInBounds_toArray, List.set_cons_succ, List.set_cons_zero] at hK2
                gi_wp2
                exact hK2
              case body9 =>
                rintro lp pre ⟨x1, x2⟩ a' Z hlp ⟨lr, hlr⟩ ⟨hR, hpre, hD⟩ ⟨Bx, hX, rfl⟩ hlt
                subst hA9
                simp only [List.setIfInBounds_toArray, List.set_cons_succ, List.set_cons_zero]
                clear hlr
                have y13 := hR.n.cell
                have y11 := (hR.f.boxed HG9.out.x11 (HG9.out.n _ (by simp))).cell
                obtain ⟨⟨p1, p2⟩, hy⟩ : ∃ y, (allR rs9)[pre.length]? = some y := ⟨_, List.getElem?_eq_getElem hlt⟩
                obtain ⟨g, eg, r0, r1⟩ := HG9.out.row hR.f hy
                have v0 : Z.cell? ⟨Bx, 0, none⟩ = some (I x1) := by rw [cell_of_row _ _ _ _ _ (0, 0) hX]; rfl
                have v1 : Z.cell? ⟨Bx, 1, none⟩ = some (I x2) := by rw [cell_of_row _ _ _ _ _ (0, 0) hX]; rfl
                have hltI : ¬ ((allR rs9).length : Int) ≤ pre.length := by omega
                have hltJ : (pre.length : Int) < (allR rs9).length := by omega
                have hge0 : ¬ (pre.length : Int) < 0 := by omega
                have hpb : (pre.length : Int) < 4194305 := by have := HG9.out.t.q.allLen; omega
                have R5 := hR.below (Below.refl _ Z).drew
                have HGg := HG9
                clear hX
                subst eg
                by_cases hxy : x1 = p1 ∧ x2 = p2
                · obtain ⟨rfl, rfl⟩ := hxy
                  have HPX : Hid (pre ++ [(x1, x2)] <+: allR rs9) := pre_next hpre hy
                  have HR5 : Hid (Fz (fun b => X b ∨ b = c + 1 + 1 ∨ Y b) Z Z.drew ∧ RI W9 Z.drew Q D X X' Y (c + 1 + 1) pre.length) := ⟨(Fz.refl _ Z).drewN 1, R5⟩
                  clear hy hpre hR R5
                  gi_wp2
                  refine only_normal (fun K hK => ?_)
                  refine region_round (by kernel_rfl) (by kernel_rfl) (not_lets_onlyN _) (S := fun w' => w'.cell? ⟨c + 1 + 1, 0, none⟩ = some (I pre.length) ∧ w'.cell? ⟨c, 0, none⟩ = some (.slice (some ⟨g, 0, none⟩) (allR rs9).length c8) ∧ w'.cell? ⟨Bx, 0, none⟩ = some (I x1) ∧ w'.cell? ⟨Bx, 1, none⟩ = some (I x2) ∧ w'.cell? ⟨g, pre.length * 2, none⟩ = some (I x1) ∧ w'.cell? ⟨g, pre.length * 2 + 1, none⟩ = some (I x2)) ⟨y13, y11, v0, v1, r0, r1⟩ (fun hHeld => ?_)
                  refine takeD 0 102 (I pre.length) hHeld rfl rfl (by kernel_rfl) (by kernel_rfl) (by kernel_rfl) (Or.inl ⟨by rfl, fun w' hSw => by obtain ⟨q0, q1, q2, q3, q4, q5⟩ := hSw; go_simp⟩) ?_
                  try simp only [Act.put, List.setIfInBounds_toArray, List.set_cons_zero, List.set_cons_succ]
                  refine takeD 1 103 (.slice (some ⟨g, 0, none⟩) (allR rs9).length c8) hHeld rfl rfl (by kernel_rfl) (by kernel_rfl) (by kernel_rfl) (Or.inl ⟨by rfl, fun w' hSw => by obtain ⟨q0, q1, q2, q3, q4, q5⟩ := hSw; go_simp⟩) ?_
                  try simp only [Act.put, List.setIfInBounds_toArray, List.set_cons_zero, List.set_cons_succ]
                  refine takeD 2 104 (I (allR rs9).length) hHeld rfl rfl (by kernel_rfl) (by kernel_rfl) (by kernel_rfl) (Or.inl ⟨by rfl, fun w' hSw => by obtain ⟨q0, q1, q2, q3, q4, q5⟩ := hSw; go_simp⟩) ?_
                  try simp only [Act.put, List.setIfInBounds_toArray, List.set_cons_zero, List.set_cons_succ]
                  refine takeD 3 105 (.bool false) hHeld rfl rfl (by kernel_rfl) (by kernel_rfl) (by kernel_rfl) (Or.inl ⟨by rfl, fun w' hSw => by obtain ⟨q0, q1, q2, q3, q4, q5⟩ := hSw; go_simp⟩) ?_
                  try simp only [Act.put, List.setIfInBounds_toArray, List.set_cons_zero, List.set_cons_succ]
                  refine takeD 4 106 (.bool false) hHeld rfl rfl (by kernel_rfl) (by kernel_rfl) (by kernel_rfl) (Or.inl ⟨by rfl, fun w' hSw => by obtain ⟨q0, q1, q2, q3, q4, q5⟩ := hSw; go_simp⟩) ?_
                  try simp only [Act.put, List.setIfInBounds_toArray, List.set_cons_zero, List.set_cons_succ]
                  refine takeD 5 107 (.agg #[I x1, I x2]) hHeld rfl rfl (by kernel_rfl) (by kernel_rfl) (by kernel_rfl) (Or.inl ⟨by rfl, fun w' hSw => by obtain ⟨q0, q1, q2, q3, q4, q5⟩ := hSw; go_simp⟩) ?_
                  try simp only [Act.put, List.setIfInBounds_toArray, List.set_cons_zero, List.set_cons_succ]
                  refine takeD 6 108 (.slice (some ⟨g, 0, none⟩) (allR rs9).length c8) hHeld rfl rfl (by kernel_rfl) (by kernel_rfl) (by kernel_rfl) (Or.inl ⟨by rfl, fun w' hSw => by obtain ⟨q0, q1, q2, q3, q4, q5⟩ := hSw; go_simp⟩) ?_
                  try simp only [Act.put, List.setIfInBounds_toArray, List.set_cons_zero, List.set_cons_succ]
                  refine takeD 7 109 (I pre.length) hHeld rfl rfl (by kernel_rfl) (by kernel_rfl) (by kernel_rfl) (Or.inl ⟨by rfl, fun w' hSw => by obtain ⟨q0, q1, q2, q3, q4, q5⟩ := hSw; go_simp⟩) ?_
                  try simp only [Act.put, List.setIfInBounds_toArray, List.set_cons_zero, List.set_cons_succ]
                  refine takeD 8 110 (.pointer (some ⟨g, pre.length * 2, none⟩)) hHeld rfl rfl (by kernel_rfl) (by kernel_rfl) (by kernel_rfl) (Or.inl ⟨by rfl, fun w' hSw => by obtain ⟨q0, q1, q2, q3, q4, q5⟩ := hSw; go_simp⟩) ?_
                  try simp only [Act.put, List.setIfInBounds_toArray, List.set_cons_zero, List.set_cons_succ]
                  refine takeD 9 111 (.agg #[I x1, I x2]) hHeld rfl rfl (by kernel_rfl) (by kernel_rfl) (by kernel_rfl) (Or.inl ⟨by rfl, fun w' hSw => by obtain ⟨q0, q1, q2, q3, q4, q5⟩ := hSw; go_simp⟩) ?_
                  try simp only [Act.put, List.setIfInBounds_toArray, List.set_cons_zero, List.set_cons_succ]
                  refine takeD 10 112 (.bool false) hHeld rfl rfl (by kernel_rfl) (by kernel_rfl) (by kernel_rfl) (Or.inl ⟨by rfl, fun w' hSw => by obtain ⟨q0, q1, q2, q3, q4, q5⟩ := hSw; go_simp⟩) ?_
                  try simp only [Act.put, List.setIfInBounds_toArray, List.set_cons_zero, List.set_cons_succ]
                  refine takeD 11 113 (.bool false) hHeld rfl rfl (by kernel_rfl) (by kernel_rfl) (by kernel_rfl) (Or.inl ⟨by rfl, fun w' hSw => by obtain ⟨q0, q1, q2, q3, q4, q5⟩ := hSw; go_simp⟩) ?_
                  try simp only [Act.put, List.setIfInBounds_toArray, List.set_cons_zero, List.set_cons_succ]
                  refine wpAnyH_done (by kernel_rfl) ?_ _
                  refine hK.out _ _ ?_
                  clear hK K hHeld
                  clear y13 y11 v0 v1 r0 r1
                  generalize Z.drew = Zd at *
                  have hpl : ((pre.length + 1 : Nat) : Int) = (pre.length : Int) + 1 := by omega
                  have hl1 : (pre ++ [(x1, x2)]).length = pre.length + 1 := by simp
                  have y13 := HR5.out.2.n.cell
                  have z13 := HR5.out.2.n.frozen
                  have R6 := HR5.out.2.box HGg.out.a.1 HGg.out.a.2.1 (pre.length + 1)
                  have F6 : Fz (fun b => X b ∨ b = c + 1 + 1 ∨ Y b) Z (Zd.setCell ⟨c + 1 + 1, 0, none⟩ (I ((pre.length + 1 : Nat) : Int))) := HR5.out.1.set (b := c + 1 + 1) (.inl (.inr (.inl rfl))) _ _
                  rw [hpl] at R6 F6
                  have HR6 : Hid (_ ∧ _) := ⟨R6, F6⟩
                  clear R6 F6
                  gi_wp2
                  exact ⟨HR6.out.2.keepsFrom (fun b e => (HGg.out.m b e).2), HR6.out.2.kq, by rw [hl1]; exact HR6.out.1, HPX.out, HR6.out.2.heap hD (fun e => by have := (HG7.out.m D1 e).2; omega)⟩
                · have HNX : Hid (¬ pre ++ [(x1, x2)] <+: allR rs9) := pre_not hy (fun e => hxy (by simpa using e))
                  have x6 := R5.f.boxed HGg.out.x6 (HGg.out.n _ (by simp))
                  have y6 := x6.cell
                  have z6 := x6.frozen
                  have hxyb : (decide (x1 = p1) && decide (x2 = p2)) = false := by simpa using hxy
                  clear hy hpre hR R5 x6
                  by_cases h1 : x1 = p1
                  · subst h1
                    have h2 : ¬ x2 = p2 := fun e => hxy ⟨rfl, e⟩
                    gi_wp2
                    refine only_normal (fun K hK => ?_)
                    refine region_round (by kernel_rfl) (by kernel_rfl) (not_lets_onlyN _) (S := fun w' => w'.cell? ⟨c + 1 + 1, 0, none⟩ = some (I pre.length) ∧ w'.cell? ⟨c, 0, none⟩ = some (.slice (some ⟨g, 0, none⟩) (allR rs9).length c8) ∧ w'.cell? ⟨Bx, 0, none⟩ = some (I x1) ∧ w'.cell? ⟨Bx, 1, none⟩ = some (I x2) ∧ w'.cell? ⟨g, pre.length * 2, none⟩ = some (I x1) ∧ w'.cell? ⟨g, pre.length * 2 + 1, none⟩ = some (I p2)) ⟨y13, y11, v0, v1, r0, r1⟩ (fun hHeld => ?_)
                    refine takeD 0 102 (I pre.length) hHeld rfl rfl (by kernel_rfl) (by kernel_rfl) (by kernel_rfl) (Or.inl ⟨by rfl, fun w' hSw => by obtain ⟨q0, q1, q2, q3, q4, q5⟩ := hSw; go_simp⟩) ?_
                    try simp only [Act.put, List.setIfInBounds_toArray, List.set_cons_zero, List.set_cons_succ]
                    refine takeD 1 103 (.slice (some ⟨g, 0, none⟩) (allR rs9).length c8) hHeld rfl rfl (by kernel_rfl) (by kernel_rfl) (by kernel_rfl) (Or.inl ⟨by rfl, fun w' hSw => by obtain ⟨q0, q1, q2, q3, q4, q5⟩ := hSw; go_simp⟩) ?_
                    try simp only [Act.put, List.setIfInBounds_toArray, List.set_cons_zero, List.set_cons_succ]
                    refine takeD 2 104 (I (allR rs9).length) hHeld rfl rfl (by kernel_rfl) (by kernel_rfl) (by kernel_rfl) (Or.inl ⟨by rfl, fun w' hSw => by obtain ⟨q0, q1, q2, q3, q4, q5⟩ := hSw; go_simp⟩) ?_
                    try simp only [Act.put, List.setIfInBounds_toArray, List.set_cons_zero, List.set_cons_succ]
                    refine takeD 3 105 (.bool false) hHeld rfl rfl (by kernel_rfl) (by kernel_rfl) (by kernel_rfl) (Or.inl ⟨by rfl, fun w' hSw => by obtain ⟨q0, q1, q2, q3, q4, q5⟩ := hSw; go_simp⟩) ?_
                    try simp only [Act.put, List.setIfInBounds_toArray, List.set_cons_zero, List.set_cons_succ]
                    refine takeD 4 106 (.bool false) hHeld rfl rfl (by kernel_rfl) (by kernel_rfl) (by kernel_rfl) (Or.inl ⟨by rfl, fun w' hSw => by obtain ⟨q0, q1, q2, q3, q4, q5⟩ := hSw; go_simp⟩) ?_
                    try simp only [Act.put, List.setIfInBounds_toArray, List.set_cons_zero, List.set_cons_succ]
                    refine takeD 5 107 (.agg #[I x1, I x2]) hHeld rfl rfl (by kernel_rfl) (by kernel_rfl) (by kernel_rfl) (Or.inl ⟨by rfl, fun w' hSw => by obtain ⟨q0, q1, q2, q3, q4, q5⟩ := hSw; go_simp⟩) ?_
                    try simp only [Act.put, List.setIfInBounds_toArray, List.set_cons_zero, List.set_cons_succ]
                    refine takeD 6 108 (.slice (some ⟨g, 0, none⟩) (allR rs9).length c8) hHeld rfl rfl (by kernel_rfl) (by kernel_rfl) (by kernel_rfl) (Or.inl ⟨by rfl, fun w' hSw => by obtain ⟨q0, q1, q2, q3, q4, q5⟩ := hSw; go_simp⟩) ?_
                    try simp only [Act.put, List.setIfInBounds_toArray, List.set_cons_zero, List.set_cons_succ]
                    refine takeD 7 109 (I pre.length) hHeld rfl rfl (by kernel_rfl) (by kernel_rfl) (by kernel_rfl) (Or.inl ⟨by rfl, fun w' hSw => by obtain ⟨q0, q1, q2, q3, q4, q5⟩ := hSw; go_simp⟩) ?_
                    try simp only [Act.put, List.setIfInBounds_toArray, List.set_cons_zero, List.set_cons_succ]
                    refine takeD 8 110 (.pointer (some ⟨g, pre.length * 2, none⟩)) hHeld rfl rfl (by kernel_rfl) (by kernel_rfl) (by kernel_rfl) (Or.inl ⟨by rfl, fun w' hSw => by obtain ⟨q0, q1, q2, q3, q4, q5⟩ := hSw; go_simp⟩) ?_
                    try simp only [Act.put, List.setIfInBounds_toArray, List.set_cons_zero, List.set_cons_succ]
                    refine takeD 9 111 (.agg #[I x1, I p2]) hHeld rfl rfl (by kernel_rfl) (by kernel_rfl) (by kernel_rfl) (Or.inl ⟨by rfl, fun w' hSw => by obtain ⟨q0, q1, q2, q3, q4, q5⟩ := hSw; go_simp⟩) ?_
                    try simp only [Act.put, List.setIfInBounds_toArray, List.set_cons_zero, List.set_cons_succ]
                    refine takeD 10 112 (.bool true) hHeld rfl rfl (by kernel_rfl) (by kernel_rfl) (by kernel_rfl) (Or.inl ⟨by rfl, fun w' hSw => by obtain ⟨q0, q1, q2, q3, q4, q5⟩ := hSw; go_simp⟩) ?_
                    try simp only [Act.put, List.setIfInBounds_toArray, List.set_cons_zero, List.set_cons_succ]
                    refine takeD 11 113 (.bool true) hHeld rfl rfl (by kernel_rfl) (by kernel_rfl) (by kernel_rfl) (Or.inl ⟨by rfl, fun w' hSw => by obtain ⟨q0, q1, q2, q3, q4, q5⟩ := hSw; go_simp⟩) ?_
                    try simp only [Act.put, List.setIfInBounds_toArray, List.set_cons_zero, List.set_cons_succ]
                    refine wpAnyH_done (by kernel_rfl) ?_ _
                    refine hK.out _ _ ?_
                    clear hK K hHeld
                    gi_wp2
                    exact ⟨((KeepsOthers.drew Z).trans (KeepsOthers.setCell _ _ _)).from _, rfl, HNX.out⟩
                  · skip
                    gi_wp2
                    refine only_normal (fun K hK => ?_)
                    refine region_round (by kernel_rfl) (by kernel_rfl) (not_lets_onlyN _) (S := fun w' => w'.cell? ⟨c + 1 + 1, 0, none⟩ = some (I pre.length) ∧ w'.cell? ⟨c, 0, none⟩ = some (.slice (some ⟨g, 0, none⟩) (allR rs9).length c8) ∧ w'.cell? ⟨Bx, 0, none⟩ = some (I x1) ∧ w'.cell? ⟨Bx, 1, none⟩ = some (I x2) ∧ w'.cell? ⟨g, pre.length * 2, none⟩ = some (I p1) ∧ w'.cell? ⟨g, pre.length * 2 + 1, none⟩ = some (I p2)) ⟨y13, y11, v0, v1, r0, r1⟩ (fun hHeld => ?_)
                    refine takeD 0 102 (I pre.length) hHeld rfl rfl (by kernel_rfl) (by kernel_rfl) (by kernel_rfl) (Or.inl ⟨by rfl, fun w' hSw => by obtain ⟨q0, q1, q2, q3, q4, q5⟩ := hSw; go_simp⟩) ?_
                    try simp only [Act.put, List.setIfInBounds_toArray, List.set_cons_zero, List.set_cons_succ]
                    refine takeD 1 103 (.slice (some ⟨g, 0, none⟩) (allR rs9).length c8) hHeld rfl rfl (by kernel_rfl) (by kernel_rfl) (by kernel_rfl) (Or.inl ⟨by rfl, fun w' hSw => by obtain ⟨q0, q1, q2, q3, q4, q5⟩ := hSw; go_simp⟩) ?_
                    try simp only [Act.put, List.setIfInBounds_toArray, List.set_cons_zero, List.set_cons_succ]
                    refine takeD 2 104 (I (allR rs9).length) hHeld rfl rfl (by kernel_rfl) (by kernel_rfl) (by kernel_rfl) (Or.inl ⟨by rfl, fun w' hSw => by obtain ⟨q0, q1, q2, q3, q4, q5⟩ := hSw; go_simp⟩) ?_
                    try simp only [Act.put, List.setIfInBounds_toArray, List.set_cons_zero, List.set_cons_succ]
                    refine takeD 3 105 (.bool false) hHeld rfl rfl (by kernel_rfl) (by kernel_rfl) (by kernel_rfl) (Or.inl ⟨by rfl, fun w' hSw => by obtain ⟨q0, q1, q2, q3, q4, q5⟩ := hSw; go_simp⟩) ?_
                    try simp only [Act.put, List.setIfInBounds_toArray, List.set_cons_zero, List.set_cons_succ]
                    refine takeD 4 106 (.bool false) hHeld rfl rfl (by kernel_rfl) (by kernel_rfl) (by kernel_rfl) (Or.inl ⟨by rfl, fun w' hSw => by obtain ⟨q0, q1, q2, q3, q4, q5⟩ := hSw; go_simp⟩) ?_
                    try simp only [Act.put, List.setIfInBounds_toArray, List.set_cons_zero, List.set_cons_succ]
                    refine takeD 5 107 (.agg #[I x1, I x2]) hHeld rfl rfl (by kernel_rfl) (by kernel_rfl) (by kernel_rfl) (Or.inl ⟨by rfl, fun w' hSw => by obtain ⟨q0, q1, q2, q3, q4, q5⟩ := hSw; go_simp⟩) ?_
                    try simp only [Act.put, List.setIfInBounds_toArray, List.set_cons_zero, List.set_cons_succ]
                    refine takeD 6 108 (.slice (some ⟨g, 0, none⟩) (allR rs9).length c8) hHeld rfl rfl (by kernel_rfl) (by kernel_rfl) (by kernel_rfl) (Or.inl ⟨by rfl, fun w' hSw => by obtain ⟨q0, q1, q2, q3, q4, q5⟩ := hSw; go_simp⟩) ?_
                    try simp only [Act.put, List.setIfInBounds_toArray, List.set_cons_zero, List.set_cons_succ]
                    refine takeD 7 109 (I pre.length) hHeld rfl rfl (by kernel_rfl) (by kernel_rfl) (by kernel_rfl) (Or.inl ⟨by rfl, fun w' hSw => by obtain ⟨q0, q1, q2, q3, q4, q5⟩ := hSw; go_simp⟩) ?_
                    try simp only [Act.put, List.setIfInBounds_toArray, List.set_cons_zero, List.set_cons_succ]
                    refine takeD 8 110 (.pointer (some ⟨g, pre.length * 2, none⟩)) hHeld rfl rfl (by kernel_rfl) (by kernel_rfl) (by kernel_rfl) (Or.inl ⟨by rfl, fun w' hSw => by obtain ⟨q0, q1, q2, q3, q4, q5⟩ := hSw; go_simp⟩) ?_
                    try simp only [Act.put, List.setIfInBounds_toArray, List.set_cons_zero, List.set_cons_succ]
                    refine takeD 9 111 (.agg #[I p1, I p2]) hHeld rfl rfl (by kernel_rfl) (by kernel_rfl) (by kernel_rfl) (Or.inl ⟨by rfl, fun w' hSw => by obtain ⟨q0, q1, q2, q3, q4, q5⟩ := hSw; go_simp⟩) ?_
                    try simp only [Act.put, List.setIfInBounds_toArray, List.set_cons_zero, List.set_cons_succ]
                    refine takeD 10 112 (.bool true) hHeld rfl rfl (by kernel_rfl) (by kernel_rfl) (by kernel_rfl) (Or.inl ⟨by rfl, fun w' hSw => by obtain ⟨q0, q1, q2, q3, q4, q5⟩ := hSw; go_simp⟩) ?_
                    try simp only [Act.put, List.setIfInBounds_toArray, List.set_cons_zero, List.set_cons_succ]
                    refine takeD 11 113 (.bool true) hHeld rfl rfl (by kernel_rfl) (by kernel_rfl) (by kernel_rfl) (Or.inl ⟨by rfl, fun w' hSw => by obtain ⟨q0, q1, q2, q3, q4, q5⟩ := hSw; go_simp⟩) ?_
                    try simp only [Act.put, List.setIfInBounds_toArray, List.set_cons_zero, List.set_cons_succ]
                    refine wpAnyH_done (by kernel_rfl) ?_ _
                    refine hK.out _ _ ?_
                    clear hK K hHeld
                    gi_wp2
                    exact ⟨((KeepsOthers.drew Z).trans (KeepsOthers.setCell _ _ _)).from _, rfl, HNX.out⟩
              case done9 =>
                intro D2 xs Y1 hD2 hxs hI hDy
                obtain ⟨hR2, _, hD⟩ := hI
                subst hxs
                subst hA9
                have y13 := hR2.n.cell
                have y11 := (hR2.f.boxed HG9.out.x11 (HG9.out.n _ (by simp))).cell
                have x6 := hR2.f.boxed HG9.out.x6 (HG9.out.n _ (by simp))
                have y6 := x6.cell
                have z6 := x6.frozen
                have hR2' : Hid (RI W9 Y1 Q D X X' Y (c + 1 + 1) (allR rs9).length) := hR2
                have HDD : Hid (Y1.heap[D1]? = some (.deferred (some [])) ∧ Y1.heap[D2]? = some (.deferred (some [])) ∧ Boxed Y1 (W.heap.size + 1) 4 (.bool false)) := ⟨hD, hDy, x6⟩
                clear hR2 hD hDy x6
                go_wp2
                have f6 : Fz (fun b => b = W.heap.size + 1) Y1 (Y1.setCell ⟨W.heap.size + 1, 0, none⟩ (.bool true)) := Fz.set (M := fun b => b = W.heap.size + 1) (Fz.refl (fun b => b = W.heap.size + 1) Y1) (b := W.heap.size + 1) (Or.inl rfl) _ _
                have b9 := HG9.out.b
                have bY := b9.trans (hR2'.out.f.below b9.size (fun b e => (HG9.out.m b e).1))
                have l6 := HG7.out.x6.lt
                have bs7 := HG7.out.b.size
                show LeavesInM Fence.wide 3 _ _ _ _ _ _ _
                exact leave2 (p := 6) rfl rfl (HDD.out.2.2.set _) (f6.heap HDD.out.2.1 (fun e => by omega)) (f6.heap HDD.out.1 (fun e => by omega)) (by omega) (bY.trans (f6.below bY.size (fun b e => by omega))) (by omega) (by omega)
              case stop9 =>
                rintro D2 cc pre Y1 hD2 hpre ⟨rfl, hnp⟩ hDy
                exact absurd hpre hnp
end Go.Proofs.Yticgikbnlpgnkaa
