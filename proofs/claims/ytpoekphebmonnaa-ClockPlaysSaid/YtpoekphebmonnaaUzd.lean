import Derived.Test.YtpoekphebmonnaaUzb
namespace Go.Proofs.Ytpoekphebmonnaa
open Go.RowKit Go.Shelf Go.Sort
set_option linter.unusedVariables false
set_option linter.unusedSimpArgs false

/-! ### ClockPlays -/
theorem ctr_four (W : World) (s : ByteArray) (mx bs mn : Nat) (Z : World) (hZ : Below (W.alloc (.cells #[.string s, U mx, U bs, U mn] 30)).heap.size (W.alloc (.cells #[.string s, U mx, U bs, U mn] 30)) Z) : Z.cell? ⟨W.heap.size, 0, none⟩ = some (.string s) ∧ Z.cell? ⟨W.heap.size, 1, none⟩ = some (U mx) ∧ Z.cell? ⟨W.heap.size, 2, none⟩ = some (U bs) ∧ Z.cell? ⟨W.heap.size, 3, none⟩ = some (U mn) := by
  have hq := (hZ.block W.heap.size (by simp)).trans (heap_alloc_new W (.cells #[.string s, U mx, U bs, U mn] 30))
  refine ⟨?_, ?_, ?_, ?_⟩ <;> (rw [cell_of_row _ _ _ _ _ (0, 0) hq]; rfl)
theorem Pd.mk0 {W w1 w2 w3 : World} {B D n mx bs mn : Nat} {v u : Value} {s : ByteArray} (hb1 : Below W.heap.size W w1) (k2 : Ck w2 B v mx mn 0 (List.replicate n (0, 0))) (o2 : ∀ b, Cb B v b → w1.heap.size < b) (b2 : Below w1.heap.size w1 w2) (k3 : Dk w3 D u s mx bs mn 0 (List.replicate n (0, 0))) (o3 : ∀ b, Cb D u b → w2.heap.size < b) (b3 : Below w2.heap.size w2 w3) : Pd W w3 B v D u s mx bs mn 0 (List.replicate n (0, 0)) 0 (List.replicate n (0, 0)) := by
  have s1 := hb1.size
  have s2 := b2.size
  exact ⟨k2.below b3, k3, hb1.trans ((b2.mono s1).trans (b3.mono (Nat.le_trans s1 s2))), fun b hb => ⟨by have := o2 b hb; omega, fun e => by have := o3 b e; have := k2.lt hb; omega⟩, fun b hb => by have := o3 b hb; omega⟩
structure Tri (W w : World) (B : Nat) (v : Value) (D : Nat) (u : Value) (s : ByteArray) (G bs L V : Nat) (al : List Alm) (V2 : Nat) (al2 : List Alm) (B2 : Nat) (v2 : Value) : Prop where
  p : Pd W w B v D u s G bs L V al V2 al2
  c : Ck w B2 v2 G L V2 al2
  o : ∀ b, Cb B2 v2 b → W.heap.size ≤ b ∧ ¬ Cb B v b ∧ ¬ Cb D u b
section
variable {W w : World} {B D G bs L V V2 B2 : Nat} {v u v2 : Value} {s : ByteArray} {al al2 : List Alm}
theorem tCopy (h : Pd W w B v D u s G bs L V al V al) : Calls Try.prog 28 #[cP B] w fun e w' => ∃ B2 v2, e = .returned (cP B2) ∧ Tri W w' B v D u s G bs L V al V al B2 v2 := by
  refine (Copy_any h.c).mono ?_
  rintro e w' ⟨B2, v2, rfl, k, o, b⟩
  have hW := h.b.size
  exact ⟨B2, v2, rfl, h.below b, k, fun x hx => ⟨by have := o x hx; omega, fun e => by have := o x hx; have := h.c.lt e; omega, fun e => by have := o x hx; have := h.d.lt e; omega⟩⟩
theorem tTick (h : Tri W w B v D u s G bs L V al V2 al2 B2 v2) : Calls Try.prog 15 #[cP B] w fun e w' => (∃ x, e = .returned x) ∧ ∃ V' al', Tri W w' B v D u s G bs L V' al' V2 al2 B2 v2 := by
  refine (Tick_any h.p.c).mono ?_
  rintro e w' ⟨x, rfl, -, k, f⟩
  exact ⟨⟨x, rfl⟩, _, _, (h.p.cst k f).1, h.c.keptZ f (fun b hb e => (h.o b hb).2.1 e), h.o⟩
theorem tReset (h : Tri W w B v D u s G bs L V al V2 al2 B2 v2) : Calls Try.prog 27 #[cP B] w fun e w' => e = .returned (.tuple #[]) ∧ ∃ V' al', Tri W w' B v D u s G bs L V' al' V2 al2 B2 v2 := by
  refine (Reset_any h.p.c).mono ?_
  rintro e w' ⟨rfl, k, f⟩
  exact ⟨rfl, _, _, (h.p.cst k f).1, h.c.keptZ f (fun b hb e => (h.o b hb).2.1 e), h.o⟩
theorem tDoc (h : Tri W w B v D u s G bs L V al V2 al2 B2 v2) : Calls Try.prog 30 #[cP D] w fun e w' => ∃ D2 u2, e = .returned (cP D2) ∧ Pd W w' B2 v2 D2 u2 s G bs L V2 al2 V2 al2 := by
  refine (dCopy_any h.p.d).mono ?_
  rintro e w' ⟨D2, u2, rfl, k, o, b⟩
  have hW := h.p.b.size
  exact ⟨D2, u2, rfl, h.c.below b, k, h.p.b.trans (b.mono hW), fun x hx => ⟨(h.o x hx).1, fun e => by have := o x e; have := h.c.lt hx; omega⟩, fun x hx => by have := o x hx; omega⟩
end
set_option maxHeartbeats 8000000 in
set_option maxRecDepth 100000 in
theorem plays_no (W : World) (s : ByteArray) (mx bs mn : Nat) (n : Int) (x : Value) (hn : newB mx mn n = false) : Calls Try.prog 8 #[.agg #[.string s, U mx, U bs, U mn], I n, x] W fun e w' => e = .returned (.bool true) ∧ Below W.heap.size W w' := by
  have h1 := fun w => New_no w s mx bs mn n hn
  have h2 := fun w => dNew_no w s mx bs mn n hn
  have HC : Hid (∀ Z, Below (W.alloc (.cells #[.string s, U mx, U bs, U mn] 30)).heap.size (W.alloc (.cells #[.string s, U mx, U bs, U mn] 30)) Z → _) := ctr_four W s mx bs mn
  have HB : Hid (Below W.heap.size W (W.alloc (.cells #[.string s, U mx, U bs, U mn] 30))) := below_alloc _ _
  clear hn
  go_enter Try.func8, Try.ntmps8
  go_wp2_with (first
    | (go_at_call 13; refine (h1 _).mono ?_; clear h1; rintro e w1 ⟨rfl, b1⟩; obtain ⟨q0, q1, q2, q3⟩ := HC.out w1 b1; have HB1 : Hid (Below W.heap.size W w1) := HB.out.trans (b1.mono HB.out.size); clear b1)
    | (go_at_call 29; refine (h2 _).mono ?_; clear h2; rintro e w2 ⟨D, rfl, cD, -, b2⟩; have HB2 : Hid (Below W.heap.size W w2) := HB1.out.trans (b2.mono HB1.out.size); clear b2)
    | (go_at_call 14; refine (num_any _ _).mono ?_; rintro e w9 ⟨rfl, rfl⟩)
    | (go_at_call 9; refine (alive_any _).mono ?_; rintro e w7 ⟨rfl, b7⟩))
  go_ret
  exact ⟨rfl, HB2.out.trans (b7.mono HB2.out.size)⟩
set_option maxHeartbeats 16000000 in
set_option maxRecDepth 100000 in
theorem plays_ok (W : World) (s : ByteArray) (mx bs mn n : Nat) (ss : Sl) (l : List Cl) (hl : RowsAt W 4 actP ss l) (hll : l.length ≤ 5864062014805) (hn : newB mx mn n = true) : Calls Try.prog 8 #[.agg #[.string s, U mx, U bs, U mn], I n, .slice ss.a ss.n ss.c] W fun e w' => e = .returned (.bool true) ∧ Below W.heap.size W w' := by
  obtain ⟨a1, n1, c1⟩ := ss
  have hn1 := hl.n
  simp only at hn1
  subst hn1
  have h1 := fun w => New_ok w s mx bs mn n hn
  have h2 := fun w => dNew_ok w s mx bs mn n hn
  have HC : Hid (∀ Z, Below (W.alloc (.cells #[.string s, U mx, U bs, U mn] 30)).heap.size (W.alloc (.cells #[.string s, U mx, U bs, U mn] 30)) Z → _) := ctr_four W s mx bs mn
  have HB : Hid (Below W.heap.size W (W.alloc (.cells #[.string s, U mx, U bs, U mn] 30))) := below_alloc _ _
  clear hn
  go_enter Try.func8, Try.ntmps8
  go_upto_region 7 with (first
    | (go_at_call 13; refine (h1 _).mono ?_; clear h1; rintro e w1 ⟨B, v, rfl, k1, o1, b1⟩; obtain ⟨q0, q1, q2, q3⟩ := HC.out w1 b1; have HK1 : Hid (Ck w1 B v mx mn 0 (List.replicate n (0, 0)) ∧ (∀ b, Cb B v b → (W.alloc (.cells #[.string s, U mx, U bs, U mn] 30)).heap.size < b) ∧ Below (W.alloc (.cells #[.string s, U mx, U bs, U mn] 30)).heap.size (W.alloc (.cells #[.string s, U mx, U bs, U mn] 30)) w1) := ⟨k1, o1, b1⟩; clear k1 o1 b1)
    | (go_at_call 29; refine (h2 _).mono ?_; clear h2; rintro e w2 ⟨D, u, rfl, k2, o2, b2⟩; have cD := k2.cells.1; have HP : Hid (Pd W w2 B v D u s mx bs mn 0 (List.replicate n (0, 0)) 0 (List.replicate n (0, 0))) := Pd.mk0 HB.out HK1.out.1 HK1.out.2.1 HK1.out.2.2 k2 o2 b2; clear k2 o2 b2)
    | (go_at_call 14; refine (num_any _ _).mono ?_; rintro e w9 ⟨rfl, rfl⟩))
  clear HC HB HK1 q0 q1 q2 q3 cD
  generalize List.replicate n ((0, 0) : Alm) = al0 at *
  go_wp2
  go_loopw [7, 9, 11, 12] (fun v7 v9 v11 _ wr => ∃ (i B D V : Nat) (v u : Value) (al : List Alm), i ≤ l.length ∧ v7 = cP B ∧ v9 = cP D ∧ v11 = I i ∧ Hid (Pd W wr B v D u s mx bs mn V al V al)) (fun _ _ v11 _ _ => l.length - (intOf v11).toNat)
  case atStart => exact ⟨0, B, D, 0, v, u, al0, by omega, rfl, rfl, rfl, HP.out⟩
  case round =>
    clear HP
    obtain ⟨i, B, D, V, v, u, al, hi, rfl, rfl, rfl, HJ⟩ := hrel
    by_cases hlt : i < l.length
    · have hltI : (i : Int) < l.length := by omega
      obtain ⟨⟨kd, tk, x, y⟩, hx⟩ : ∃ x, l[i]? = some x := ⟨_, List.getElem?_eq_getElem hlt⟩
      obtain ⟨ga, off, rfl, bx, by', hcx⟩ := acts_cell hl hx
      obtain ⟨x0, x1, x2, x3⟩ := hcx wr HJ.out.b
      have HX : Hid (∀ Z, Below W.heap.size W Z → Z.cell? ⟨ga, off + i * 4, none⟩ = some (I kd) ∧ Z.cell? ⟨ga, off + i * 4 + 1, none⟩ = some (I tk) ∧ Z.cell? ⟨ga, off + i * 4 + 2, none⟩ = some (U x) ∧ Z.cell? ⟨ga, off + i * 4 + 3, none⟩ = some (U y)) := hcx
      clear hcx hx
      go_upto_if 55 with (first | fail)
      go_cut [7, 9, 12] from 44 to 80 (fun s7 s9 _ wx => ∃ (B D V : Nat) (v u : Value) (al : List Alm), s7 = cP B ∧ s9 = cP D ∧ Hid (Pd W wx B v D u s mx bs mn V al V al))
      case first =>
        by_cases k8 : kd = 8
        · subst k8
          as_aux_lemma =>
            go_wp2_with (first
              | (go_at_call 28; refine (tCopy HJ.out).mono ?_; rintro e w1 ⟨B2, v2, rfl, T1⟩; have HT1 : Hid (Tri W w1 B v D u s mx bs mn V al V al B2 v2) := T1; clear T1)
              | (go_at_call 15; refine (tTick HT1.out).mono ?_; rintro e w2 ⟨⟨xx, rfl⟩, V2, al2, T2⟩; have HT2 : Hid (Tri W w2 B v D u s mx bs mn V2 al2 V al B2 v2) := T2; clear T2)
              | (go_at_call 27; refine (tReset HT2.out).mono ?_; rintro e w3 ⟨rfl, V3, al3, T3⟩; have HT3 : Hid (Tri W w3 B v D u s mx bs mn V3 al3 V al B2 v2) := T3; clear T3)
              | (go_at_call 30; refine (tDoc HT3.out).mono ?_; rintro e w4 ⟨D2, u2, rfl, P4⟩; have HP4 : Hid (Pd W w4 B2 v2 D2 u2 s mx bs mn V al V al) := P4; clear P4))
            go_meet
            case rel => exact ⟨B2, D2, V, v2, u2, al, rfl, rfl, HP4.out⟩
        · have k8b : (kd == 8) = false := beq_eq_false_iff_ne.2 k8
          go_wp2
          go_meet
          case rel => exact ⟨B, D, V, v, u, al, rfl, rfl, HJ.out⟩
      obtain ⟨B, D, V, v, u, al, rfl, rfl, HP⟩ := hcut
      clear HJ x0 x1 x2 x3
      obtain ⟨x0, x1, x2, x3⟩ := HX.out wc HP.out.b
      as_aux_lemma =>
        go_wp2_with (first
          | (go_at_call 31; refine (play_any HP.out kd tk x y bx).mono ?_; rintro e w1 ⟨rfl, ⟨u', ⟨V', al', P1⟩, -⟩, -⟩; have HP1 : Hid (Pd W w1 B v D u' s mx bs mn V' al' V' al') := P1; clear P1)
          | (go_at_call 32; refine (told_any HP1.out).mono ?_; rintro e w2 ⟨rfl, b2⟩; have HP2 : Hid (Pd W w2 B v D u' s mx bs mn V' al' V' al') := HP1.out.below b2; clear b2))
        go_roundw
        case rel => exact ⟨i + 1, B, D, V', v, u', al', by omega, rfl, rfl, by go_num, HP2.out⟩
        case measure => simp [intOf]; omega
    · obtain rfl : i = l.length := by omega
      have hge : ¬ ((l.length : Int) < l.length) := by omega
      go_wp2_with (first
        | (go_at_call 32; refine (told_any HJ.out).mono ?_; rintro e w2 ⟨rfl, b2⟩; have HB9 : Hid (Below W.heap.size W w2) := (HJ.out.below b2).b; clear b2)
        | (go_at_call 9; refine (alive_any _).mono ?_; rintro e w7 ⟨rfl, b7⟩))
      go_ret
      exact ⟨rfl, HB9.out.trans (b7.mono HB9.out.size)⟩
theorem plays_law (W : World) (s : ByteArray) (mx bs mn : Nat) (h1 : mx < 4294967296) (h2 : bs < 4294967296) (h3 : mn < 4294967296) (n : Int) (ss : Sl) (l : List Cl) (hl : RowsAt W 4 actP ss l) (hll : l.length ≤ 5864062014805) : Calls Try.prog 8 #[.agg #[.string s, U mx, U bs, U mn], I n, .slice ss.a ss.n ss.c] W fun e w' => e = .returned (.bool true) ∧ Below W.heap.size W w' := by
  cases hn : newB mx mn n with
  | false => exact plays_no W s mx bs mn n _ hn
  | true =>
    obtain ⟨k, rfl⟩ := Int.eq_ofNat_of_zero_le (show 0 ≤ n by unfold newB at hn; simp at hn; omega)
    exact plays_ok W s mx bs mn k ss l hl hll hn
end Go.Proofs.Ytpoekphebmonnaa
