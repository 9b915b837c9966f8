import Derived.Test.YticgikbnlpgnkaaYh
namespace Go.Proofs.Yticgikbnlpgnkaa
open Go.RowKit Go.Shelf
set_option linter.unusedVariables false
set_option linter.unusedSimpArgs false
attribute [local go_sem] Oper.semAt_some

/-! ### Ranging over a queue -/
theorem qAll_ptr (q : Option Addr) (w : World) : Calls Try.prog 19 #[.pointer q] w fun e w' => e = .returned (.func (.func 39) #[] #[.pointer (some ⟨w.heap.size, 0, none⟩)]) ∧ w' = w.alloc (.cells #[.pointer q] 24) := by
  go_enter Try.func19, Try.ntmps19
  go_wp2
  go_ret
  exact ⟨rfl, rfl⟩
theorem own_sl2 {w : World} {b E k n : Nat} {v : Value} {xs : List Value} (h : w.ownsRow b E k v n xs) : ∃ a c, v = .slice a n c := by
  rcases h.2 with ⟨rfl, rfl⟩ | ⟨g, cap, cur, rfl, _⟩
  · exact ⟨_, _, rfl⟩
  · exact ⟨_, _, rfl⟩
/-- The cells of a row of pairs. -/
theorem own_pairs {w : World} {b E : Nat} {v : Value} {l : List (Int × Int)} (h : w.ownsRow b E 2 v l.length (pairsC l)) (hne : 0 < l.length) : ∃ g c cur, v = .slice (some ⟨g, 0, none⟩) l.length c ∧ b ≤ g ∧ w.heap[g]? = some (.cells cur E) ∧ ∀ (j : Nat) (p x : Int), l[j]? = some (p, x) → cur[j * 2]? = some (I p) ∧ cur[j * 2 + 1]? = some (I x) := by
  rcases h.2 with ⟨h1, h0⟩ | ⟨g, cap, cur, h1, hb, hh, _⟩
  · omega
  · refine ⟨g, cap, cur, h1, hb, hh, fun j p x hj => ?_⟩
    obtain ⟨k1, k2⟩ := pairsC_get hj
    have e1 := h.cells (g := g) (by rw [h1]; rfl) _ _ k1
    have e2 := h.cells (g := g) (by rw [h1]; rfl) _ _ k2
    rw [addr_add, Nat.zero_add, cell_of_row w g _ _ _ (0, 0) hh] at e1 e2
    exact ⟨e1, e2⟩
set_option maxRecDepth 100000 in
set_option maxHeartbeats 4000000 in
theorem qAll1_in (n : Nat) (hn : 1 ≤ n) (l Bn : Nat) (M : World → Nat → Prop) (xs : List (Int × Int)) (u : Value) (J Jx : List (Int × Int) → World → Prop)
    (W : World) (hBn : W.cell? ⟨Bn, 0, none⟩ = some u) (hL : Calls Try.prog 40 #[u] W fun e w' => ∃ v, e = .returned v ∧ w'.ownsRow W.heap.size 35 2 v xs.length (pairsC xs) ∧ Below W.heap.size W w') (hxl : xs.length ≤ 4194304)
    (hMW : ∀ W' b, Below W.heap.size W W' → M W' b → b < W.heap.size) (hMA : ∀ W' o b, W.heap.size ≤ W'.heap.size → M (W'.alloc o) b → M W' b) (hJ : AbidesFrom W.heap.size J)
    (hY : ∀ pre x W, J pre W → pre.length < xs.length → YieldAt Fence.wide (n - 1) Try.prog l #[.agg #[I x.1, I x.2]] W fun e W' =>
      (e = .returned (.bool true) ∧ J (pre ++ [x]) W' ∧ Kq M W W') ∨ (e = .returned (.bool false) ∧ Jx (pre ++ [x]) W'))
    (h0 : J [] W) :
    CallsIn Fence.wide n Try.prog 39 #[.func (.yield l) #[] #[], .pointer (some ⟨Bn, 0, none⟩)] W fun e W' => (∃ v, e = .returned v) ∧
      ((∃ ys, ys = xs ∧ J ys W') ∨ (∃ pre, pre <+: xs ∧ Jx pre W')) := by
  rcases Nat.eq_zero_or_pos xs.length with hz | hpos
  · obtain rfl : xs = [] := List.eq_nil_of_length_eq_zero hz
    have hL2 := hL.mono (R' := fun e w' => ∃ a c, e = .returned (.slice a 0 c) ∧ Hid (J [] w')) (fun e w' ⟨v, k1, k2, k3⟩ => by
      obtain ⟨a, c, rfl⟩ := own_sl2 k2
      exact ⟨a, c, k1, hJ [] W w' none h0 (grown_of_below k3) (fun r e => by cases e)⟩)
    refine callsIn_of_wp Try.func39 rfl trivial ?_ rfl
    simp only [Try.ntmps39, List.size_toArray, List.length_cons, List.length_nil, Nat.reduceAdd, Nat.reduceSub, Array.replicate_succ, Array.replicate_zero, List.push_toArray, List.append_toArray, List.nil_append, List.cons_append]
    gi_wp2_with (first
      | (refine ⟨trivial, ?_⟩; gi_at_call 40; refine (callsIn_wide.2 hL2).mono ?_; rintro e w1 ⟨a, c, rfl, HJ⟩))
    gi_loopw [8] (fun i wr => i = .int .i64 0 ∧ Hid (J [] wr)) (fun _ _ => 0)
    case atStart => exact ⟨rfl, HJ⟩
    case round =>
      obtain ⟨rfl, HJ2⟩ := hrel
      gi_wp2
      go_end0
      exact ⟨⟨_, rfl⟩, .inl (by simpa using HJ2.out)⟩
  · have hL2 := hL.mono (R' := fun e w' => ∃ X c cur, e = .returned (.slice (some ⟨X, 0, none⟩) xs.length c) ∧ Hid (J [] w' ∧ w'.heap[X]? = some (.cells cur 35) ∧ ¬ M w' X ∧ W.heap.size ≤ w'.heap.size) ∧ Hid (∀ (j : Nat) (p x : Int), xs[j]? = some (p, x) → cur[j * 2]? = some (I p) ∧ cur[j * 2 + 1]? = some (I x))) (fun e w' ⟨v, k1, k2, k3⟩ => by
      obtain ⟨X, c, cur, rfl, k4, k5, k6⟩ := own_pairs k2 hpos
      refine ⟨X, c, cur, k1, ⟨hJ [] W w' none h0 (grown_of_below k3) (fun r e => by cases e), k5, fun e => ?_, k3.size⟩, k6⟩
      have := hMW w' X k3 e
      omega)
    clear hL
    refine callsIn_of_wp Try.func39 rfl trivial ?_ rfl
    simp only [Try.ntmps39, List.size_toArray, List.length_cons, List.length_nil, Nat.reduceAdd, Nat.reduceSub, Array.replicate_succ, Array.replicate_zero, List.push_toArray, List.append_toArray, List.nil_append, List.cons_append]
    gi_wp2_with (first
      | (refine ⟨trivial, ?_⟩; gi_at_call 40; refine (callsIn_wide.2 hL2).mono ?_; rintro e w1 ⟨X, c, cur, rfl, HR, HC⟩; clear hL2))
    gi_loopw [8] (fun i wr => ∃ k : Nat, k ≤ xs.length ∧ i = .int .i64 k ∧ Hid (J (xs.take k) wr ∧ wr.heap[X]? = some (.cells cur 35) ∧ ¬ M wr X ∧ W.heap.size ≤ wr.heap.size))
      (fun i _ => xs.length - (intOf i).toNat)
    case atStart => exact ⟨0, Nat.zero_le _, rfl, HR.out⟩
    case round =>
      clear HR
      obtain ⟨k, hk, rfl, HJ⟩ := hrel
      obtain ⟨hJs, hcu, hMx, hsz⟩ := HJ.out
      by_cases hlt : k < xs.length
      · obtain ⟨⟨p, x⟩, hx⟩ : ∃ x, xs[k]? = some x := ⟨_, List.getElem?_eq_getElem hlt⟩
        have hltI : (k : Int) < xs.length := by omega
        have hk0 : ¬ (k : Int) < 0 := by omega
        obtain ⟨cc1, cc2⟩ := HC.out k p x hx
        have x0 : wr.cell? ⟨X, k * 2, none⟩ = some (I p) := by rw [cell_of_row wr X _ _ _ (0, 0) hcu]; exact cc1
        have x1 : wr.cell? ⟨X, k * 2 + 1, none⟩ = some (I x) := by rw [cell_of_row wr X _ _ _ (0, 0) hcu]; exact cc2
        have hst := run_storeCells_new (P := Try.prog) wr 35 #[.int .i64 0, .int .i64 0] #[I p, I x] (by kernel_rfl) rfl (by simp [Value.oneCell'])
        obtain ⟨fn, tmps, assign, body, hy, hRR⟩ := hY (xs.take k) (p, x) (wr.alloc (.cells #[I p, I x] 35)) (hJ _ wr _ none hJs (World.grownBy_alloc _ _ _) (fun r e => by cases e)) (by simp; omega)
        dsimp only at hy
        have hcu2 : (wr.alloc (.cells #[I p, I x] 35)).heap[X]? = some (.cells cur 35) := heap_over _ _ hcu
        have hMx2 : ¬ M (wr.alloc (.cells #[I p, I x] 35)) X := fun e => hMx (hMA wr _ X hsz e)
        have HT : Hid (xs.take (k + 1) = xs.take k ++ [(p, x)]) := by
          show _ = _
          rw [List.take_add_one, hx]; rfl
        clear HJ hx cc1 cc2 hMx hJs hcu
        gi_wp2
        refine hRR.mono ?_
        rintro e W3 (⟨rfl, hJ3, hk3⟩ | ⟨rfl, hJx3⟩)
        · have H9 : Hid (J (xs.take (k + 1)) W3 ∧ W3.heap[X]? = some (.cells cur 35) ∧ ¬ M W3 X ∧ W.heap.size ≤ W3.heap.size) := by
            rw [HT.out]
            obtain ⟨m1, m2⟩ := hk3.same X _ _ hMx2 hcu2
            exact ⟨hJ3, m1, m2, by have := hk3.size; simp at this; omega⟩
          clear hJ3 hk3 hcu2 hMx2 x0 x1 HT hst
          gi_wp2
          go_roundw
          case rel => exact ⟨k + 1, by omega, by go_num, H9.out⟩
          case measure => simp [intOf]; omega
        · gi_wp2
          refine bodyPost_ret (results_none rfl _ _ _) rfl ?_
          exact ⟨⟨_, rfl⟩, .inr ⟨_, ⟨xs.drop (k + 1), by rw [← HT.out]; exact List.take_append_drop _ _⟩, hJx3⟩⟩
      · obtain rfl : k = xs.length := by omega
        have hge : ¬ ((xs.length : Int) < xs.length) := by omega
        gi_wp2
        go_end0
        rw [List.take_length] at hJs
        exact ⟨⟨_, rfl⟩, .inl (by simpa using hJs)⟩
theorem qAll_stops (n : Nat) (hn : 1 ≤ n) (Bn : Nat) (M : World → Nat → Prop) (xs : List (Int × Int)) (u : Value) (w : World) (hBl : Bn < w.heap.size) (hBn : w.cell? ⟨Bn, 0, none⟩ = some u) (hL : ∀ W, Below w.heap.size w W → Calls Try.prog 40 #[u] W fun e w' => ∃ v, e = .returned v ∧ w'.ownsRow W.heap.size 35 2 v xs.length (pairsC xs) ∧ Below W.heap.size W w') (hxl : xs.length ≤ 4194304)
    (hMW : ∀ W' b, Below w.heap.size w W' → M W' b → b < w.heap.size) (hMA : ∀ W' o b, w.heap.size ≤ W'.heap.size → M (W'.alloc o) b → M W' b) :
    SeqStopsK Fence.wide n Try.prog 39 #[.pointer (some ⟨Bn, 0, none⟩)] (fun x : Int × Int => #[Value.agg #[I x.1, I x.2]]) (Kq M) (fun ys => ys = xs) (fun pre => pre <+: xs) xs.length w := fun l J Jx W hW hJ _ hY h0 =>
  qAll1_in n hn l Bn M xs u J Jx W ((hW.cell (p := ⟨Bn, 0, none⟩) hBl).trans hBn) (hL W hW) hxl (fun W' b hb hm => Nat.lt_of_lt_of_le (hMW W' b (hW.trans (hb.mono hW.size)) hm) hW.size) (fun W' o b hs hm => hMA W' o b (Nat.le_trans hW.size hs) hm) hJ hY h0
end Go.Proofs.Yticgikbnlpgnkaa
