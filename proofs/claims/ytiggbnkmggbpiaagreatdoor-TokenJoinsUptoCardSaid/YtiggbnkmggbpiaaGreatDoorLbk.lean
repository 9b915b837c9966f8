import Derived.Test.YtiggbnkmggbpiaaGreatDoorAlk
namespace Go.Proofs.YtiggbnkmggbpiaaGreatDoor
open Go.RowKit
set_option linter.unusedVariables false

theorem num_b (z : Int) (w : World) : Calls Tryz.prog 11 #[.int .i64 z] w fun e w' => e = .returned (.int .i64 z) ∧ w = w' := by
  go_enter Tryz.func11, Tryz.ntmps11
  go_wp2
  go_ret
  exact ⟨rfl, rfl⟩
theorem good_len {t : List UInt8} {off : Nat} {ts : List (Tk × Nat)} (h : Good t off ts) : ts.length + off ≤ t.length + 1 := by
  induction h with
  | @fin off ho h1 h2 => simp; omega
  | @more off len o k ts ho h1 h2 h3 h4 h5 h6 hg ih => simp; omega
theorem jnV_shape (zs : List Tz) : (∃ b, joinF true zs = some b ∧ jnV zs = .tuple #[.string ⟨b.toArray⟩, .int .i64 0]) ∨ (joinF true zs = none ∧ jnV zs = .tuple #[.string ⟨#[]⟩, .int .i64 20]) := by
  unfold jnV
  cases joinF true zs with
  | none => right; exact ⟨rfl, rfl⟩
  | some b => left; exact ⟨b, rfl, rfl⟩
theorem join_all {zs : List Tz} {first : Bool} {b : List UInt8} (h : joinF first zs = some b) : ∀ x ∈ zs, ∃ c, spz x = some c := by
  induction zs generalizing first b with
  | nil => intro x hx; cases hx
  | cons y r ih =>
    rw [joinF] at h
    split at h
    · cases h
    · cases hs : spz y with
      | none => rw [hs] at h; cases h
      | some a =>
        rw [hs] at h
        simp only at h
        cases hj : joinF false r with
        | none => rw [hj] at h; cases h
        | some c =>
          intro x hx
          rcases List.mem_cons.1 hx with rfl | hx
          · exact ⟨a, hs⟩
          · exact ih hj x hx
theorem spz_kind {x : Tz} {b : List UInt8} (h : spz x = some b) : 0 ≤ x.kind := by
  unfold spz at h
  split at h
  · omega
  · split at h
    · omega
    · split at h
      · omega
      · split at h
        · omega
        · split at h
          · omega
          · cases h
theorem back_z {t : List UInt8} {zs : List Tz} {ts : List (Tk × Nat)} (hk : ∀ x ∈ zs, 0 ≤ x.kind) (h : ts.map (·.1) = realZ zs ++ [endK]) : (ts.map (tpOf t)).map (·.z) = (zs.filter fun x => decide (x.kind ≠ 0)) ++ [⟨0, [], 0, false⟩] := by
  have e : (ts.map (tpOf t)).map (·.z) = (ts.map (·.1)).map (fun k => (⟨(k.kind : Int), k.text, k.val, k.hex⟩ : Tz)) := by
    rw [List.map_map, List.map_map]; rfl
  rw [e, h, List.map_append]
  congr 1
  unfold realZ
  rw [List.map_map]
  have : ∀ l : List Tz, (∀ x ∈ l, 0 ≤ x.kind) → l.map ((fun k => (⟨(k.kind : Int), k.text, k.val, k.hex⟩ : Tz)) ∘ tkOf) = l := by
    intro l hl
    induction l with
    | nil => rfl
    | cons x r ih =>
      rw [List.map_cons, ih (fun y hy => hl y (by simp [hy]))]
      congr 1
      obtain ⟨k, t, v, hx⟩ := x
      have := hl _ (List.mem_cons_self ..)
      simp only at this
      simp [tkOf, Int.toNat_of_nonneg this]
  exact this _ (fun x hx => hk x (List.mem_filter.1 hx).1)
theorem rowT_some {w : World} {a : Option Addr} {n cap : Nat} {xs : List Tp} (h : RowT w (.slice a n cap) xs) {j : Nat} {x : Tp} (hx : xs[j]? = some x) : ∃ g off, a = some ⟨g, off, none⟩ ∧ g < w.heap.size ∧ ∀ j u, (tpsL xs)[j]? = some u → w.cell? ⟨g, off + j, none⟩ = some u := by
  generalize hv : Value.slice a n cap = v at h
  cases h with
  | nil => simp at hx
  | some hg hc h1 => cases hv; exact ⟨_, _, rfl, hg, hc⟩
theorem one7z (k a b c v : Int) (t : ByteArray) (h : Bool) : ∀ u ∈ [Value.int .i64 k, .int .i64 a, .int .i64 b, .int .i64 c, .string t, .int .u32 v, .bool h], u.oneCell' = true := one7 k a b c v t h
theorem tps_snoc (xs : List Tp) (x : Tp) : tpsL (xs ++ [x]) = tpsL xs ++ tpL x := by simp [tpsL]
/-- What is kept of the tokens. -/
def keepZ (xs : List Tp) : List Tp := xs.filter fun x => decide (x.z.kind ≠ 0)
set_option maxHeartbeats 4000000 in
set_option maxRecDepth 100000 in
theorem back_any (B0 : Nat) (p : Nat → Addr) (v : Value) (xs : List Tp) (w : World) (hE : Env B0 p w) (hF : EnvF B0 p w) (hT : EnvT w) (hR : RowT w v xs) (hx : ∀ x ∈ xs, TzOk x.z) (hn : xs.length < 16777216) :
    Calls Tryz.prog 5 #[v] w fun e w' => e = .returned (.bool true) ∧ Below w.heap.size w w' := by
  have c1 := Join_any B0 p v xs w hE hT hR hx (by omega)
  have cal : ∀ W, Below w.heap.size w W → Calls Tryz.prog 12 #[] W fun e w' => e = .returned (.bool true) ∧ Below W.heap.size W w' := fun W hb => alive_any B0 p W (hE.below (hb.mono hE.size)) (hF.below hE (hb.mono hE.size)) (hT.below hb)
  obtain ⟨a, n, cap, hv⟩ : ∃ a n cap, v = .slice a n cap := by
    cases hR with
    | nil => exact ⟨_, _, _, rfl⟩
    | some _ _ _ => exact ⟨_, _, _, rfl⟩
  rcases jnV_shape (xs.map (·.z)) with ⟨b, hj, hjv⟩ | ⟨hj, hjv⟩
  · rw [hjv] at c1
    have hbs : (⟨b.toArray⟩ : ByteArray).size = b.length := by show b.toArray.size = _; rw [List.size_toArray]
    by_cases hbig : 262144 < b.length
    · have hbig' : (262144 : Int) < b.length := by omega
      subst hv
      clear hj hjv hR hx
      go_enter Tryz.func5, Tryz.ntmps5
      go_wp2_with (first
        | (go_at_call 14; refine c1.mono ?_; rintro e w1 ⟨rfl, hb1⟩)
        | (go_at_call 11; refine (num_b _ _).mono ?_; rintro e w3 ⟨rfl, rfl⟩)
        | (go_at_call 12; refine (cal _ hb1).mono ?_; rintro e w9 ⟨rfl, hb9⟩))
      go_ret
      exact ⟨rfl, hb1.trans (hb9.mono hb1.size)⟩
    · have hbig' : ¬ (262144 : Int) < b.length := by omega
      obtain ⟨ts, hsc, hts⟩ := join_back (xs.map (·.z)) (fun x hx2 => by
        obtain ⟨y, hy, rfl⟩ := List.mem_map.1 hx2
        have := (hx y hy).1
        omega) b hj (by omega)
      have hz := back_z (t := b) (fun x hx2 => by obtain ⟨c, hc⟩ := join_all hj x hx2; exact spz_kind hc) hts
      have hG := (scanA_good hsc).1
      clear hts
      subst hv
      go_enter Tryz.func5, Tryz.ntmps5
      go_wp2_with (first
        | (go_at_call 14; refine c1.mono ?_; rintro e w1 ⟨rfl, hb1⟩)
        | (go_at_call 11; refine (num_b _ _).mono ?_; rintro e w3 ⟨rfl, rfl⟩))
      have c2 := Scan_any B0 p ⟨b.toArray⟩ w1 (hE.below (hb1.mono hE.size)) (hF.below hE (hb1.mono hE.size)) (by rw [hbs]; omega)
      rw [show (⟨b.toArray⟩ : ByteArray).data.toList = b from by simp, hsc] at c2
      refine c2.mono ?_
      rintro e w2 ⟨v2, rfl, hO, hb2⟩
      rw [tks_tps] at hO
      have hRm := row_own hO (by simp)
      obtain ⟨g, gcap, hv2⟩ : ∃ g cap, v2 = .slice (some ⟨g, 0, none⟩) ts.length cap := by
        rcases hO.2 with ⟨_, h0⟩ | ⟨g, cap, cur, hv, _⟩
        · exact absurd (List.eq_nil_of_length_eq_zero h0) hG.ne
        · exact ⟨g, cap, hv⟩
      subst hv2
      unfold zero5
      clear c1 c2 hO
      have hba := (hb1.trans (hb2.mono hb1.size)).alloc (hb1.trans (hb2.mono hb1.size)).size (.cells #[.int .i64 0, .int .i64 0, .int .i64 0, .int .i64 0, .string ⟨#[]⟩] 27)
      have hbx : Below w2.heap.size w2 (w2.alloc (.cells #[.int .i64 0, .int .i64 0, .int .i64 0, .int .i64 0, .string ⟨#[]⟩] 27)) := (Below.refl _ _).alloc (Nat.le_refl _) _
      have hRm2 := rowT_below hRm hbx
      go_wp2_with fail
      generalize (w2.alloc (.cells #[.int .i64 0, .int .i64 0, .int .i64 0, .int .i64 0, .string ⟨#[]⟩] 27)) = wa at *
      have hRa := rowT_below hR hba
      have hnx : n = xs.length := by cases hR with | nil => rfl | some _ _ _ => rfl
      have HZ : Hid ((ts.map (tpOf b)).map (·.z) = ((xs.map (·.z)).filter fun x => decide (x.kind ≠ 0)) ++ [⟨0, [], 0, false⟩]) := hz
      have HNX : Hid (n = xs.length) := hnx
      have hnb : n < 16777216 := by omega
      obtain ⟨i0, hi, hz0, hz1, hz2⟩ := info_parts Tryz.info36
      clear hz hnx hR hRm hbx hsc hj hjv hx
      go_loopw [7, 8] (fun v i wr => ∃ j : Nat, j ≤ n ∧ i = .int .i64 j ∧ wr.ownsRow wa.heap.size 36 7 v (keepZ (xs.take j)).length (tpsL (keepZ (xs.take j))) ∧ Below wa.heap.size wa wr) (fun _ i _ => n - (intOf i).toNat)
      case atStart => exact ⟨0, by omega, rfl, World.ownsRow_nil _ _ _ _, Below.refl _ _⟩
      case round =>
        obtain ⟨j, hj, rfl, hO, hb⟩ := hrel
        obtain ⟨av, cv, rfl⟩ := own_shape7 hO
        have hkl : (keepZ (xs.take j)).length ≤ 16777216 := by
          have h1 : (keepZ (xs.take j)).length ≤ (xs.take j).length := List.length_filter_le _ _
          rw [List.length_take] at h1
          omega
        by_cases hlt : j < n
        · have hlt' : (j : Int) < n := by omega
          obtain ⟨x, hxj⟩ : ∃ x, xs[j]? = some x := ⟨xs[j]'(by rw [← HNX.out]; exact hlt), List.getElem?_eq_getElem _⟩
          have htk : xs.take (j + 1) = xs.take j ++ [x] := by rw [List.take_add_one, hxj]; rfl
          obtain ⟨g0, off, rfl, hg0, hc0⟩ := rowT_some hRa hxj
          · clear hRa
            have hc : ∀ i, i < 7 → ∀ u, (tpL x)[i]? = some u → wr.cell? ⟨g0, off + (j * 7 + i), none⟩ = some u := fun i hi u hu => by
              rw [cell_below hb _ _ hg0]
              exact hc0 _ _ (by rw [tps_at xs j x hxj i hi]; exact hu)
            obtain ⟨⟨kind, text, val, hex⟩, xo, xl, xc⟩ := x
            have x0 : wr.cell? ⟨g0, off + j * 7, none⟩ = some (.int .i64 kind) := hc 0 (by omega) _ rfl
            have x1 : wr.cell? ⟨g0, off + j * 7 + 1, none⟩ = some (.int .i64 xo) := hc 1 (by omega) _ rfl
            have x2 : wr.cell? ⟨g0, off + j * 7 + 2, none⟩ = some (.int .i64 xl) := hc 2 (by omega) _ rfl
            have x3 : wr.cell? ⟨g0, off + j * 7 + 3, none⟩ = some (.int .i64 xc) := hc 3 (by omega) _ rfl
            have x4 : wr.cell? ⟨g0, off + j * 7 + 4, none⟩ = some (.string ⟨text.toArray⟩) := hc 4 (by omega) _ rfl
            have x5 : wr.cell? ⟨g0, off + j * 7 + 5, none⟩ = some (.int .u32 (val : Int)) := hc 5 (by omega) _ rfl
            have x6 : wr.cell? ⟨g0, off + j * 7 + 6, none⟩ = some (.bool hex) := hc 6 (by omega) _ rfl
            have HTK : Hid (xs.take (j + 1) = xs.take j ++ [⟨⟨kind, text, val, hex⟩, xo, xl, xc⟩]) := htk
            have hsz := hb.size
            clear hc hc0 htk hxj
            by_cases hk : kind = 0
            · subst hk
              have HK : Hid (keepZ (xs.take (j + 1)) = keepZ (xs.take j)) := by
                show _ = _
                rw [HTK.out]
                unfold keepZ
                rw [List.filter_append]
                simp
              go_wp2
              go_roundw
              case rel => exact ⟨j + 1, by omega, by go_num, by rw [HK.out]; exact hO, hb⟩
              case measure => simp [intOf]; omega
            · have hk' : (kind == 0) = false := by rw [beq_eq_false_iff_ne]; exact hk
              have HK : Hid (keepZ (xs.take (j + 1)) = keepZ (xs.take j) ++ [⟨⟨kind, text, val, hex⟩, xo, xl, xc⟩]) := by
                show _ = _
                rw [HTK.out]
                unfold keepZ
                rw [List.filter_append]
                simp [hk]
              clear hk
              generalize keepZ (xs.take j) = ks at *
              go_wp2_with (at_builtin; refine wpList_append_own _ rfl (.tmp 57) (.tmp 62) 22 rfl wa.heap.size 36 i0 (.agg zero7) 7 56 Tryz.underlying22 hi hz0 hz1 hz2 rfl (by decide) _ _ _ rfl (hO.alloc _) ⟨wr.heap.size, 0, none⟩ 1 1 (tpL ⟨⟨kind, text, val, hex⟩, xo, xl, xc⟩) rfl rfl (cell_new7 wr #[.int .i64 kind, .int .i64 xo, .int .i64 xl, .int .i64 xc, .string ⟨text.toArray⟩, .int .u32 (val : Int), .bool hex] _) (one7z _ _ _ _ _ _ _) (by unfold maxLen; omega) (by omega) (by simp; omega) ?_)
              intro v6 w6 ho6 hg6 _
              have hb6 := hb.grown (grown_alloc hg6) hb.size (fun k e => (hO.lt k e).1)
              have ho7 : w6.ownsRow wa.heap.size 36 7 v6 (ks ++ [(⟨⟨kind, text, val, hex⟩, xo, xl, xc⟩ : Tp)]).length (tpsL (ks ++ [⟨⟨kind, text, val, hex⟩, xo, xl, xc⟩])) := by
                rw [tps_snoc, List.length_append]; exact ho6
              clear ho6 hg6 hO
              go_wp2
              go_roundw
              case rel => exact ⟨j + 1, by omega, by go_num, by rw [HK.out]; exact ho7, hb6⟩
              case measure => simp [intOf]; omega
        · have hlt' : ¬ (j : Int) < n := by omega
          have HFK : Hid (keepZ (xs.take j) = keepZ xs) := by
            show _ = _
            rw [List.take_of_length_le (by have := HNX.out; omega)]
          generalize keepZ (xs.take j) = ks at *
          go_wp2_with (at_builtin; refine wpList_append_own _ rfl (.tmp 65) (.tmp 67) 22 rfl wa.heap.size 36 i0 (.agg zero7) 7 56 Tryz.underlying22 hi hz0 hz1 hz2 rfl (by decide) _ _ _ rfl (hO.alloc _) ⟨wr.heap.size, 0, none⟩ 1 1 (tpL ⟨⟨0, [], 0, false⟩, 0, 0, 0⟩) rfl rfl (cell_new7 wr #[.int .i64 0, .int .i64 0, .int .i64 0, .int .i64 0, .string ⟨#[]⟩, .int .u32 0, .bool false] _) (one7z _ _ _ _ _ _ _) (by unfold maxLen; omega) (by omega) (by have := hb.size; simp; omega) ?_)
          intro v6 w6 ho6 hg6 _
          have hb6 := hb.grown (grown_alloc hg6) hb.size (fun k e => (hO.lt k e).1)
          have ho7 : w6.ownsRow wa.heap.size 36 7 v6 (ks ++ [(⟨⟨0, [], 0, false⟩, 0, 0, 0⟩ : Tp)]).length (tpsL (ks ++ [⟨⟨0, [], 0, false⟩, 0, 0, 0⟩])) := by
            rw [tps_snoc, List.length_append]; exact ho6
          have hRw := row_own ho7 rfl
          have hRm3 := rowT_below hRm2 hb6
          have hzz : (ts.map (tpOf b)).map (·.z) = (ks ++ [(⟨⟨0, [], 0, false⟩, 0, 0, 0⟩ : Tp)]).map (·.z) := by
            rw [HZ.out, HFK.out, List.map_append]
            congr 1
            unfold keepZ
            rw [List.filter_map]
            rfl
          have hlen : (ks ++ [(⟨⟨0, [], 0, false⟩, 0, 0, 0⟩ : Tp)]).length = ts.length := by
            have := congrArg List.length hzz
            simpa using this.symm
          obtain ⟨g6, cap6, hv6⟩ : ∃ g cap, v6 = .slice (some ⟨g, 0, none⟩) (ks ++ [(⟨⟨0, [], 0, false⟩, 0, 0, 0⟩ : Tp)]).length cap := by
            rcases ho7.2 with ⟨_, h0⟩ | ⟨g, cap, cur, hv, _⟩
            · simp at h0
            · exact ⟨g, cap, hv⟩
          subst hv6
          rw [hlen] at hRw ⊢
          have htl : ts.length < 4294967296 := by have := good_len hG; omega
          have ck := alike_eq w6 g 0 gcap g6 0 cap6 ts.length _ _ hRm3 hRw hzz (by simp) htl (List.length_pos_iff.2 hG.ne)
          have hbw := hba.trans (hb6.mono hba.size)
          clear ho6 hg6 hO ho7 hRw hRm3 hzz
          go_wp2_with (first
            | (go_at_call 15; refine ck.mono ?_; rintro e w7 ⟨rfl, hb7⟩; have hbw7 := hbw.trans (hb7.mono hbw.size))
            | (go_at_call 12; refine (cal _ hbw7).mono ?_; rintro e w9 ⟨rfl, hb9⟩))
          go_ret
          exact ⟨rfl, hbw7.trans (hb9.mono hbw7.size)⟩
  · rw [hjv] at c1
    subst hv
    clear hj hjv hR hx
    go_enter Tryz.func5, Tryz.ntmps5
    go_wp2_with (first
      | (go_at_call 14; refine c1.mono ?_; rintro e w1 ⟨rfl, hb1⟩)
      | (go_at_call 11; refine (num_b _ _).mono ?_; rintro e w3 ⟨rfl, rfl⟩)
      | (go_at_call 12; refine (cal _ hb1).mono ?_; rintro e w9 ⟨rfl, hb9⟩))
    go_ret
    exact ⟨rfl, hb1.trans (hb9.mono hb1.size)⟩
end Go.Proofs.YtiggbnkmggbpiaaGreatDoor
