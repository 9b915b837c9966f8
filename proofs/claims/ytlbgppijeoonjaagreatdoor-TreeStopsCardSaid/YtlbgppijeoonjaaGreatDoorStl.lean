import Derived.Test.YtlbgppijeoonjaaGreatDoorStX
import Derived.Test.YtlbgppijeoonjaaGreatDoorRtj
import Derived.Test.YtlbgppijeoonjaaGreatDoorGos
import Derived.Test.YtlbgppijeoonjaaGreatDoorHdb
namespace Go.Proofs.YtlbgppijeoonjaaGreatDoor
open Go.RowKit
set_option linter.unusedVariables false

theorem rowT_take {w : World} {g n cap : Nat} {xs : List Tp} (h : RowT w (.slice (some ⟨g, 0, none⟩) n cap) xs) (k : Nat) (hk : k ≤ n) : RowT w (.slice (some ⟨g, 0, none⟩) k cap) (xs.take k) := by
  cases h with
  | nil =>
    have : k = 0 := by omega
    subst this
    exact .nil
  | some hg hc h1 =>
    have hl : (xs.take k).length = k := by rw [List.length_take]; omega
    have hr : RowT w (.slice (some ⟨g, 0, none⟩) (xs.take k).length cap) (xs.take k) := by
      refine .some hg (fun j u hj => hc j u ?_) (by omega)
      have e : tpsL xs = tpsL (xs.take k) ++ tpsL (xs.drop k) := by
        unfold tpsL
        rw [← List.flatMap_append, List.take_append_drop]
      rw [e, List.getElem?_append_left (List.getElem?_eq_some_iff.1 hj).1]
      exact hj
    rwa [hl] at hr
theorem spz_text {x : Tz} {b : List UInt8} (h : spz x = some b) : x.text.length ≤ 255 := by
  unfold spz at h
  repeat' split at h
  all_goals first
    | (cases h; done)
    | (next hh => simp [hh]; done)
    | (next ht _ => simp [ht]; done)
    | (next ht _ _ => simp [ht]; done)
    | (next hh => have h2 := hh.2; simp [nameL] at h2; omega)
    | (next hh => have h2 := hh.2; simp [strL] at h2; omega)
    | (next hh => simp [hh.2]; done)
theorem good_text {t : List UInt8} {off : Nat} {ts : List (Tk × Nat)} (h : Good t off ts) : ∀ {i : Nat} {k : Tk} {o : Nat}, ts[i]? = some (k, o) → k.text.length ≤ 255 := by
  induction h with
  | @fin off ho h1 h2 =>
    intro i k o hi
    cases i with
    | zero => simp at hi; obtain ⟨rfl, rfl⟩ := hi; decide
    | succ i => simp at hi
  | @more off len o k ts ho h1 h2 h3 h4 h5 h6 hg ih =>
    intro i k1 o1 hi
    cases i with
    | zero =>
      simp at hi
      obtain ⟨rfl, rfl⟩ := hi
      have hd : t.drop o = t[o]'(by omega) :: t.drop (o + 1) := List.drop_eq_getElem_cons (by omega)
      rw [hd] at h3
      obtain ⟨b, hb, _⟩ := tok_spz h3
      exact spz_text hb
    | succ i => exact ih (by simpa using hi)
theorem join_len (zs : List Tz) (hv : ∀ x ∈ zs, x.val ≤ 4294967295) (first : Bool) (b : List UInt8) (h : joinF first zs = some b) : b.length ≤ 513 * zs.length := by
  induction zs generalizing first b with
  | nil => cases h; simp
  | cons x r ih =>
    rw [joinF] at h
    split at h
    · cases h
    · cases hp : spz x with
      | none => rw [hp] at h; cases h
      | some a =>
        rw [hp] at h
        simp only at h
        cases hj : joinF false r with
        | none => rw [hj] at h; cases h
        | some b2 =>
          rw [hj] at h
          cases h
          have h1 := spz_len hp (by have := hv x (by simp); omega)
          have h2 := ih (fun y hy => hv y (by simp [hy])) false b2 hj
          simp only [List.length_cons]
          split <;> simp <;> omega
set_option maxHeartbeats 4000000 in
set_option maxRecDepth 100000 in
theorem stops_tree (B0 : Nat) (p : Nat → Addr) (s more : ByteArray) (w : World) (hE : Env B0 p w) (hF : EnvF B0 p w) (hs : s.size < 4611686018427387904) (tr : Tr) (hx : parseL s.data.toList = .inl tr) :
    Calls Tryz.prog 6 #[.string s, .string more] w fun e w' => e = .returned (.bool true) ∧ Below w.heap.size w w' := by
  have c1 := Parse_any B0 p s w hE hF hs
  rw [hx] at c1
  have ch : ∀ W, Below w.heap.size w W → Calls Tryz.prog 14 #[] W fun e w' => e = .returned (.bool true) ∧ Below W.heap.size W w' := fun W hW =>
    heads_any B0 p W (hE.below (hW.mono hE.size)) (hF.below hE (hW.mono hE.size))
  clear hE hF hx
  go_enter Tryz.func6, Tryz.ntmps6
  go_wp2_with fail
  refine c1.mono ?_
  rintro e w1 ⟨pv, rfl, hO1, hb1⟩
  obtain ⟨oa, on, oc, rfl⟩ := objsAt_shape hO1
  unfold trC zero5
  clear c1
  have hb2 := (hb1.alloc hb1.size (.cells #[.string ⟨tr.version.toArray⟩, .string ⟨tr.cpu.toArray⟩, .slice oa on oc, .bool tr.noted, .string ⟨tr.note.toArray⟩] 24)).alloc (by simp; have := hb1.size; omega) (.cells #[.int .i64 0, .int .i64 0, .int .i64 0, .int .i64 0, .string ⟨#[]⟩] 60)
  go_wp2_with fail
  refine (ch _ hb2).mono ?_
  rintro e w3 ⟨rfl, hb3⟩
  have hb4 := hb2.trans (hb3.mono hb2.size)
  clear hb2 hb3 ch
  go_wp2
  go_ret
  exact ⟨rfl, hb4⟩
set_option maxHeartbeats 4000000 in
set_option maxRecDepth 100000 in
theorem stops_else (B0 : Nat) (p : Nat → Addr) (s more : ByteArray) (w : World) (hE : Env B0 p w) (hF : EnvF B0 p w) (hs : s.size < 4611686018427387904) (c : Nat) (o l k : Int) (hx : parseL s.data.toList = .inr (c, o, l, k)) (hc : c ≠ 30 ∧ c ≠ 31) :
    Calls Tryz.prog 6 #[.string s, .string more] w fun e w' => e = .returned (.bool true) ∧ Below w.heap.size w w' := by
  have c1 := Parse_any B0 p s w hE hF hs
  rw [hx] at c1
  have ch : ∀ W, Below w.heap.size w W → Calls Tryz.prog 14 #[] W fun e w' => e = .returned (.bool true) ∧ Below W.heap.size W w' := fun W hW =>
    heads_any B0 p W (hE.below (hW.mono hE.size)) (hF.below hE (hW.mono hE.size))
  have hc1 : ((c : Int) == 30) = false := by rw [beq_eq_false_iff_ne]; omega
  have hc2 : ((c : Int) == 31) = false := by rw [beq_eq_false_iff_ne]; omega
  have hc3 : ((c : Int) != 30) = true := by unfold bne; rw [hc1]; rfl
  have hc4 : ((c : Int) != 31) = true := by unfold bne; rw [hc2]; rfl
  clear hE hF hx hc
  go_enter Tryz.func6, Tryz.ntmps6
  go_wp2_with fail
  refine c1.mono ?_
  rintro e w1 ⟨rfl, hb1⟩
  unfold zeroT
  clear c1
  have hb2 := (hb1.alloc hb1.size (.cells #[.string ⟨#[]⟩, .string ⟨#[]⟩, .slice none 0 0, .bool false, .string ⟨#[]⟩] 24)).alloc (by simp; have := hb1.size; omega) (.cells #[.int .i64 (c : Int), .int .i64 o, .int .i64 l, .int .i64 k, .string ⟨#[]⟩] 60)
  go_wp2_with fail
  refine (ch _ hb2).mono ?_
  rintro e w3 ⟨rfl, hb3⟩
  have hb4 := hb2.trans (hb3.mono hb2.size)
  clear hb2 hb3 ch
  go_wp2
  go_ret
  exact ⟨rfl, hb4⟩
set_option maxHeartbeats 8000000 in
set_option maxRecDepth 100000 in
theorem stops_30 (B0 : Nat) (p : Nat → Addr) (s more : ByteArray) (w : World) (hE : Env B0 p w) (hF : EnvF B0 p w) (hs : s.size < 4611686018427387904) (hmo : more.size < 2305843009213693952) (ts : List (Tk × Nat)) (hsc : scanA s.data.toList = .inl ts) (c : Nat) (hc0 : c ≠ 0) (h1 : ((c : Int) == 30) = true) (x : Tp) (hbad : textL (2 * ts.length) (ts.map (tpOf s.data.toList)) = .bad c x) :
    Calls Tryz.prog 6 #[.string s, .string more] w fun e w' => e = .returned (.bool true) ∧ Below w.heap.size w w' := by
  have c1 := Parse_any B0 p s w hE hF hs
  have hP : parseL s.data.toList = .inr (c, x.o, x.l, x.c) := by unfold parseL; rw [hsc]; dsimp only; rw [hbad]
  rw [hP] at c1
  have ch : ∀ W, Below w.heap.size w W → Calls Tryz.prog 14 #[] W fun e w' => e = .returned (.bool true) ∧ Below W.heap.size W w' := fun W hW =>
    heads_any B0 p W (hE.below (hW.mono hE.size)) (hF.below hE (hW.mono hE.size))
  have cs0 := fun w => rScan_any s w hs
  rw [hsc] at cs0
  unfold SPost at cs0
  dsimp only at cs0
  have cs : ∀ w, Calls Tryz.prog 23 #[.string s] w fun e w' => ∃ v, e = .returned (.tuple #[v, .agg zero5]) ∧ w'.ownsRow w.heap.size 57 7 v ts.length (tpsL (ts.map (tpOf s.data.toList))) ∧ Below w.heap.size w w' := fun w => by
    rw [← tks_tps]; exact cs0 w
  obtain ⟨j, hj, huniq, hgo⟩ := stops_parse s.data.toList more.data.toList ts hsc c x hc0 hbad
  obtain ⟨hG, hsl⟩ := scanA_good hsc
  obtain ⟨hEnd, hln⟩ := good_end hG
  have hok : ∀ z ∈ ts.map (tpOf s.data.toList), TzOk z.z := by
    intro z hz
    obtain ⟨i, hi⟩ := List.mem_iff_getElem?.1 hz
    rw [List.getElem?_map] at hi
    cases e : ts[i]? with
    | none => rw [e] at hi; cases hi
    | some q =>
      rw [e] at hi
      cases hi
      refine ⟨by have := good_val hG (k := q.1) (o := q.2) e; show q.1.val < _; omega, ?_⟩
      show q.1.text.length < _
      have := good_text hG (k := q.1) (o := q.2) e
      omega
  have hlx : (ts.map (tpOf s.data.toList)).length = ts.length := List.length_map ..
  have hlm : ts.length ≤ 262145 := by omega
  have cp : ∀ (W : World) (b : List UInt8), Below w.heap.size w W → b.length ≤ 513 * 262145 → ∀ c' o l k, parseL (b ++ 32 :: more.data.toList) = .inr (c', o, l, k) → Calls Tryz.prog 21 #[.string (⟨b.toArray⟩ ++ ⟨#[32]⟩ ++ more)] W fun e w' => e = .returned (.tuple #[.agg zeroT, .agg #[.int .i64 (c' : Int), .int .i64 o, .int .i64 l, .int .i64 k, .string ⟨#[]⟩]]) ∧ Below W.heap.size W w' := fun W b hW hbl c' o l k hp => by
    have hd : ((⟨b.toArray⟩ : ByteArray) ++ ⟨#[32]⟩ ++ more).data.toList = b ++ 32 :: more.data.toList := by simp [ByteArray.data_append]
    have hz : ((⟨b.toArray⟩ : ByteArray) ++ ⟨#[32]⟩ ++ more).size = b.length + 1 + more.size := by
      rw [ByteArray.size_append, ByteArray.size_append]
      have h1 : (⟨b.toArray⟩ : ByteArray).size = b.length := List.size_toArray
      have h2 : (⟨#[32]⟩ : ByteArray).size = 1 := rfl
      rw [h1, h2]
    have h := Parse_any B0 p (⟨b.toArray⟩ ++ ⟨#[32]⟩ ++ more) W (hE.below (hW.mono hE.size)) (hF.below hE (hW.mono hE.size)) (by omega)
    rw [hd, hp] at h
    exact h
  have hzv : ∀ z ∈ ((ts.map (tpOf s.data.toList)).take (j + 1)).map (·.z), z.val ≤ 4294967295 := by
    intro z hz
    obtain ⟨y, hy, rfl⟩ := List.mem_map.1 hz
    have := (hok y (List.mem_of_mem_take hy)).1
    omega
  clear hE hF hP hbad cs0 hG hsl hln hEnd hs hsc
  generalize ts.map (tpOf s.data.toList) = xs at *
  generalize ts.length = n at *
  have hjn : j < n := by rw [← hlx]; exact (List.getElem?_eq_some_iff.1 hj).1
  obtain ⟨xz, xo, xl, xc⟩ := x
  dsimp only at huniq hgo c1
  have hjn' : ((j : Int) == (n : Int)) = false := by rw [beq_eq_false_iff_ne]; omega
  have hjn2 : (j : Int) + 1 ≤ (n : Int) := by omega
  have hn2 : (n : Int) ≤ 262145 := by omega
  have hsl : ∀ (W : World) (tb cap : Nat), n ≤ cap → (Instr.slice 51 (.slice (some ⟨tb, 0, none⟩) n cap) none (some (.int .i64 ((j : Int) + 1))) none).run Tryz.prog W = .ok (.slice (some ⟨tb, 0, none⟩) (j + 1) cap) W := fun W tb cap hcap => by
    have h1 : (0 : Int) ≤ (j : Int) + 1 ∧ (j : Int) + 1 ≤ (cap : Int) := by omega
    have h2 : ((j : Int) + 1).toNat = j + 1 := by omega
    simp [go_sem, h1, h2]
  have h2 : ((c : Int) != 30) = false := by unfold bne; rw [h1]; rfl
  go_enter Tryz.func6, Tryz.ntmps6
  go_wp2_with fail
  refine c1.mono ?_
  rintro e w1 ⟨rfl, hb1⟩
  unfold zeroT
  clear c1
  have hal := ((Below.refl w1.heap.size w1).alloc (Nat.le_refl _) (.cells #[.string ⟨#[]⟩, .string ⟨#[]⟩, .slice none 0 0, .bool false, .string ⟨#[]⟩] 24)).alloc (by simp) (.cells #[.int .i64 (c : Int), .int .i64 xo, .int .i64 xl, .int .i64 xc, .string ⟨#[]⟩] 60)
  have hb2 := hb1.trans (hal.mono hb1.size)
  have hf2 := heap2_1' w1 (.cells #[.string ⟨#[]⟩, .string ⟨#[]⟩, .slice none 0 0, .bool false, .string ⟨#[]⟩] 24) (.cells #[.int .i64 (c : Int), .int .i64 xo, .int .i64 xl, .int .i64 xc, .string ⟨#[]⟩] 60)
  clear hal hb1
  go_wp2_with fail
  generalize ((w1.alloc (.cells #[.string ⟨#[]⟩, .string ⟨#[]⟩, .slice none 0 0, .bool false, .string ⟨#[]⟩] 24)).alloc (.cells #[.int .i64 (c : Int), .int .i64 xo, .int .i64 xl, .int .i64 xc, .string ⟨#[]⟩] 60)) = w2 at *
  generalize w1.heap.size + 1 = bf at *
  refine (cs w2).mono ?_
  rintro e w3 ⟨v, rfl, hO, hb3⟩
  have hRow : RowT w3 v xs := row_own hO hlx.symm
  obtain ⟨_, ⟨_, h0⟩ | ⟨tb, cap, cur, rfl, htb, hh, hcap, _⟩⟩ := hO
  · omega
  have htl := heap_lt hh
  have hf3 := (hb3.block _ (heap_lt hf2)).trans hf2
  have hbw3 := hb2.trans (hb3.mono hb2.size)
  have hbfl := heap_lt hf2
  clear hb2 hb3 hf2 cs hh
  unfold zero5
  go_wp2
  have hal := (Below.refl w3.heap.size w3).alloc (Nat.le_refl _) (.cells #[.int .i64 0, .int .i64 0, .int .i64 0, .int .i64 0, .string ⟨#[]⟩] 60)
  have hf4 := (hal.block _ (heap_lt hf3)).trans hf3
  have hRow4 := rowT_below hRow hal
  have hbw4 := hbw3.trans (hal.mono hbw3.size)
  have htl4 := Nat.lt_of_lt_of_le htl hal.size
  clear hal hf3 hRow hbw3
  generalize (w3.alloc (.cells #[.int .i64 0, .int .i64 0, .int .i64 0, .int .i64 0, .string ⟨#[]⟩] 60)) = w4 at *
  go_loopw [9] (fun i wr => ∃ a : Nat, a ≤ j ∧ i = .int .i64 (a : Int) ∧ Below w4.heap.size w4 wr) (fun i _ => n - (intOf i).toNat)
  case atStart => exact ⟨0, by omega, rfl, Below.refl _ _⟩
  case round =>
    obtain ⟨a, ha, rfl, hb⟩ := hrel
    have hlt : (a : Int) < (n : Int) := by omega
    have hle : (0 : Int) ≤ (a : Int) := by omega
    have hR := rowT_below hRow4 hb
    have hf := (hb.block _ (heap_lt hf4)).trans hf4
    have hbw := hbw4.trans (hb.mono hbw4.size)
    obtain ⟨⟨_, k1, k2, k3, _⟩, _⟩ := var5 hf
    obtain ⟨y, hy⟩ : ∃ y, xs[a]? = some y := ⟨xs[a]'(by rw [hlx]; omega), List.getElem?_eq_getElem _⟩
    have hcl : ∀ i u, i < 7 → (tpL y)[i]? = some u → wr.cell? ⟨tb, a * 7 + i, none⟩ = some u := fun i u hi hu => by
      have := rowT_at hR (a * 7 + i) u ((tps_at xs a y hy i hi).trans hu)
      rwa [Nat.zero_add] at this
    have x1 : wr.cell? ⟨tb, a * 7 + 1, none⟩ = some (.int .i64 y.o) := hcl 1 _ (by omega) rfl
    have x2 : wr.cell? ⟨tb, a * 7 + 2, none⟩ = some (.int .i64 y.l) := hcl 2 _ (by omega) rfl
    have x3 : wr.cell? ⟨tb, a * 7 + 3, none⟩ = some (.int .i64 y.c) := hcl 3 _ (by omega) rfl
    by_cases haj : a = j
    · subst haj
      rw [hj] at hy
      cases hy
      have x0 : wr.cell? ⟨tb, a * 7, none⟩ = some (.int .i64 xz.kind) := hcl 0 _ (by omega) rfl
      dsimp only at x1 x2 x3
      have hS1 := fun W => hsl W tb cap hcap
      clear hcl hsl huniq hf hf4 hRow4 hbw4
      go_wp2
      go_quiet (fail)
      have hbq : Below wr.heap.size wr (wr.drewN nq) := below_drewN (Below.refl _ _) nq
      have hR5 := rowT_below hR hbq
      have hbw5 := hbw.trans (hbq.mono hbw.size)
      have z0 := (cell_below hbq tb (a * 7) (Nat.lt_of_lt_of_le htl4 hb.size)).trans x0
      clear hb hbq hR hbw x0 x1 x2 x3 k1 k2 k3
      generalize wr.drewN nq = w5 at *
      by_cases hk : xz.kind = 0
      · have hk1 : (xz.kind == 0) = true := by rw [hk]; rfl
        rw [hk] at z0
        clear hk hgo hR5 cp
        go_wp2_with fail
        refine (ch _ hbw5).mono ?_
        rintro e w6 ⟨rfl, hb6⟩
        have hb7 := hbw5.trans (hb6.mono hbw5.size)
        clear hb6 ch z0
        go_wp2
        go_ret
        exact ⟨rfl, hb7⟩
      · have hk1 : (xz.kind == 0) = false := by rw [beq_eq_false_iff_ne]; exact hk
        obtain ⟨b, hb0, c2, o2, l2, k2, hpb, hc2⟩ := hgo hk
        have hbl : b.length ≤ 513 * 262145 := by
          have h1 := join_len _ hzv true b hb0
          rw [List.length_map, List.length_take] at h1
          have h2 : min (a + 1) xs.length ≤ 262145 := by omega
          omega
        have cj : Calls Tryz.prog 24 #[.slice (some ⟨tb, 0, none⟩) (a + 1) cap] w5 fun e w' => e = .returned (.tuple #[.string ⟨b.toArray⟩, .int .i64 0]) ∧ Below w5.heap.size w5 w' := by
          have h := rJoin_any (some ⟨tb, 0, none⟩) (a + 1) cap (xs.take (a + 1)) w5 (rowT_take hR5 (a + 1) (by omega)) (fun z hz => hok z (List.mem_of_mem_take hz)) (by omega)
          have e : jnV ((xs.take (a + 1)).map (·.z)) = .tuple #[.string ⟨b.toArray⟩, .int .i64 0] := by unfold jnV; rw [hb0]
          rw [e] at h
          exact h
        have cp2 : ∀ W, Below w.heap.size w W → _ := fun W hW => cp W b hW hbl c2 o2 l2 k2 hpb
        have hz1 : ((c2 : Int) == 0) = false := by rw [beq_eq_false_iff_ne]; omega
        have hz2 : ((c2 : Int) != 0) = true := by unfold bne; rw [hz1]; rfl
        clear hgo hk hb0 hpb cp hzv hok hj
        go_wp2_with fail
        refine cj.mono ?_
        rintro e w6 ⟨rfl, hb6⟩
        have hbw6 := hbw5.trans (hb6.mono hbw5.size)
        clear hb6 cj hbw5 hR5 z0
        go_wp2_with fail
        refine (cp2 w6 hbw6).mono ?_
        rintro e w7 ⟨rfl, hb7⟩
        have hbw7 := hbw6.trans (hb7.mono hbw6.size)
        have hb8 := (hbw7.alloc hbw7.size (.cells #[.string ⟨#[]⟩, .string ⟨#[]⟩, .slice none 0 0, .bool false, .string ⟨#[]⟩] 24)).alloc (by simp; have := hbw7.size; omega) (.cells #[.int .i64 (c2 : Int), .int .i64 o2, .int .i64 l2, .int .i64 k2, .string ⟨#[]⟩] 60)
        clear hb7 hbw6 cp2 hbw7
        unfold zeroT
        go_wp2_with fail
        refine (ch _ hb8).mono ?_
        rintro e w9 ⟨rfl, hb9⟩
        have hbw9 := hb8.trans (hb9.mono hb8.size)
        clear hb9 hb8 ch
        go_wp2
        go_ret
        exact ⟨rfl, hbw9⟩
    · have hne : (y.o == xo) = false := by
        rw [beq_eq_false_iff_ne]
        intro e
        exact haj (huniq a y hy e)
      obtain ⟨⟨ykk, ykt, ykv, ykh⟩, yo, yl, yc⟩ := y
      dsimp only at x1 x2 x3 hne
      clear hcl hR hf hbw hy
      go_wp2
      go_quiet (fail)
      have hbq : Below w4.heap.size w4 (wr.drewN nq) := below_drewN hb nq
      clear x1 x2 x3 k1 k2 k3 hb
      generalize wr.drewN nq = w5 at *
      go_wp2
      go_roundw
      case rel => exact ⟨a + 1, by omega, by go_num, hbq⟩
      case measure => simp [intOf]; omega
set_option maxHeartbeats 8000000 in
set_option maxRecDepth 100000 in
theorem stops_31 (B0 : Nat) (p : Nat → Addr) (s more : ByteArray) (w : World) (hE : Env B0 p w) (hF : EnvF B0 p w) (hs : s.size < 4611686018427387904) (hmo : more.size < 2305843009213693952) (ts : List (Tk × Nat)) (hsc : scanA s.data.toList = .inl ts) (c : Nat) (hc0 : c ≠ 0) (h1 : ((c : Int) == 30) = false) (h3 : ((c : Int) == 31) = true) (x : Tp) (hbad : textL (2 * ts.length) (ts.map (tpOf s.data.toList)) = .bad c x) :
    Calls Tryz.prog 6 #[.string s, .string more] w fun e w' => e = .returned (.bool true) ∧ Below w.heap.size w w' := by
  have c1 := Parse_any B0 p s w hE hF hs
  have hP : parseL s.data.toList = .inr (c, x.o, x.l, x.c) := by unfold parseL; rw [hsc]; dsimp only; rw [hbad]
  rw [hP] at c1
  have ch : ∀ W, Below w.heap.size w W → Calls Tryz.prog 14 #[] W fun e w' => e = .returned (.bool true) ∧ Below W.heap.size W w' := fun W hW =>
    heads_any B0 p W (hE.below (hW.mono hE.size)) (hF.below hE (hW.mono hE.size))
  have cs0 := fun w => rScan_any s w hs
  rw [hsc] at cs0
  unfold SPost at cs0
  dsimp only at cs0
  have cs : ∀ w, Calls Tryz.prog 23 #[.string s] w fun e w' => ∃ v, e = .returned (.tuple #[v, .agg zero5]) ∧ w'.ownsRow w.heap.size 57 7 v ts.length (tpsL (ts.map (tpOf s.data.toList))) ∧ Below w.heap.size w w' := fun w => by
    rw [← tks_tps]; exact cs0 w
  obtain ⟨j, hj, huniq, hgo⟩ := stops_parse s.data.toList more.data.toList ts hsc c x hc0 hbad
  obtain ⟨hG, hsl⟩ := scanA_good hsc
  obtain ⟨hEnd, hln⟩ := good_end hG
  have hok : ∀ z ∈ ts.map (tpOf s.data.toList), TzOk z.z := by
    intro z hz
    obtain ⟨i, hi⟩ := List.mem_iff_getElem?.1 hz
    rw [List.getElem?_map] at hi
    cases e : ts[i]? with
    | none => rw [e] at hi; cases hi
    | some q =>
      rw [e] at hi
      cases hi
      refine ⟨by have := good_val hG (k := q.1) (o := q.2) e; show q.1.val < _; omega, ?_⟩
      show q.1.text.length < _
      have := good_text hG (k := q.1) (o := q.2) e
      omega
  have hlx : (ts.map (tpOf s.data.toList)).length = ts.length := List.length_map ..
  have hlm : ts.length ≤ 262145 := by omega
  have cp : ∀ (W : World) (b : List UInt8), Below w.heap.size w W → b.length ≤ 513 * 262145 → ∀ c' o l k, parseL (b ++ 32 :: more.data.toList) = .inr (c', o, l, k) → Calls Tryz.prog 21 #[.string (⟨b.toArray⟩ ++ ⟨#[32]⟩ ++ more)] W fun e w' => e = .returned (.tuple #[.agg zeroT, .agg #[.int .i64 (c' : Int), .int .i64 o, .int .i64 l, .int .i64 k, .string ⟨#[]⟩]]) ∧ Below W.heap.size W w' := fun W b hW hbl c' o l k hp => by
    have hd : ((⟨b.toArray⟩ : ByteArray) ++ ⟨#[32]⟩ ++ more).data.toList = b ++ 32 :: more.data.toList := by simp [ByteArray.data_append]
    have hz : ((⟨b.toArray⟩ : ByteArray) ++ ⟨#[32]⟩ ++ more).size = b.length + 1 + more.size := by
      rw [ByteArray.size_append, ByteArray.size_append]
      have h1 : (⟨b.toArray⟩ : ByteArray).size = b.length := List.size_toArray
      have h2 : (⟨#[32]⟩ : ByteArray).size = 1 := rfl
      rw [h1, h2]
    have h := Parse_any B0 p (⟨b.toArray⟩ ++ ⟨#[32]⟩ ++ more) W (hE.below (hW.mono hE.size)) (hF.below hE (hW.mono hE.size)) (by omega)
    rw [hd, hp] at h
    exact h
  have hzv : ∀ z ∈ ((ts.map (tpOf s.data.toList)).take (j + 1)).map (·.z), z.val ≤ 4294967295 := by
    intro z hz
    obtain ⟨y, hy, rfl⟩ := List.mem_map.1 hz
    have := (hok y (List.mem_of_mem_take hy)).1
    omega
  clear hE hF hP hbad cs0 hG hsl hln hEnd hs hsc
  generalize ts.map (tpOf s.data.toList) = xs at *
  generalize ts.length = n at *
  have hjn : j < n := by rw [← hlx]; exact (List.getElem?_eq_some_iff.1 hj).1
  obtain ⟨xz, xo, xl, xc⟩ := x
  dsimp only at huniq hgo c1
  have hjn' : ((j : Int) == (n : Int)) = false := by rw [beq_eq_false_iff_ne]; omega
  have hjn2 : (j : Int) + 1 ≤ (n : Int) := by omega
  have hn2 : (n : Int) ≤ 262145 := by omega
  have hsl : ∀ (W : World) (tb cap : Nat), n ≤ cap → (Instr.slice 51 (.slice (some ⟨tb, 0, none⟩) n cap) none (some (.int .i64 ((j : Int) + 1))) none).run Tryz.prog W = .ok (.slice (some ⟨tb, 0, none⟩) (j + 1) cap) W := fun W tb cap hcap => by
    have h1 : (0 : Int) ≤ (j : Int) + 1 ∧ (j : Int) + 1 ≤ (cap : Int) := by omega
    have h2 : ((j : Int) + 1).toNat = j + 1 := by omega
    simp [go_sem, h1, h2]
  have h2 : ((c : Int) != 30) = true := by unfold bne; rw [h1]; rfl
  have h4 : ((c : Int) != 31) = false := by unfold bne; rw [h3]; rfl
  go_enter Tryz.func6, Tryz.ntmps6
  go_wp2_with fail
  refine c1.mono ?_
  rintro e w1 ⟨rfl, hb1⟩
  unfold zeroT
  clear c1
  have hal := ((Below.refl w1.heap.size w1).alloc (Nat.le_refl _) (.cells #[.string ⟨#[]⟩, .string ⟨#[]⟩, .slice none 0 0, .bool false, .string ⟨#[]⟩] 24)).alloc (by simp) (.cells #[.int .i64 (c : Int), .int .i64 xo, .int .i64 xl, .int .i64 xc, .string ⟨#[]⟩] 60)
  have hb2 := hb1.trans (hal.mono hb1.size)
  have hf2 := heap2_1' w1 (.cells #[.string ⟨#[]⟩, .string ⟨#[]⟩, .slice none 0 0, .bool false, .string ⟨#[]⟩] 24) (.cells #[.int .i64 (c : Int), .int .i64 xo, .int .i64 xl, .int .i64 xc, .string ⟨#[]⟩] 60)
  clear hal hb1
  go_wp2_with fail
  generalize ((w1.alloc (.cells #[.string ⟨#[]⟩, .string ⟨#[]⟩, .slice none 0 0, .bool false, .string ⟨#[]⟩] 24)).alloc (.cells #[.int .i64 (c : Int), .int .i64 xo, .int .i64 xl, .int .i64 xc, .string ⟨#[]⟩] 60)) = w2 at *
  generalize w1.heap.size + 1 = bf at *
  refine (cs w2).mono ?_
  rintro e w3 ⟨v, rfl, hO, hb3⟩
  have hRow : RowT w3 v xs := row_own hO hlx.symm
  obtain ⟨_, ⟨_, h0⟩ | ⟨tb, cap, cur, rfl, htb, hh, hcap, _⟩⟩ := hO
  · omega
  have htl := heap_lt hh
  have hf3 := (hb3.block _ (heap_lt hf2)).trans hf2
  have hbw3 := hb2.trans (hb3.mono hb2.size)
  have hbfl := heap_lt hf2
  clear hb2 hb3 hf2 cs hh
  unfold zero5
  go_wp2
  have hal := (Below.refl w3.heap.size w3).alloc (Nat.le_refl _) (.cells #[.int .i64 0, .int .i64 0, .int .i64 0, .int .i64 0, .string ⟨#[]⟩] 60)
  have hf4 := (hal.block _ (heap_lt hf3)).trans hf3
  have hRow4 := rowT_below hRow hal
  have hbw4 := hbw3.trans (hal.mono hbw3.size)
  have htl4 := Nat.lt_of_lt_of_le htl hal.size
  clear hal hf3 hRow hbw3
  generalize (w3.alloc (.cells #[.int .i64 0, .int .i64 0, .int .i64 0, .int .i64 0, .string ⟨#[]⟩] 60)) = w4 at *
  go_loopw [9] (fun i wr => ∃ a : Nat, a ≤ j ∧ i = .int .i64 (a : Int) ∧ Below w4.heap.size w4 wr) (fun i _ => n - (intOf i).toNat)
  case atStart => exact ⟨0, by omega, rfl, Below.refl _ _⟩
  case round =>
    obtain ⟨a, ha, rfl, hb⟩ := hrel
    have hlt : (a : Int) < (n : Int) := by omega
    have hle : (0 : Int) ≤ (a : Int) := by omega
    have hR := rowT_below hRow4 hb
    have hf := (hb.block _ (heap_lt hf4)).trans hf4
    have hbw := hbw4.trans (hb.mono hbw4.size)
    obtain ⟨⟨_, k1, k2, k3, _⟩, _⟩ := var5 hf
    obtain ⟨y, hy⟩ : ∃ y, xs[a]? = some y := ⟨xs[a]'(by rw [hlx]; omega), List.getElem?_eq_getElem _⟩
    have hcl : ∀ i u, i < 7 → (tpL y)[i]? = some u → wr.cell? ⟨tb, a * 7 + i, none⟩ = some u := fun i u hi hu => by
      have := rowT_at hR (a * 7 + i) u ((tps_at xs a y hy i hi).trans hu)
      rwa [Nat.zero_add] at this
    have x1 : wr.cell? ⟨tb, a * 7 + 1, none⟩ = some (.int .i64 y.o) := hcl 1 _ (by omega) rfl
    have x2 : wr.cell? ⟨tb, a * 7 + 2, none⟩ = some (.int .i64 y.l) := hcl 2 _ (by omega) rfl
    have x3 : wr.cell? ⟨tb, a * 7 + 3, none⟩ = some (.int .i64 y.c) := hcl 3 _ (by omega) rfl
    by_cases haj : a = j
    · subst haj
      rw [hj] at hy
      cases hy
      have x0 : wr.cell? ⟨tb, a * 7, none⟩ = some (.int .i64 xz.kind) := hcl 0 _ (by omega) rfl
      dsimp only at x1 x2 x3
      have hS1 := fun W => hsl W tb cap hcap
      clear hcl hsl huniq hf hf4 hRow4 hbw4
      go_wp2
      go_quiet (fail)
      have hbq : Below wr.heap.size wr (wr.drewN nq) := below_drewN (Below.refl _ _) nq
      have hR5 := rowT_below hR hbq
      have hbw5 := hbw.trans (hbq.mono hbw.size)
      have z0 := (cell_below hbq tb (a * 7) (Nat.lt_of_lt_of_le htl4 hb.size)).trans x0
      clear hb hbq hR hbw x0 x1 x2 x3 k1 k2 k3
      generalize wr.drewN nq = w5 at *
      by_cases hk : xz.kind = 0
      · have hk1 : (xz.kind == 0) = true := by rw [hk]; rfl
        rw [hk] at z0
        clear hk hgo hR5 cp
        go_wp2_with fail
        refine (ch _ hbw5).mono ?_
        rintro e w6 ⟨rfl, hb6⟩
        have hb7 := hbw5.trans (hb6.mono hbw5.size)
        clear hb6 ch z0
        go_wp2
        go_ret
        exact ⟨rfl, hb7⟩
      · have hk1 : (xz.kind == 0) = false := by rw [beq_eq_false_iff_ne]; exact hk
        obtain ⟨b, hb0, c2, o2, l2, k2, hpb, hc2⟩ := hgo hk
        have hbl : b.length ≤ 513 * 262145 := by
          have h1 := join_len _ hzv true b hb0
          rw [List.length_map, List.length_take] at h1
          have h2 : min (a + 1) xs.length ≤ 262145 := by omega
          omega
        have cj : Calls Tryz.prog 24 #[.slice (some ⟨tb, 0, none⟩) (a + 1) cap] w5 fun e w' => e = .returned (.tuple #[.string ⟨b.toArray⟩, .int .i64 0]) ∧ Below w5.heap.size w5 w' := by
          have h := rJoin_any (some ⟨tb, 0, none⟩) (a + 1) cap (xs.take (a + 1)) w5 (rowT_take hR5 (a + 1) (by omega)) (fun z hz => hok z (List.mem_of_mem_take hz)) (by omega)
          have e : jnV ((xs.take (a + 1)).map (·.z)) = .tuple #[.string ⟨b.toArray⟩, .int .i64 0] := by unfold jnV; rw [hb0]
          rw [e] at h
          exact h
        have cp2 : ∀ W, Below w.heap.size w W → _ := fun W hW => cp W b hW hbl c2 o2 l2 k2 hpb
        have hz1 : ((c2 : Int) == 0) = false := by rw [beq_eq_false_iff_ne]; omega
        have hz2 : ((c2 : Int) != 0) = true := by unfold bne; rw [hz1]; rfl
        clear hgo hk hb0 hpb cp hzv hok hj
        go_wp2_with fail
        refine cj.mono ?_
        rintro e w6 ⟨rfl, hb6⟩
        have hbw6 := hbw5.trans (hb6.mono hbw5.size)
        clear hb6 cj hbw5 hR5 z0
        go_wp2_with fail
        refine (cp2 w6 hbw6).mono ?_
        rintro e w7 ⟨rfl, hb7⟩
        have hbw7 := hbw6.trans (hb7.mono hbw6.size)
        have hb8 := (hbw7.alloc hbw7.size (.cells #[.string ⟨#[]⟩, .string ⟨#[]⟩, .slice none 0 0, .bool false, .string ⟨#[]⟩] 24)).alloc (by simp; have := hbw7.size; omega) (.cells #[.int .i64 (c2 : Int), .int .i64 o2, .int .i64 l2, .int .i64 k2, .string ⟨#[]⟩] 60)
        clear hb7 hbw6 cp2 hbw7
        unfold zeroT
        go_wp2_with fail
        refine (ch _ hb8).mono ?_
        rintro e w9 ⟨rfl, hb9⟩
        have hbw9 := hb8.trans (hb9.mono hb8.size)
        clear hb9 hb8 ch
        go_wp2
        go_ret
        exact ⟨rfl, hbw9⟩
    · have hne : (y.o == xo) = false := by
        rw [beq_eq_false_iff_ne]
        intro e
        exact haj (huniq a y hy e)
      obtain ⟨⟨ykk, ykt, ykv, ykh⟩, yo, yl, yc⟩ := y
      dsimp only at x1 x2 x3 hne
      clear hcl hR hf hbw hy
      go_wp2
      go_quiet (fail)
      have hbq : Below w4.heap.size w4 (wr.drewN nq) := below_drewN hb nq
      clear x1 x2 x3 k1 k2 k3 hb
      generalize wr.drewN nq = w5 at *
      go_wp2
      go_roundw
      case rel => exact ⟨a + 1, by omega, by go_num, hbq⟩
      case measure => simp [intOf]; omega
theorem stops_any (B0 : Nat) (p : Nat → Addr) (s more : ByteArray) (w : World) (hE : Env B0 p w) (hF : EnvF B0 p w) (hs : s.size < 4611686018427387904) (hmo : more.size < 2305843009213693952) :
    Calls Tryz.prog 6 #[.string s, .string more] w fun e w' => e = .returned (.bool true) ∧ Below w.heap.size w w' := by
  cases hx : parseL s.data.toList with
  | inl tr => exact stops_tree B0 p s more w hE hF hs tr hx
  | inr q =>
    obtain ⟨c, o, l, k⟩ := q
    by_cases hc : c ≠ 30 ∧ c ≠ 31
    · exact stops_else B0 p s more w hE hF hs c o l k hx hc
    · have hc' : c = 30 ∨ c = 31 := by omega
      cases hsc : scanA s.data.toList with
      | inr ca =>
        obtain ⟨c2, a⟩ := ca
        have h1 := scanA_bad hsc
        unfold parseL at hx
        rw [hsc] at hx
        cases hx
        omega
      | inl ts =>
        have hx2 := hx
        unfold parseL at hx2
        rw [hsc] at hx2
        dsimp only at hx2
        cases hT : textL (2 * ts.length) (ts.map (tpOf s.data.toList)) with
        | ok tr r => rw [hT] at hx2; cases hx2
        | bad c2 x =>
          rw [hT] at hx2
          cases hx2
          by_cases h30 : c = 30
          · exact stops_30 B0 p s more w hE hF hs hmo ts hsc c (by omega) (by rw [h30]; rfl) x hT
          · exact stops_31 B0 p s more w hE hF hs hmo ts hsc c (by omega) (by rw [beq_eq_false_iff_ne]; omega) (by rw [show c = 31 by omega]; rfl) x hT
end Go.Proofs.YtlbgppijeoonjaaGreatDoor
