import Derived.Test.YtnmknnkpkkefoaaGreatDoorSpc
namespace Go.Proofs.YtnmknnkpkkefoaaGreatDoor
open Go.RowKit
set_option linter.unusedVariables false

/-- A token with its place. -/
structure Tp where
  z : Tz
  o : Int
  l : Int
  c : Int
def tpL (x : Tp) : List Value := (tzC x.z x.o x.l x.c).toList
def tpsL (xs : List Tp) : List Value := xs.flatMap tpL
/-- A slice of tokens that lies somewhere. -/
inductive RowT (w : World) : Value → List Tp → Prop
  | nil {a : Option Addr} {cap : Nat} : RowT w (.slice a 0 cap) []
  | some {g off cap : Nat} {xs : List Tp} : g < w.heap.size → (∀ j u, (tpsL xs)[j]? = some u → w.cell? ⟨g, off + j, none⟩ = some u) → xs.length ≤ cap → RowT w (.slice (some ⟨g, off, none⟩) xs.length cap) xs
def jnV (zs : List Tz) : Value := match joinF true zs with | some b => .tuple #[.string ⟨b.toArray⟩, .int .i64 0] | none => .tuple #[.string ⟨#[]⟩, .int .i64 20]
theorem tps_at (xs : List Tp) (j : Nat) (x : Tp) (h : xs[j]? = some x) (i : Nat) (hi : i < 7) : (tpsL xs)[j * 7 + i]? = (tpL x)[i]? := by
  induction xs generalizing j with
  | nil => cases h
  | cons y xs ih =>
    have e : tpsL (y :: xs) = tpL y ++ tpsL xs := rfl
    have hl : (tpL y).length = 7 := rfl
    rw [e]
    cases j with
    | zero =>
      simp at h
      subst h
      rw [List.getElem?_append_left (by omega)]
      simp
    | succ j =>
      rw [List.getElem?_append_right (by omega), hl, show (j + 1) * 7 + i - 7 = j * 7 + i by omega]
      exact ih j (by simpa using h)
theorem esc_len (t : List UInt8) : (escL t).length ≤ 2 * t.length := by
  induction t with
  | nil => simp [escL]
  | cons c t ih =>
    have : escL (c :: t) = (if escB c = true then [92, c] else [c]) ++ escL t := rfl
    rw [this, List.length_append]
    split <;> simp <;> omega
theorem spz_len {x : Tz} {b : List UInt8} (h : spz x = some b) (hv : x.val < 4294967296) : b.length ≤ 512 := by
  unfold spz at h
  split at h
  · split at h
    · next hc =>
      cases h
      have := hc.2
      unfold nameL at this
      simp only [Bool.and_eq_true, decide_eq_true_eq] at this
      omega
    · cases h
  · split at h
    · split at h
      · cases h
        split
        · have h1 := (hex_up x.val).1
          have h2 := hex_len 8 x.val (by simpa using hv) (by decide)
          have h3 := congrArg List.length h1
          unfold Lib.toUpperA at h3
          rw [List.length_map] at h3
          simp
          omega
        · rw [Lib.decDigits_length]
          by_cases h0 : x.val = 0
          · rw [h0, Lib.nDigits_small (by decide)]; decide
          · have := Lib.numDigits_eq x.val (by omega) (by omega)
            split at this <;> omega
      · cases h
    · split at h
      · split at h
        · next hc =>
          cases h
          have := hc.2
          unfold strL at this
          simp only [Bool.and_eq_true, decide_eq_true_eq] at this
          have h2 := esc_len x.text
          simp
          omega
        · cases h
      · split at h
        · split at h
          · cases h; simp
          · cases h
        · split at h
          · split at h
            · cases h; simp
            · cases h
          · cases h
theorem str_cells (b : List UInt8) : Lib.strCells ⟨b.toArray⟩ = b.map B := by simp [Lib.strCells, B]
set_option maxHeartbeats 4000000 in
set_option maxRecDepth 100000 in
theorem Join_any (B0 : Nat) (p : Nat → Addr) (v : Value) (xs : List Tp) (w : World) (hE : Env B0 p w) (hT : EnvT w) (hR : RowT w v xs) (hx : ∀ x ∈ xs, TzOk x.z) (hn : xs.length < 4294967296) :
    Calls Tryz.prog 15 #[v] w fun e w' => e = .returned (jnV (xs.map (·.z))) ∧ Below w.heap.size w w' := by
  obtain ⟨i0, hi, hz0, hz1, hz2⟩ := info_parts Tryz.info5
  obtain ⟨a, ha⟩ : ∃ a, jnV (xs.map (·.z)) = a := ⟨_, rfl⟩
  rw [ha]
  have HX : Hid (jnV (xs.map (·.z)) = a) := ha
  clear ha
  cases hR with
  | nil =>
    have HY : Hid (jnV (([] : List Tp).map (·.z)) = .tuple #[.string ⟨#[]⟩, .int .i64 0]) := rfl
    go_enter Tryz.func15, Tryz.ntmps15
    go_wp2
    go_loopw [4, 11] (fun v i wr => v = .slice none 0 0 ∧ i = .int .i64 0 ∧ Below w.heap.size w wr) (fun _ i _ => 0)
    case atStart => exact ⟨rfl, rfl, Below.refl _ _⟩
    case round =>
      obtain ⟨rfl, rfl, hb⟩ := hrel
      have hcv := conv_nil wr
      go_wp2
      go_ret2
      exact ⟨by rw [← HX.out, HY.out]; rfl, hb⟩
  | @some g off cap _ hg hc h1 =>
    obtain ⟨n, hnn⟩ : ∃ n, n = xs.length := ⟨_, rfl⟩
    rw [← hnn] at hn h1 ⊢
    have HNN : Hid (n = xs.length) := hnn
    have HC : Hid (∀ j u, (tpsL xs)[j]? = some u → w.cell? ⟨g, off + j, none⟩ = some u) := hc
    clear hnn hc
    go_enter Tryz.func15, Tryz.ntmps15
    go_wp2
    go_loopw [4, 11] (fun v i wr => ∃ (j : Nat) (out : List UInt8), j ≤ n ∧ i = .int .i64 j ∧ wr.ownsRow w.heap.size 5 1 v out.length (out.map B) ∧ Below w.heap.size w wr ∧ out.length ≤ 600 * j ∧ Hid (joinF true (xs.map (·.z)) = (joinF (decide (j = 0)) ((xs.map (·.z)).drop j)).map (out ++ ·)))
      (fun _ i _ => n - (intOf i).toNat)
    case atStart => exact ⟨0, [], by omega, rfl, World.ownsRow_nil _ _ _ _, Below.refl _ _, by simp, (by show _ = _; simp)⟩
    case round =>
      obtain ⟨j, out, hj, rfl, hO, hb, hol, hh⟩ := hrel
      obtain ⟨av, cv, rfl⟩ := owns_shape hO
      by_cases hlt : j < n
      · have hlt' : (j : Int) < n := by omega
        obtain ⟨x, hxj⟩ : ∃ x, xs[j]? = some x := ⟨xs[j]'(by rw [← HNN.out]; exact hlt), List.getElem?_eq_getElem _⟩
        have hxo := hx x (List.mem_of_getElem? hxj)
        have hcell : ∀ i, i < 7 → ∀ u, (tpL x)[i]? = some u → wr.cell? ⟨g, off + (j * 7 + i), none⟩ = some u := fun i hi u hu => by
          rw [cell_below hb _ _ hg]
          exact HC.out _ _ (by rw [tps_at xs j x hxj i hi]; exact hu)
        obtain ⟨⟨kind, text, val, hex⟩, xo, xl, xc⟩ := x
        have x0 : wr.cell? ⟨g, off + j * 7, none⟩ = some (.int .i64 kind) := hcell 0 (by omega) _ rfl
        have x1 : wr.cell? ⟨g, off + j * 7 + 1, none⟩ = some (.int .i64 xo) := hcell 1 (by omega) _ rfl
        have x2 : wr.cell? ⟨g, off + j * 7 + 2, none⟩ = some (.int .i64 xl) := hcell 2 (by omega) _ rfl
        have x3 : wr.cell? ⟨g, off + j * 7 + 3, none⟩ = some (.int .i64 xc) := hcell 3 (by omega) _ rfl
        have x4 : wr.cell? ⟨g, off + j * 7 + 4, none⟩ = some (.string ⟨text.toArray⟩) := hcell 4 (by omega) _ rfl
        have x5 : wr.cell? ⟨g, off + j * 7 + 5, none⟩ = some (.int .u32 (val : Int)) := hcell 5 (by omega) _ rfl
        have x6 : wr.cell? ⟨g, off + j * 7 + 6, none⟩ = some (.bool hex) := hcell 6 (by omega) _ rfl
        have hsz := hb.size
        have hbt : Below w.heap.size w (wr.alloc (.cells #[.int .i64 kind, .int .i64 xo, .int .i64 xl, .int .i64 xc, .string ⟨text.toArray⟩, .int .u32 (val : Int), .bool hex] 34)) := hb.alloc hsz _
        have cs := Spell_any B0 p ⟨kind, text, val, hex⟩ xo xl xc (wr.alloc (.cells #[.int .i64 kind, .int .i64 xo, .int .i64 xl, .int .i64 xc, .string ⟨text.toArray⟩, .int .u32 (val : Int), .bool hex] 34)) (hE.below (hbt.mono hE.size)) (hT.below hbt) hxo
        have hO1 := hO.alloc (.cells #[.int .i64 kind, .int .i64 xo, .int .i64 xl, .int .i64 xc, .string ⟨text.toArray⟩, .int .u32 (val : Int), .bool hex] 34)
        have hdr : (xs.map (·.z)).drop j = ⟨kind, text, val, hex⟩ :: (xs.map (·.z)).drop (j + 1) := by
          have : (xs.map (·.z))[j]? = some ⟨kind, text, val, hex⟩ := by rw [List.getElem?_map, hxj]; rfl
          obtain ⟨q1, q2⟩ := List.getElem?_eq_some_iff.1 this
          rw [List.drop_eq_getElem_cons q1, q2]
        have hrn : (xs.map (·.z)).drop (j + 1) ≠ [] ↔ j + 1 < n := by
          rw [Ne, List.drop_eq_nil_iff, List.length_map, ← HNN.out]; omega
        unfold tzV tzC at cs
        simp only at cs
        clear hcell hxj
        by_cases hE0 : kind = 0 ∧ j + 1 < n
        · have HY : Hid (jnV (xs.map (·.z)) = .tuple #[.string ⟨#[]⟩, .int .i64 20]) := by
            show jnV _ = _
            unfold jnV
            rw [hh.out, hdr, joinF, if_pos ⟨hE0.1, hrn.2 hE0.2⟩]
            rfl
          obtain ⟨e1, e2⟩ := hE0
          subst e1
          have e2' : (j : Int) < n - 1 := by omega
          clear hh hdr hrn hO1 cs hO
          go_wp2
          go_ret2
          exact ⟨by rw [← HX.out, HY.out]; rfl, hbt⟩
        · by_cases hk0 : kind = 0
          · subst hk0
            have e2' : ¬ (j : Int) < n - 1 := by omega
            cases hsp : spz ⟨0, text, val, hex⟩ with
            | none =>
              have HY : Hid (jnV (xs.map (·.z)) = .tuple #[.string ⟨#[]⟩, .int .i64 20]) := by
                show jnV _ = _
                unfold jnV
                rw [hh.out, hdr, joinF, if_neg (fun e => hE0 ⟨e.1, hrn.1 e.2⟩), hsp]
                rfl
              have hsv : spV2 ⟨0, text, val, hex⟩ = .tuple #[.string ⟨#[]⟩, .int .i64 20] := by unfold spV2; rw [hsp]
              rw [hsv] at cs
              clear hsv hsp hh hdr hrn hE0 hO1 hO
              go_wp2_with (first
                | (go_at_call 29; refine cs.mono ?_; rintro e w2 ⟨rfl, hb2'⟩))
              go_ret2
              exact ⟨by rw [← HX.out, HY.out]; rfl, hbt.trans (hb2'.mono hbt.size)⟩
            | some b =>
              have hbl := spz_len hsp hxo.1
              have hbs : (⟨b.toArray⟩ : ByteArray).size = b.length := by show b.toArray.size = _; rw [List.size_toArray]
              have hsv : spV2 ⟨0, text, val, hex⟩ = .tuple #[.string ⟨b.toArray⟩, .int .i64 0] := by unfold spV2; rw [hsp]
              rw [hsv] at cs
              have HJ : Hid (joinF true (xs.map (·.z)) = (joinF (decide (j + 1 = 0)) ((xs.map (·.z)).drop (j + 1))).map (((if j = 0 then out else out ++ [32]) ++ b) ++ ·)) := by
                show _ = _
                rw [hh.out, hdr, joinF, if_neg (fun e => hE0 ⟨e.1, hrn.1 e.2⟩), hsp]
                simp only [Option.map_map]
                rw [decide_eq_false (by omega : ¬ j + 1 = 0)]
                congr 1
                funext r
                by_cases h0 : j = 0 <;> simp [h0]
              clear hsv hsp hh hdr hrn hE0
              by_cases hj0 : j = 0
              · have hj0' : ¬ (0 : Int) < j := by omega
                rw [if_pos hj0] at HJ
                clear hj0
                go_wp2_with (first
                  | (go_at_call 29; refine cs.mono ?_; rintro e w2 ⟨rfl, hb2'⟩; have hb2 := hbt.trans (hb2'.mono hbt.size); have hO2 := own_below hO1 hb2')
                  | (at_builtin; refine Lib.wpList_append_own_string _ rfl (.tmp 39) (.tmp 40) 71 9 rfl w.heap.size 5 i0 Tryz.underlying71 Tryz.underlying9 hi hz0 hz1 hz2 _ _ _ rfl hO2 ⟨b.toArray⟩ rfl (by rw [hbs]; unfold maxLen; omega) (by rw [hbs]; omega) (by have := hb2.size; omega) ?_))
                intro v6 w6 ho6 hg6 _
                rw [str_cells, ← List.map_append] at ho6
                have hb6 := hb2.grown hg6 hb2.size (fun k e => (hO2.lt k e).1)
                have ho7 : w6.ownsRow w.heap.size 5 1 v6 (out ++ b).length ((out ++ b).map B) := by rw [List.length_append]; exact ho6
                clear ho6 hg6 hO2 hb2 hO1 hO cs x0 x1 x2 x3 x4 x5 x6 hbt hb2'
                go_wp2
                go_roundw
                case rel => exact ⟨j + 1, out ++ b, by omega, by go_num, ho7, hb6, by simp; omega, HJ.out⟩
                case measure => simp [intOf]; omega
              · have hj0' : (0 : Int) < j := by omega
                rw [if_neg hj0] at HJ
                go_wp2_with (first
                  | (go_at_call 29; refine cs.mono ?_; rintro e w2 ⟨rfl, hb2'⟩; have hb2 := hbt.trans (hb2'.mono hbt.size); have hO2 := own_below hO1 hb2')
                  | (at_builtin; refine wpList_append_own _ rfl (.tmp 36) (.tmp 37) 71 rfl w.heap.size 5 i0 (.int .u8 0) 1 1 Tryz.underlying71 hi hz0 hz1 hz2 rfl (by decide) _ _ _ rfl (hO2.alloc _) ⟨w2.heap.size, 0, none⟩ 1 1 [.int .u8 32] rfl rfl (cell_one_new' _ _ _) (by intro u hu; simp at hu; subst hu; rfl) (by unfold maxLen; omega) (by omega) (by have := hb2.size; simp; omega) ?_))
                intro v6 w6 ho6 hg6 _
                have hb6 := hb2.grown (grown_alloc hg6) hb2.size (fun k e => (hO2.lt k e).1)
                have ho7 : w6.ownsRow w.heap.size 5 1 v6 (out.length + 1) (out.map B ++ [.int .u8 32]) := ho6
                obtain ⟨av6, cv6, rfl⟩ := owns_shape ho7
                have hsz6 := hb6.size
                clear ho6 hg6 hO2 hb2 hO1 hO cs x0 x1 x2 x3 x4 x5 x6 hbt hb2'
                go_wp2_with (first
                  | (at_builtin; refine Lib.wpList_append_own_string _ rfl (.tmp 39) (.tmp 40) 71 9 rfl w.heap.size 5 i0 Tryz.underlying71 Tryz.underlying9 hi hz0 hz1 hz2 _ _ _ rfl ho7 ⟨b.toArray⟩ rfl (by rw [hbs]; unfold maxLen; omega) (by rw [hbs]; omega) (by have := hb6.size; omega) ?_))
                intro v8 w8 ho8 hg8 _
                rw [str_cells] at ho8
                have hb8 := hb6.grown hg8 hb6.size (fun k e => (ho7.lt k e).1)
                have ho9 : w8.ownsRow w.heap.size 5 1 v8 (out ++ [32] ++ b).length ((out ++ [32] ++ b).map B) := by
                  rw [List.length_append, List.length_append, List.map_append, List.map_append, List.append_assoc]; exact ho8
                clear ho8 hg8 ho7 hb6
                go_wp2
                go_roundw
                case rel => exact ⟨j + 1, out ++ [32] ++ b, by omega, by go_num, ho9, hb8, by simp; omega, HJ.out⟩
                case measure => simp [intOf]; omega
          · have hk0' : (kind == 0) = false := by rw [beq_eq_false_iff_ne]; exact hk0
            cases hsp : spz ⟨kind, text, val, hex⟩ with
            | none =>
              have HY : Hid (jnV (xs.map (·.z)) = .tuple #[.string ⟨#[]⟩, .int .i64 20]) := by
                show jnV _ = _
                unfold jnV
                rw [hh.out, hdr, joinF, if_neg (fun e => hE0 ⟨e.1, hrn.1 e.2⟩), hsp]
                rfl
              have hsv : spV2 ⟨kind, text, val, hex⟩ = .tuple #[.string ⟨#[]⟩, .int .i64 20] := by unfold spV2; rw [hsp]
              rw [hsv] at cs
              clear hsv hsp hh hdr hrn hE0 hO1 hO
              go_wp2_with (first
                | (go_at_call 29; refine cs.mono ?_; rintro e w2 ⟨rfl, hb2'⟩))
              go_ret2
              exact ⟨by rw [← HX.out, HY.out]; rfl, hbt.trans (hb2'.mono hbt.size)⟩
            | some b =>
              have hbl := spz_len hsp hxo.1
              have hbs : (⟨b.toArray⟩ : ByteArray).size = b.length := by show b.toArray.size = _; rw [List.size_toArray]
              have hsv : spV2 ⟨kind, text, val, hex⟩ = .tuple #[.string ⟨b.toArray⟩, .int .i64 0] := by unfold spV2; rw [hsp]
              rw [hsv] at cs
              have HJ : Hid (joinF true (xs.map (·.z)) = (joinF (decide (j + 1 = 0)) ((xs.map (·.z)).drop (j + 1))).map (((if j = 0 then out else out ++ [32]) ++ b) ++ ·)) := by
                show _ = _
                rw [hh.out, hdr, joinF, if_neg (fun e => hE0 ⟨e.1, hrn.1 e.2⟩), hsp]
                simp only [Option.map_map]
                rw [decide_eq_false (by omega : ¬ j + 1 = 0)]
                congr 1
                funext r
                by_cases h0 : j = 0 <;> simp [h0]
              clear hsv hsp hh hdr hrn hE0
              by_cases hj0 : j = 0
              · have hj0' : ¬ (0 : Int) < j := by omega
                rw [if_pos hj0] at HJ
                clear hj0
                go_wp2_with (first
                  | (go_at_call 29; refine cs.mono ?_; rintro e w2 ⟨rfl, hb2'⟩; have hb2 := hbt.trans (hb2'.mono hbt.size); have hO2 := own_below hO1 hb2')
                  | (at_builtin; refine Lib.wpList_append_own_string _ rfl (.tmp 39) (.tmp 40) 71 9 rfl w.heap.size 5 i0 Tryz.underlying71 Tryz.underlying9 hi hz0 hz1 hz2 _ _ _ rfl hO2 ⟨b.toArray⟩ rfl (by rw [hbs]; unfold maxLen; omega) (by rw [hbs]; omega) (by have := hb2.size; omega) ?_))
                intro v6 w6 ho6 hg6 _
                rw [str_cells, ← List.map_append] at ho6
                have hb6 := hb2.grown hg6 hb2.size (fun k e => (hO2.lt k e).1)
                have ho7 : w6.ownsRow w.heap.size 5 1 v6 (out ++ b).length ((out ++ b).map B) := by rw [List.length_append]; exact ho6
                clear ho6 hg6 hO2 hb2 hO1 hO cs x0 x1 x2 x3 x4 x5 x6 hbt hb2'
                go_wp2
                go_roundw
                case rel => exact ⟨j + 1, out ++ b, by omega, by go_num, ho7, hb6, by simp; omega, HJ.out⟩
                case measure => simp [intOf]; omega
              · have hj0' : (0 : Int) < j := by omega
                rw [if_neg hj0] at HJ
                go_wp2_with (first
                  | (go_at_call 29; refine cs.mono ?_; rintro e w2 ⟨rfl, hb2'⟩; have hb2 := hbt.trans (hb2'.mono hbt.size); have hO2 := own_below hO1 hb2')
                  | (at_builtin; refine wpList_append_own _ rfl (.tmp 36) (.tmp 37) 71 rfl w.heap.size 5 i0 (.int .u8 0) 1 1 Tryz.underlying71 hi hz0 hz1 hz2 rfl (by decide) _ _ _ rfl (hO2.alloc _) ⟨w2.heap.size, 0, none⟩ 1 1 [.int .u8 32] rfl rfl (cell_one_new' _ _ _) (by intro u hu; simp at hu; subst hu; rfl) (by unfold maxLen; omega) (by omega) (by have := hb2.size; simp; omega) ?_))
                intro v6 w6 ho6 hg6 _
                have hb6 := hb2.grown (grown_alloc hg6) hb2.size (fun k e => (hO2.lt k e).1)
                have ho7 : w6.ownsRow w.heap.size 5 1 v6 (out.length + 1) (out.map B ++ [.int .u8 32]) := ho6
                obtain ⟨av6, cv6, rfl⟩ := owns_shape ho7
                have hsz6 := hb6.size
                clear ho6 hg6 hO2 hb2 hO1 hO cs x0 x1 x2 x3 x4 x5 x6 hbt hb2'
                go_wp2_with (first
                  | (at_builtin; refine Lib.wpList_append_own_string _ rfl (.tmp 39) (.tmp 40) 71 9 rfl w.heap.size 5 i0 Tryz.underlying71 Tryz.underlying9 hi hz0 hz1 hz2 _ _ _ rfl ho7 ⟨b.toArray⟩ rfl (by rw [hbs]; unfold maxLen; omega) (by rw [hbs]; omega) (by have := hb6.size; omega) ?_))
                intro v8 w8 ho8 hg8 _
                rw [str_cells] at ho8
                have hb8 := hb6.grown hg8 hb6.size (fun k e => (ho7.lt k e).1)
                have ho9 : w8.ownsRow w.heap.size 5 1 v8 (out ++ [32] ++ b).length ((out ++ [32] ++ b).map B) := by
                  rw [List.length_append, List.length_append, List.map_append, List.map_append, List.append_assoc]; exact ho8
                clear ho8 hg8 ho7 hb6
                go_wp2
                go_roundw
                case rel => exact ⟨j + 1, out ++ [32] ++ b, by omega, by go_num, ho9, hb8, by simp; omega, HJ.out⟩
                case measure => simp [intOf]; omega
      · have hlt' : ¬ (j : Int) < n := by omega
        have HY : Hid (jnV (xs.map (·.z)) = .tuple #[.string ⟨out.toArray⟩, .int .i64 0]) := by
          show jnV _ = _
          unfold jnV
          rw [hh.out, List.drop_eq_nil_of_le (by rw [List.length_map, ← HNN.out]; omega)]
          simp [joinF]
        have hcv := conv_own hO
        clear hh
        go_wp2
        go_ret2
        exact ⟨by rw [← HX.out, HY.out]; rfl, hb⟩
end Go.Proofs.YtnmknnkpkkefoaaGreatDoor
