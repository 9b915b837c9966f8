import Derived.Test.YtlbgppijeoonjaaGreatDoorScaX
namespace Go.Proofs.YtlbgppijeoonjaaGreatDoor
open Go.RowKit
set_option linter.unusedVariables false

def tk0 : Tk := ⟨0, [], 0, false⟩
/-- What a call that takes a token leaves. -/
def TokPost (p : Nat → Addr) (w : World) (r : Nat) (s : ByteArray) (off : Nat) (x : TR) (e : Ending) (w' : World) : Prop :=
  match x with
  | .ok k len => e = .returned (.tuple #[tkV k s.data.toList off, .nilIface]) ∧ Sc w' r s (off + len) ∧ w.grownBy w' (some r)
  | .bad c at_ => ∃ q, e = .returned (.tuple #[.agg zero7, .iface 139 (.pointer (some ⟨q, 0, none⟩))]) ∧ w.heap.size ≤ q ∧ ErrAt w' q (.iface 224 (.pointer (some (p c)))) s.data.toList (off + at_) ∧ w.grownBy w' (some r)

theorem res_tok {fn : Func} (hf : fn.results = #[.cell 2 57, .tmp 3]) (tmps : Array Value) (b : Nat) (e : Value) (w : World) (v0 v1 v2 v3 v4 v5 v6 : Value)
    (h2 : tmps[2]? = some (.pointer (some ⟨b, 0, none⟩))) (h3 : tmps[3]? = some e) (hk : w.heap[b]? = some (.cells #[v0, v1, v2, v3, v4, v5, v6] 57 (0, 0))) :
    (results fn tmps).run Tryz.prog w = .ok (.tuple #[.agg #[v0, v1, v2, v3, v4, v5, v6], e]) w := by
  have a1 := fun i => cell_of_row w b i _ _ (0, 0) hk
  have z0 := a1 0; have z1 := a1 1; have z2 := a1 2; have z3 := a1 3; have z4 := a1 4; have z5 := a1 5; have z6 := a1 6
  simp at z0 z1 z2 z3 z4 z5 z6
  simp [results, hf, go_sem, h2, h3, z0, z1, z2, z3, z4, z5, z6]

theorem clone_any (s : ByteArray) (w : World) (hlim : s.size ≤ 281474976710656) : Calls Tryz.prog 112 #[.string s] w fun e w' => e = .returned (.string s) ∧ Below w.heap.size w w' := by
  go_enter Tryz.func112, Tryz.ntmps112
  go_wp2_with (go_at_call 125; refine (Tryz.stringslite_Clone s _ hlim).mono ?_; rintro e w' ⟨rfl, hb⟩)
  go_ret
  exact ⟨rfl, hb⟩
/-- The result's variable, new at the entry. -/
theorem var_in (w : World) {w1 : World} (hb : Below (w.alloc (.cells zero7 57)).heap.size (w.alloc (.cells zero7 57)) w1) : w1.heap[w.heap.size]? = some (.cells zero7 57 (0, 0)) :=
  (hb.block _ (by simp)).trans (heap_alloc_new w _)
theorem var_grown {w1 w2 : World} {b r : Nat} (h : w1.heap[b]? = some (.cells zero7 57 (0, 0))) (hg : w1.grownBy w2 (some r)) (hne : b ≠ r) : w2.heap[b]? = some (.cells zero7 57 (0, 0)) := by
  have hlt : b < w1.heap.size := by
    rcases Nat.lt_or_ge b w1.heap.size with h' | h'
    · exact h'
    · rw [Array.getElem?_eq_none h'] at h; cases h
  exact (hg.block b hlt (fun e => by cases e; exact hne rfl)).trans h
theorem below_two {w w1 : World} (o : Obj) (hb : Below (w.alloc o).heap.size (w.alloc o) w1) : Below w.heap.size w w1 := ((Below.refl _ _).alloc (Nat.le_refl _) o).trans (hb.mono (by simp))
theorem fin_bad {fn : Func} (hf : fn.results = #[.cell 2 57, .tmp 3]) (p : Nat → Addr) (w w3 : World) (r : Nat) (s : ByteArray) (off c at_ q : Nat) (tmps : Array Value)
    (hv : w3.heap[w.heap.size]? = some (.cells zero7 57 (0, 0))) (hg : w.grownBy w3 (some r)) (hq : w.heap.size < q)
    (hErr : ErrAt w3 q (.iface 224 (.pointer (some (p c)))) s.data.toList (off + at_))
    (h2 : tmps[2]? = some (.pointer (some ⟨w.heap.size, 0, none⟩))) (h3 : tmps[3]? = some (.iface 139 (.pointer (some ⟨q, 0, none⟩)))) :
    bodyPost Tryz.prog fn (fun e w' => TokPost p w r s off (.bad c at_) e w') .ret { tmps := tmps, defers := [] } (set7 w3 w.heap.size (.int .i64 0) (.int .i64 0) (.int .i64 0) (.int .i64 0) (.string ⟨#[]⟩) (.int .u32 0) (.bool false)) := by
  have g7 := set7_grown w3 w.heap.size (.int .i64 0) (.int .i64 0) (.int .i64 0) (.int .i64 0) (.string ⟨#[]⟩) (.int .u32 0) (.bool false)
  refine bodyPost_ret (res_tok hf tmps w.heap.size _ _ _ _ _ _ _ _ _ h2 h3 (set7_at w3 w.heap.size _ _ _ _ _ _ _ _ _ _ _ _ _ _ _ hv)) rfl ?_
  exact ⟨q, rfl, Nat.le_of_lt hq, (g7.block q (heap_lt hErr) (fun e => by cases e; omega)).trans hErr, grown_new hg g7 (Nat.le_refl _)⟩
theorem fin_ok {fn : Func} (hf : fn.results = #[.cell 2 57, .tmp 3]) (p : Nat → Addr) (w w3 : World) (r : Nat) (s : ByteArray) (off len : Nat) (k : Tk) (tmps : Array Value)
    (hv : w3.heap[w.heap.size]? = some (.cells zero7 57 (0, 0))) (hg : w.grownBy w3 (some r)) (hr : r < w.heap.size) (hS : Sc w3 r s (off + len))
    (h2 : tmps[2]? = some (.pointer (some ⟨w.heap.size, 0, none⟩))) (h3 : tmps[3]? = some .nilIface) :
    bodyPost Tryz.prog fn (fun e w' => TokPost p w r s off (.ok k len) e w') .ret { tmps := tmps, defers := [] }
      (set7 w3 w.heap.size (.int .i64 (k.kind : Int)) (.int .i64 (off : Int)) (.int .i64 (lineN s.data.toList off : Int)) (.int .i64 (colN s.data.toList off : Int)) (.string ⟨k.text.toArray⟩) (.int .u32 (k.val : Int)) (.bool k.hex)) := by
  have g7 := set7_grown w3 w.heap.size (.int .i64 (k.kind : Int)) (.int .i64 (off : Int)) (.int .i64 (lineN s.data.toList off : Int)) (.int .i64 (colN s.data.toList off : Int)) (.string ⟨k.text.toArray⟩) (.int .u32 (k.val : Int)) (.bool k.hex)
  refine bodyPost_ret (res_tok hf tmps w.heap.size _ _ _ _ _ _ _ _ _ h2 h3 (set7_at w3 w.heap.size _ _ _ _ _ _ _ _ _ _ _ _ _ _ _ hv)) rfl ?_
  exact ⟨rfl, Sc.grown hS g7 (by omega), grown_new hg g7 (Nat.le_refl _)⟩
set_option maxHeartbeats 1000000 in
set_option maxRecDepth 100000 in
theorem name_any (B r off : Nat) (p : Nat → Addr) (s : ByteArray) (w : World) (hE : Env B p w) (h : Sc w r s off) (hr : B ≤ r) (ho : off ≤ s.size) (hs : s.size < 4294967281) :
    Calls Tryz.prog 97 #[.pointer (some ⟨r, 0, none⟩)] w fun e w' => TokPost p w r s off (if 63 < wlen (s.data.toList.drop off) then .bad 24 0 else .ok ⟨1, (s.data.toList.drop off).take (wlen (s.data.toList.drop off)), 0, false⟩ (wlen (s.data.toList.drop off))) e w' := by
  have hrl := Sc4.lt h
  have hBs := hE.size
  have hwl := wlen_le (s.data.toList.drop off)
  rw [List.length_drop, len_all] at hwl
  have cw := fun w => wordLength_any (rst s off) w (by rw [rst_size]; omega)
  rw [rst_list] at cw
  have hsl : ∀ w, (Instr.slice 9 (.string (rst s off)) none (some (.int .i64 (wlen (s.data.toList.drop off) : Int))) none).run Tryz.prog w = .ok (.string ⟨((s.data.toList.drop off).take (wlen (s.data.toList.drop off))).toArray⟩) w := fun w => by
    have h1 : (0 : Int) ≤ (wlen (s.data.toList.drop off) : Int) ∧ (wlen (s.data.toList.drop off) : Int) ≤ (rst s off).size := by rw [rst_size]; omega
    rw [run_slice_string_to_if w _ _ _ _ Tryz.underlying9, if_pos h1]
    rw [same_bytes _ ((rst s off).extract 0 (wlen (s.data.toList.drop off) : Int).toNat) (by rw [Lib.extract_data, rst_list]; simp)]
  have htl : ((s.data.toList.drop off).take (wlen (s.data.toList.drop off))).length ≤ 4294967281 := by rw [List.length_take, List.length_drop, len_all]; omega
  generalize (s.data.toList.drop off).take (wlen (s.data.toList.drop off)) = tx at *
  generalize wlen (s.data.toList.drop off) = n at *
  have hE1 : ∀ {w1 : World}, Below (w.alloc (.cells zero7 57)).heap.size (w.alloc (.cells zero7 57)) w1 → Env B p w1 := fun hb => hE.below ((below_two _ hb).mono hBs)
  by_cases hn : 63 < n
  · have hn' : (63 : Int) < n := by omega
    rw [if_pos hn]
    clear hsl htl
    go_enter Tryz.func97, Tryz.ntmps97
    go_wp2_with fail
    refine (rest_any r off _ _ s _ (Sc4.alloc h _) ho hs).mono ?_
    rintro e w1 ⟨rfl, hb1⟩
    have lg := (hE1 hb1).long
    have hS1 : Sc w1 r s off := Sc4.below (Sc4.alloc h _) hb1
    have hv1 := var_in w hb1
    have hb1' := below_two _ hb1
    have hs1 := hb1.size
    simp only [World.size_alloc] at hs1
    go_wp2_with (first
      | (go_at_call 111; refine (cw _).mono ?_; rintro e w2 ⟨rfl, rfl⟩))
    refine (wrong_any r off s 0 _ hS1 (by omega) (fun i hi => absurd hi (Nat.not_lt_zero _)) _ _).mono ?_
    rintro e w3 ⟨q, rfl, hq, hErr, hb3⟩
    have hv3 : w3.heap[w.heap.size]? = _ := (hb3.block _ (heap_lt hv1)).trans hv1
    obtain ⟨y0, y1, y2, y3, y4, y5, y6, f⟩ := varF hv3
    have hg3 : w.grownBy w3 (some r) := grown_of_below (hb1'.trans (hb3.mono (by omega)))
    clear hb1 hb1' hv1 hS1 lg
    go_wp2
    exact fin_bad Tryz.results97 p w w3 r s off 24 0 q _ hv3 hg3 (by omega) hErr rfl rfl
  · have hn' : ¬ (63 : Int) < n := by omega
    rw [if_neg hn]
    go_enter Tryz.func97, Tryz.ntmps97
    go_wp2_with fail
    refine (rest_any r off _ _ s _ (Sc4.alloc h _) ho hs).mono ?_
    rintro e w1 ⟨rfl, hb1⟩
    have hS1 : Sc w1 r s off := Sc4.below (Sc4.alloc h _) hb1
    have hv1 := var_in w hb1
    have hb1' := below_two _ hb1
    have hs1 := hb1.size
    simp only [World.size_alloc] at hs1
    go_wp2_with (first
      | (go_at_call 111; refine (cw _).mono ?_; rintro e w2 ⟨rfl, rfl⟩))
    refine (rest_any r off _ _ s _ hS1 ho hs).mono ?_
    rintro e w2 ⟨rfl, hb2⟩
    have hS2 : Sc w2 r s off := Sc4.below hS1 hb2
    have hv2 : w2.heap[w.heap.size]? = _ := (hb2.block _ (heap_lt hv1)).trans hv1
    have hb2' := hb1'.trans (hb2.mono (by omega))
    have hs2 := hb2.size
    go_wp2_with fail
    refine (clone_any _ _ (by show tx.toArray.size ≤ _; rw [List.size_toArray]; omega)).mono ?_
    rintro e w3 ⟨rfl, hb3⟩
    have hS3 : Sc w3 r s off := Sc4.below hS2 hb3
    have hv3 : w3.heap[w.heap.size]? = _ := (hb3.block _ (heap_lt hv2)).trans hv2
    have hb3' := hb2'.trans (hb3.mono (by omega))
    have hs3 := hb3.size
    clear hb1 hb1' hb2 hb2' hv1 hv2 hS1 hS2
    go_wp2_with fail
    refine (take_any r off s n ⟨1, tx, 0, false⟩ _ hS3 (by omega) hs).mono ?_
    rintro e w4 ⟨rfl, hS4, hg4⟩
    have hv4 := var_grown hv3 hg4 (by omega)
    obtain ⟨y0, y1, y2, y3, y4, y5, y6, f⟩ := varF hv4
    have hg5 : w.grownBy w4 (some r) := grown_trans (grown_of_below hb3') hg4
    unfold tkV tkC
    simp only
    go_wp2
    exact fin_ok Tryz.results97 p w w4 r s off n ⟨1, tx, 0, false⟩ _ hv4 hg5 hrl hS4 rfl rfl
end Go.Proofs.YtlbgppijeoonjaaGreatDoor

namespace Go.Proofs.YtlbgppijeoonjaaGreatDoor
open Go.RowKit
set_option linter.unusedVariables false

def sgn : Nat → UInt8
  | 0 => 123 | 1 => 125 | 2 => 61 | 3 => 59 | _ => 58
def marksV : Value := .agg #[.int .u8 123, .int .i64 4, .int .u8 125, .int .i64 5, .int .u8 61, .int .i64 6, .int .u8 59, .int .i64 7, .int .u8 58, .int .i64 8]
theorem marks_0 (w : World) : (Instr.index 188 marksV (.int .i64 0)).run Tryz.prog w = .ok (.agg #[.int .u8 123, .int .i64 4]) w := by kernel_rfl
theorem marks_1 (w : World) : (Instr.index 188 marksV (.int .i64 1)).run Tryz.prog w = .ok (.agg #[.int .u8 125, .int .i64 5]) w := by kernel_rfl
theorem marks_2 (w : World) : (Instr.index 188 marksV (.int .i64 2)).run Tryz.prog w = .ok (.agg #[.int .u8 61, .int .i64 6]) w := by kernel_rfl
theorem marks_3 (w : World) : (Instr.index 188 marksV (.int .i64 3)).run Tryz.prog w = .ok (.agg #[.int .u8 59, .int .i64 7]) w := by kernel_rfl
theorem marks_4 (w : World) : (Instr.index 188 marksV (.int .i64 4)).run Tryz.prog w = .ok (.agg #[.int .u8 58, .int .i64 8]) w := by kernel_rfl
theorem marks_at (j : Nat) (h : j < 5) (w : World) : (Instr.index 188 marksV (.int .i64 (j : Int))).run Tryz.prog w = .ok (.agg #[.int .u8 ((sgn j).toNat : Int), .int .i64 (((4 + j : Nat)) : Int)]) w := by
  have hj : j = 0 ∨ j = 1 ∨ j = 2 ∨ j = 3 ∨ j = 4 := by omega
  rcases hj with rfl | rfl | rfl | rfl | rfl
  · exact marks_0 w
  · exact marks_1 w
  · exact marks_2 w
  · exact marks_3 w
  · exact marks_4 w
theorem mrk_yes (c : UInt8) (j : Nat) (h : j < 5) (hc : sgn j = c) : mrk c = 4 + j := by
  subst hc
  match j, h with
  | 0, _ => rfl
  | 1, _ => rfl
  | 2, _ => rfl
  | 3, _ => rfl
  | 4, _ => rfl
theorem mrk_no (c : UInt8) (h : ∀ i, i < 5 → sgn i ≠ c) : mrk c = 0 := by
  unfold mrk
  rw [if_neg (fun e => h 0 (by omega) e.symm), if_neg (fun e => h 1 (by omega) e.symm), if_neg (fun e => h 2 (by omega) e.symm), if_neg (fun e => h 3 (by omega) e.symm), if_neg (fun e => h 4 (by omega) e.symm)]
set_option maxHeartbeats 2000000 in
set_option maxRecDepth 100000 in
theorem mark_any (B r off : Nat) (p : Nat → Addr) (s : ByteArray) (c : UInt8) (w : World) (hE : Env B p w) (h : Sc w r s off) (hr : B ≤ r) (ho : off < s.size) (hc : s[off] = c) (hs : s.size < 4294967281) (x : TR) (hx : x = if mrk c = 0 then .bad 20 0 else .ok ⟨mrk c, [], 0, false⟩ 1) :
    Calls Tryz.prog 101 #[.pointer (some ⟨r, 0, none⟩)] w fun e w' => TokPost p w r s off x e w' := by
  have HX : Hid (x = if mrk c = 0 then .bad 20 0 else .ok ⟨mrk c, [], 0, false⟩ 1) := hx
  clear hx
  have hrl := Sc4.lt h
  have hBs := hE.size
  have hix : ∀ w, (Instr.index 9 (.string s) (.int .i64 (off : Int))).run Tryz.prog w = .ok (.int .u8 (c.toNat : Int)) w := fun w => by
    rw [← hc]; exact index_at s off _ w ho rfl
  have hE1 : ∀ {w1 : World}, Below (w.alloc (.cells zero7 57)).heap.size (w.alloc (.cells zero7 57)) w1 → Env B p w1 := fun hb => hE.below ((below_two _ hb).mono hBs)
  have hE0 := hE1 (Below.refl _ _)
  obtain ⟨-, -, -, -, -, -, -, -, -, -, q0, q1, q2, q3, q4, q5, q6, q7, q8, q9, -, -⟩ := hE0
  unfold zero7 at q0 q1 q2 q3 q4 q5 q6 q7 q8 q9
  clear hc
  go_enter Tryz.func101, Tryz.ntmps101
  go_wp2
  go_loopw [7] (fun i wr => ∃ j : Nat, j ≤ 5 ∧ i = .int .i64 j ∧ (∀ k, k < j → sgn k ≠ c) ∧ Below (w.alloc (.cells zero7 57)).heap.size (w.alloc (.cells zero7 57)) wr) (fun i _ => 5 - (intOf i).toNat)
  case atStart => exact ⟨0, by omega, rfl, fun k h => absurd h (Nat.not_lt_zero _), Below.refl _ _⟩
  case round =>
    obtain ⟨j, hj, rfl, hne, hb⟩ := hrel
    have HNE : Hid (∀ k, k < j → sgn k ≠ c) := hne
    clear hne
    have hS1 : Sc wr r s off := Sc4.below (Sc4.alloc h _) hb
    have hv1 := var_in w hb
    have hs1 := hb.size
    simp only [World.size_alloc] at hs1
    clear q0 q1 q2 q3 q4 q5 q6 q7 q8 q9
    by_cases h5 : j < 5
    · have h5' : (j : Int) < 5 := by omega
      have hma := marks_at j h5
      unfold marksV at hma
      have c0 : ∀ o, (wr.alloc o).cell? ⟨r, 0, none⟩ = _ := fun o => (Sc4.alloc hS1 o).c0
      have c1 : ∀ o, (wr.alloc o).cell? ⟨r, 1, none⟩ = _ := fun o => (Sc4.alloc hS1 o).c1
      by_cases hm : sgn j = c
      · have HM := mrk_yes c j h5 hm
        have HY : Hid (x = .ok ⟨4 + j, [], 0, false⟩ 1) := by show x = _; rw [HX.out, HM, if_neg (by omega)]
        rw [hm] at hma
        have hcc : ((c.toNat : Int) == (c.toNat : Int)) = true := by simp
        clear hm HM HX
        go_wp2
        go_quiet (fail)
        have hbq : Below w.heap.size w ((wr.alloc (.cells #[.int .u8 (c.toNat : Int), .int .i64 (4 + (j : Int))] 187)).drewN nq) := below_drewN (((below_two _ hb)).alloc (by omega) _) _
        have hS5 : Sc ((wr.alloc (.cells #[.int .u8 (c.toNat : Int), .int .i64 (4 + (j : Int))] 187)).drewN nq) r s off := Sc4.below (Sc4.alloc hS1 _) (below_drewN (Below.refl _ _) _)
        have hv5 : ((wr.alloc (.cells #[.int .u8 (c.toNat : Int), .int .i64 (4 + (j : Int))] 187)).drewN nq).heap[w.heap.size]? = some (.cells zero7 57 (0, 0)) := by
          rw [World.heap_drewN]
          exact (((Below.refl wr.heap.size wr).alloc (Nat.le_refl _) _).block _ (heap_lt hv1)).trans hv1
        have ct := take_any r off s 1 ⟨4 + j, [], 0, false⟩ _ hS5 (by omega) hs
        unfold tkV tkC at ct
        simp only at ct
        have e4 : ((4 + j : Nat) : Int) = 4 + (j : Int) := by omega
        rw [e4] at ct
        go_wp2_with fail
        refine ct.mono ?_
        rintro e w4 ⟨rfl, hS4, hg4⟩
        have hv4 := var_grown hv5 hg4 (by omega)
        obtain ⟨y0, y1, y2, y3, y4, y5, y6, f⟩ := varF hv4
        have hg5 : w.grownBy w4 (some r) := grown_trans (grown_of_below hbq) hg4
        clear ct hS5 hv5 hbq hg4 hS1 hv1 c0 c1 hma
        go_wp2
        rw [HY.out]
        have := fin_ok Tryz.results101 p w w4 r s off 1 ⟨4 + j, [], 0, false⟩
        simp only [e4] at this
        exact this _ hv4 hg5 hrl hS4 rfl rfl
      · have hcc : (((sgn j).toNat : Int) == (c.toNat : Int)) = false := by
          rw [beq_eq_false_iff_ne]; intro e; exact hm (UInt8.toNat_inj.1 (by omega))
        have HM : Hid (∀ k, k < j + 1 → sgn k ≠ c) := fun k hk => by
          by_cases e : k < j
          · exact HNE.out k e
          · have : k = j := by omega
            subst this; exact hm
        generalize sgn j = y at *
        clear hm HNE
        go_wp2
        go_quiet (fail)
        have hbq : Below (w.alloc (.cells zero7 57)).heap.size (w.alloc (.cells zero7 57)) ((wr.alloc (.cells #[.int .u8 (y.toNat : Int), .int .i64 (4 + (j : Int))] 187)).drewN nq) := below_drewN (hb.alloc hb.size _) _
        generalize ((wr.alloc (.cells #[.int .u8 (y.toNat : Int), .int .i64 (4 + (j : Int))] 187)).drewN nq) = w5 at *
        clear c0 c1 hma hS1 hv1
        go_wp2
        go_roundw
        case rel => exact ⟨j + 1, by omega, by go_num, HM.out, hbq⟩
        case measure => simp [intOf]; omega
    · have h5' : ¬ (j : Int) < 5 := by omega
      have HY : Hid (x = .bad 20 0) := by show x = _; rw [HX.out, if_pos (mrk_no c (fun i hi => HNE.out i (by omega)))]
      have lb := (hE1 hb).byte
      have hb1' := below_two _ hb
      clear HX HNE
      go_wp2_with fail
      refine (wrong_any r off s 0 _ hS1 (by omega) (fun i hi => absurd hi (Nat.not_lt_zero _)) _ _).mono ?_
      rintro e w3 ⟨q, rfl, hq, hErr, hb3⟩
      have hv3 : w3.heap[w.heap.size]? = _ := (hb3.block _ (heap_lt hv1)).trans hv1
      obtain ⟨y0, y1, y2, y3, y4, y5, y6, f⟩ := varF hv3
      have hg3 : w.grownBy w3 (some r) := grown_of_below (hb1'.trans (hb3.mono (by omega)))
      clear hb hb1' hv1 hS1 lb
      go_wp2
      rw [HY.out]
      exact fin_bad Tryz.results101 p w w3 r s off 20 0 q _ hv3 hg3 (by omega) hErr rfl rfl
end Go.Proofs.YtlbgppijeoonjaaGreatDoor

