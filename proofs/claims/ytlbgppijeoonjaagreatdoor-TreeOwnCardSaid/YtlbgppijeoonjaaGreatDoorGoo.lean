import Derived.Test.YtlbgppijeoonjaaGreatDoorGom
import Derived.Test.YtlbgppijeoonjaaGreatDoorGoq
import Derived.Test.YtlbgppijeoonjaaGreatDoorScaX
namespace Go.Proofs.YtlbgppijeoonjaaGreatDoor
open Go.RowKit
set_option linter.unusedVariables false

set_option maxHeartbeats 1000000 in
theorem rmark_any (c : UInt8) (w : World) : Calls Tryz.prog 76 #[.int .u8 c.toNat] w fun e w' => e = .returned (.int .i64 (mrk c : Int)) ∧ w' = w := by
  by_cases h1 : c = 123
  · subst h1
    show Calls Tryz.prog 76 #[.int .u8 123] w fun e w' => e = .returned (.int .i64 4) ∧ w' = w
    go_enter Tryz.func76, Tryz.ntmps76
    go_wp2
    go_ret
    exact ⟨rfl, rfl⟩
  · by_cases h2 : c = 125
    · subst h2
      show Calls Tryz.prog 76 #[.int .u8 125] w fun e w' => e = .returned (.int .i64 5) ∧ w' = w
      go_enter Tryz.func76, Tryz.ntmps76
      go_wp2
      go_ret
      exact ⟨rfl, rfl⟩
    · by_cases h3 : c = 61
      · subst h3
        show Calls Tryz.prog 76 #[.int .u8 61] w fun e w' => e = .returned (.int .i64 6) ∧ w' = w
        go_enter Tryz.func76, Tryz.ntmps76
        go_wp2
        go_ret
        exact ⟨rfl, rfl⟩
      · by_cases h4 : c = 59
        · subst h4
          show Calls Tryz.prog 76 #[.int .u8 59] w fun e w' => e = .returned (.int .i64 7) ∧ w' = w
          go_enter Tryz.func76, Tryz.ntmps76
          go_wp2
          go_ret
          exact ⟨rfl, rfl⟩
        · by_cases h5 : c = 58
          · subst h5
            show Calls Tryz.prog 76 #[.int .u8 58] w fun e w' => e = .returned (.int .i64 8) ∧ w' = w
            go_enter Tryz.func76, Tryz.ntmps76
            go_wp2
            go_ret
            exact ⟨rfl, rfl⟩
          · have e1 : ((c.toNat : Int) == 123) = false := u8_ne h1
            have e2 : ((c.toNat : Int) == 125) = false := u8_ne h2
            have e3 : ((c.toNat : Int) == 61) = false := u8_ne h3
            have e4 : ((c.toNat : Int) == 59) = false := u8_ne h4
            have e5 : ((c.toNat : Int) == 58) = false := u8_ne h5
            have hB : mrk c = 0 := by unfold mrk; rw [if_neg h1, if_neg h2, if_neg h3, if_neg h4, if_neg h5]
            rw [hB]
            clear h1 h2 h3 h4 h5 hB
            go_enter Tryz.func76, Tryz.ntmps76
            go_wp2
            go_ret
            exact ⟨rfl, rfl⟩
/-- What one token's reading answers. -/
def oneV (i : Nat) (x : TR) : Value := match x with
  | .ok k len => .tuple #[.agg (tkC k 0 0 0), .int .i64 ((i + len : Nat) : Int), .int .i64 0, .int .i64 0]
  | .bad c a => .tuple #[.agg zero7, .int .i64 0, .int .i64 (c : Int), .int .i64 ((i + a : Nat) : Int)]
theorem res_one {fn : Func} {n1 n2 n3 n4 : Nat} (hf : fn.results = #[.cell n1 57, .tmp n2, .tmp n3, .tmp n4]) (tmps : Array Value) (b : Nat) (e1 e2 e3 : Value) (w : World) (v0 v1 v2 v3 v4 v5 v6 : Value)
    (h1 : tmps[n1]? = some (.pointer (some ⟨b, 0, none⟩))) (h2 : tmps[n2]? = some e1) (h3 : tmps[n3]? = some e2) (h4 : tmps[n4]? = some e3) (hk : w.heap[b]? = some (.cells #[v0, v1, v2, v3, v4, v5, v6] 57 (0, 0))) :
    (results fn tmps).run Tryz.prog w = .ok (.tuple #[.agg #[v0, v1, v2, v3, v4, v5, v6], e1, e2, e3]) w := by
  have a1 := fun i => cell_of_row w b i _ _ (0, 0) hk
  have z0 := a1 0; have z1 := a1 1; have z2 := a1 2; have z3 := a1 3; have z4 := a1 4; have z5 := a1 5; have z6 := a1 6
  simp at z0 z1 z2 z3 z4 z5 z6
  simp [results, hf, go_sem, h1, h2, h3, h4, z0, z1, z2, z3, z4, z5, z6]
theorem one_end {w w1 : World} (hb : Below w.heap.size w w1) (b : Nat) (hbb : w.heap.size ≤ b) (v0 v1 v2 v3 v4 v5 v6 : Value) : Below w.heap.size w (set7 w1 b v0 v1 v2 v3 v4 v5 v6) :=
  hb.trans (below_of_grown (set7_grown w1 b v0 v1 v2 v3 v4 v5 v6) hbb hb.size)
theorem cut_str (s : ByteArray) (i n : Nat) (h : i + n ≤ s.size) (w : World) (z : Int) (hz : z = (i : Int) + (n : Int)) : (Instr.slice 9 (.string s) (some (.int .i64 (i : Int))) (some (.int .i64 z)) none).run Tryz.prog w = .ok (.string ⟨((s.data.toList.drop i).take n).toArray⟩) w := by
  subst hz
  have h1 : s.extract i (i + n) = ⟨((s.data.toList.drop i).take n).toArray⟩ := (same_bytes _ _ (by
    rw [Lib.extract_data, show i + n - i = n by omega])).symm
  have h2 : (0 : Int) ≤ i ∧ (i : Int) ≤ (i : Int) + (n : Int) ∧ (i : Int) + (n : Int) ≤ s.size := by omega
  have h3 : ((i : Int) + (n : Int)).toNat = i + n := by omega
  simp [go_sem, h2, h3, h1]
theorem quoT_ok {q : QR} {k : Tk} {len : Nat} (h : quoT q = .ok k len) : k = ⟨3, k.text, 0, false⟩ := by
  cases q with
  | done said n =>
    unfold quoT at h
    simp only at h
    split at h
    · cases h
    · cases h; rfl
  | bad k => cases h
  | open_ => cases h
theorem quoT_bad {q : QR} {c a : Nat} (h : quoT q = .bad c a) : c = 24 ∨ c = 22 := by
  cases q with
  | done said n =>
    unfold quoT at h
    simp only at h
    split at h
    · cases h; exact Or.inl rfl
    · cases h
  | bad k => cases h; exact Or.inr rfl
  | open_ => cases h; exact Or.inr rfl
set_option maxHeartbeats 8000000 in
set_option maxRecDepth 100000 in
theorem rone_any (s : ByteArray) (i : Nat) (w : World) (hs : s.size < 4294967281) (hi : i < s.size) :
    Calls Tryz.prog 52 #[.string s, .int .i64 (i : Int)] w fun e w' => e = .returned (oneV i (tokL (s.data.toList.drop i))) ∧ Below w.heap.size w w' := by
  obtain ⟨x, hx0, hix⟩ := at_some hi
  have hd := drop_cons1 hx0
  have hwl := wlen_le (s.data.toList.drop i)
  rw [List.length_drop, len_all] at hwl
  have cf := rfirst_any x
  have cg := rdigit_any x
  have cm := rmark_any x
  have cw := fun w => rword_any s i w (by omega) (Nat.le_of_lt hi)
  have cq := fun w => rquoted_any s i w hs hi
  have hcut := fun w => cut_str s i (wlen (s.data.toList.drop i)) (by omega) w _ rfl
  have hv1 : (w.alloc (.cells zero7 57)).heap[w.heap.size]? = some (.cells zero7 57 (0, 0)) := heap_alloc_new w _
  have hb1 : Below w.heap.size w (w.alloc (.cells zero7 57)) := (Below.refl _ _).alloc (Nat.le_refl _) _
  obtain ⟨r, hr⟩ : ∃ r, tokL (s.data.toList.drop i) = r := ⟨_, rfl⟩
  rw [hr]
  have HR : Hid (tokL (s.data.toList.drop i) = r) := hr
  clear hr
  have HT : Hid (r = if isL x = true then (if 63 < wlen (s.data.toList.drop i) then .bad 24 0 else .ok ⟨1, (s.data.toList.drop i).take (wlen (s.data.toList.drop i)), 0, false⟩ (wlen (s.data.toList.drop i)))
    else if isG x = true then
      match numL ((s.data.toList.drop i).take (wlen (s.data.toList.drop i))) with
      | none => .bad 21 0
      | some (v, h) => .ok ⟨2, [], v, h⟩ (wlen (s.data.toList.drop i))
    else if x = 34 then quoT (quoL (s.data.toList.drop (i + 1)) [] 0)
    else if mrk x = 0 then .bad 20 0 else .ok ⟨mrk x, [], 0, false⟩ 1) := by
    show r = _
    rw [← HR.out, hd]
    rfl
  have htx : ((s.data.toList.drop i).take (wlen (s.data.toList.drop i))).length ≤ 4294967281 := by rw [List.length_take, List.length_drop, len_all]; omega
  have cn := fun w => rnum_any ⟨((s.data.toList.drop i).take (wlen (s.data.toList.drop i))).toArray⟩ w (by rw [← len_all]; exact Nat.lt_of_le_of_lt htx (by decide))
  generalize (s.data.toList.drop i).take (wlen (s.data.toList.drop i)) = tx at *
  generalize wlen (s.data.toList.drop i) = n at *
  clear hd hx0 HR
  go_enter Tryz.func52, Tryz.ntmps52
  go_wp2_with fail
  have hv1' : (w.alloc (.cells #[.int .i64 0, .int .i64 0, .int .i64 0, .int .i64 0, .string ⟨#[]⟩, .int .u32 0, .bool false] 57)).heap[w.heap.size]? = some (.cells zero7 57 (0, 0)) := hv1
  have hb1' : Below w.heap.size w (w.alloc (.cells #[.int .i64 0, .int .i64 0, .int .i64 0, .int .i64 0, .string ⟨#[]⟩, .int .u32 0, .bool false] 57)) := hb1
  clear hv1 hb1
  generalize (w.alloc (.cells #[.int .i64 0, .int .i64 0, .int .i64 0, .int .i64 0, .string ⟨#[]⟩, .int .u32 0, .bool false] 57)) = w1 at *
  obtain ⟨y0, y1, y2, y3, y4, y5, y6, fz⟩ := varF hv1'
  cases hL : isL x with
  | true =>
    rw [hL] at cf
    rw [hL, if_pos rfl] at HT
    by_cases h63 : 63 < n
    · have h63' : (63 : Int) < (i : Int) + n - i := by omega
      have HN : Hid (r = .bad 24 0) := by show r = _; rw [HT.out, if_pos h63]
      clear HT hcut cg cq cm cn h63
      refine (cf w1).mono ?_
      rintro e w2 ⟨rfl, rfl⟩
      go_wp2_with (go_at_call 62; refine (cw _).mono ?_; rintro e w' ⟨rfl, rfl⟩)
      rw [HN.out]
      refine bodyPost_ret (v := oneV i (.bad 24 0)) (res_one Tryz.results52 _ w.heap.size _ _ _ _ _ _ _ _ _ _ _ rfl rfl rfl rfl (set7_at _ _ _ _ _ _ _ _ _ _ _ _ _ _ _ _ _ hv1')) rfl ⟨rfl, ?_⟩
      exact one_end hb1' _ (Nat.le_refl _) _ _ _ _ _ _ _
    · have h63' : ¬ (63 : Int) < (i : Int) + n - i := by omega
      have HN : Hid (r = .ok ⟨1, tx, 0, false⟩ n) := by show r = _; rw [HT.out, if_neg h63]
      clear HT cg cq cm cn h63
      refine (cf w1).mono ?_
      rintro e w2 ⟨rfl, rfl⟩
      go_wp2_with (go_at_call 62; refine (cw _).mono ?_; rintro e w' ⟨rfl, rfl⟩)
      rw [HN.out]
      refine bodyPost_ret (v := oneV i (.ok ⟨1, tx, 0, false⟩ n)) (res_one Tryz.results52 _ w.heap.size _ _ _ _ _ _ _ _ _ _ _ rfl rfl rfl rfl (set7_at _ _ _ _ _ _ _ _ _ _ _ _ _ _ _ _ _ hv1')) rfl ⟨rfl, ?_⟩
      exact one_end hb1' _ (Nat.le_refl _) _ _ _ _ _ _ _
  | false =>
    rw [hL] at cf
    rw [hL, if_neg (by decide)] at HT
    refine (cf w1).mono ?_
    rintro e w2 ⟨rfl, rfl⟩
    cases hG : isG x with
    | true =>
      rw [hG] at cg
      rw [hG, if_pos rfl] at HT
      cases hN : numL tx with
      | none =>
        rw [hN] at cn HT
        have HN : Hid (r = .bad 21 0) := HT
        unfold numV at cn
        simp only at cn
        clear HT cq cm hN
        go_wp2_with (first
          | (go_at_call 73; refine (cg _).mono ?_; rintro e w' ⟨rfl, rfl⟩)
          | (go_at_call 62; refine (cw _).mono ?_; rintro e w' ⟨rfl, rfl⟩)
          | (go_at_call 74; refine (cn _).mono ?_; rintro e w' ⟨rfl, rfl⟩))
        rw [HN.out]
        refine bodyPost_ret (v := oneV i (.bad 21 0)) (res_one Tryz.results52 _ w.heap.size _ _ _ _ _ _ _ _ _ _ _ rfl rfl rfl rfl (set7_at _ _ _ _ _ _ _ _ _ _ _ _ _ _ _ _ _ hv1')) rfl ⟨rfl, ?_⟩
        exact one_end hb1' _ (Nat.le_refl _) _ _ _ _ _ _ _
      | some vh =>
        obtain ⟨v, h⟩ := vh
        rw [hN] at cn HT
        have HN : Hid (r = .ok ⟨2, [], v, h⟩ n) := HT
        unfold numV at cn
        simp only at cn
        clear HT cq cm hN
        go_wp2_with (first
          | (go_at_call 73; refine (cg _).mono ?_; rintro e w' ⟨rfl, rfl⟩)
          | (go_at_call 62; refine (cw _).mono ?_; rintro e w' ⟨rfl, rfl⟩)
          | (go_at_call 74; refine (cn _).mono ?_; rintro e w' ⟨rfl, rfl⟩))
        rw [HN.out]
        refine bodyPost_ret (v := oneV i (.ok ⟨2, [], v, h⟩ n)) (res_one Tryz.results52 _ w.heap.size _ _ _ _ _ _ _ _ _ _ _ rfl rfl rfl rfl (set7_at _ _ _ _ _ _ _ _ _ _ _ _ _ _ _ _ _ hv1')) rfl ⟨rfl, ?_⟩
        exact one_end hb1' _ (Nat.le_refl _) _ _ _ _ _ _ _
    | false =>
      rw [hG] at cg
      rw [hG, if_neg (by decide)] at HT
      by_cases h34 : x = 34
      · rw [if_pos h34] at HT
        subst h34
        have hix' : ∀ w, (Instr.index 9 (.string s) (.int .i64 (i : Int))).run Tryz.prog w = .ok (.int .u8 34) w := hix
        have cg' : ∀ w, Calls Tryz.prog 73 #[.int .u8 34] w fun e w' => e = .returned (.bool false) ∧ w' = w := cg
        clear hix cg cf cm cn cw hcut
        obtain ⟨y, hy⟩ : ∃ y, quoT (quoL (s.data.toList.drop (i + 1)) [] 0) = y := ⟨_, rfl⟩
        rw [hy] at cq HT
        cases y with
        | ok k len =>
          obtain ⟨kt, rfl⟩ : ∃ kt, k = ⟨3, kt, 0, false⟩ := ⟨k.text, quoT_ok hy⟩
          clear hy
          unfold quV at cq
          simp only at cq
          go_wp2_with (first
            | (go_at_call 73; refine (cg' _).mono ?_; rintro e w' ⟨rfl, rfl⟩)
            | (go_at_call 75; refine (cq _).mono ?_; rintro e w' ⟨rfl, rfl⟩))
          rw [HT.out]
          refine bodyPost_ret (v := oneV i (.ok ⟨3, kt, 0, false⟩ len)) (res_one Tryz.results52 _ w.heap.size _ _ _ _ _ _ _ _ _ _ _ rfl rfl rfl rfl (set7_at _ _ _ _ _ _ _ _ _ _ _ _ _ _ _ _ _ hv1')) rfl ⟨rfl, ?_⟩
          exact one_end hb1' _ (Nat.le_refl _) _ _ _ _ _ _ _
        | bad c a =>
          have hc := quoT_bad hy
          have hc' : ((c : Int) == 0) = false := by rw [beq_eq_false_iff_ne]; omega
          clear hy hc
          unfold quV at cq
          simp only at cq
          go_wp2_with (first
            | (go_at_call 73; refine (cg' _).mono ?_; rintro e w' ⟨rfl, rfl⟩)
            | (go_at_call 75; refine (cq _).mono ?_; rintro e w' ⟨rfl, rfl⟩))
          rw [HT.out]
          refine bodyPost_ret (v := oneV i (.bad c a)) (res_one Tryz.results52 _ w.heap.size _ _ _ _ _ _ _ _ _ _ _ rfl rfl rfl rfl (set7_at _ _ _ _ _ _ _ _ _ _ _ _ _ _ _ _ _ hv1')) rfl ⟨rfl, ?_⟩
          exact one_end hb1' _ (Nat.le_refl _) _ _ _ _ _ _ _
      · rw [if_neg h34] at HT
        have e34 : ((x.toNat : Int) == 34) = false := u8_ne h34
        clear h34 cq cn cw hcut cf
        by_cases hm : mrk x = 0
        · have HN : Hid (r = .bad 20 0) := by show r = _; rw [HT.out, if_pos hm]
          rw [hm] at cm
          clear HT hm
          go_wp2_with (first
            | (go_at_call 73; refine (cg _).mono ?_; rintro e w' ⟨rfl, rfl⟩)
            | (go_at_call 76; refine (cm _).mono ?_; rintro e w' ⟨rfl, rfl⟩))
          rw [HN.out]
          refine bodyPost_ret (v := oneV i (.bad 20 0)) (res_one Tryz.results52 _ w.heap.size _ _ _ _ _ _ _ _ _ _ _ rfl rfl rfl rfl (set7_at _ _ _ _ _ _ _ _ _ _ _ _ _ _ _ _ _ hv1')) rfl ⟨rfl, ?_⟩
          exact one_end hb1' _ (Nat.le_refl _) _ _ _ _ _ _ _
        · have HN : Hid (r = .ok ⟨mrk x, [], 0, false⟩ 1) := by show r = _; rw [HT.out, if_neg hm]
          have hm' : ((mrk x : Int) == 0) = false := by rw [beq_eq_false_iff_ne]; omega
          generalize mrk x = m at *
          clear HT hm
          go_wp2_with (first
            | (go_at_call 73; refine (cg _).mono ?_; rintro e w' ⟨rfl, rfl⟩)
            | (go_at_call 76; refine (cm _).mono ?_; rintro e w' ⟨rfl, rfl⟩))
          rw [HN.out]
          refine bodyPost_ret (v := oneV i (.ok ⟨m, [], 0, false⟩ 1)) (res_one Tryz.results52 _ w.heap.size _ _ _ _ _ _ _ _ _ _ _ rfl rfl rfl rfl (set7_at _ _ _ _ _ _ _ _ _ _ _ _ _ _ _ _ _ hv1')) rfl ⟨rfl, ?_⟩
          exact one_end hb1' _ (Nat.le_refl _) _ _ _ _ _ _ _
end Go.Proofs.YtlbgppijeoonjaaGreatDoor
