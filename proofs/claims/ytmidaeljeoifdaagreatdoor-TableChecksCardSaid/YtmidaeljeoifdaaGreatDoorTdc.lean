import Derived.Test.YtmidaeljeoifdaaGreatDoorXTcz
namespace Go.Proofs.YtmidaeljeoifdaaGreatDoor
open Go.RowKit Go.Shelf Go.Sort
set_option linter.unusedVariables false
set_option linter.unusedSimpArgs false

/-! ### The document's room -/
def mx2 (a b : Int) : Int := max a b
theorem max_two9 (ats : Array TypeId) (ty : TypeId) (a b : Int) : Builtin.max_ ats ty #[.int .i64 a, .int .i64 b] = pure (.int .i64 (mx2 a b)) := by
  show (do let s ← Builtin.max2 (.int .i64 a) (.int .i64 b); pure s : Sem Value) = _
  simp only [Builtin.max2]
  show (pure _ : Sem Value) = _
  congr 2
  unfold mx2
  split <;> omega
attribute [local go_sem 5000] max_two9
theorem cnt_snoc9 {α : Type} (p : α → Bool) {l : List α} {j : Nat} {x : α} (h : l[j]? = some x) : (l.take (j + 1)).countP p = (l.take j).countP p + if p x then 1 else 0 := by
  rw [List.take_add_one, h, Option.toList_some, List.countP_append]
  simp [List.countP_cons]
theorem most_succ (n : Nat) (l : List Int) : mostD (n + 1) l = max (mostD n l) (l.count (n : Int)) := by
  unfold mostD maxL
  rw [List.range_succ, List.map_append, List.foldl_append]
  rfl
theorem count_als (l : List AlR) (c : Int) : (l.map fun x => x.ctr).count c = l.countP fun x => x.ctr == c := by
  rw [List.count, List.countP_map]; rfl
theorem count_rcv (tb : Tb) (c : Int) : (rcvL tb).count c = tb.msgs.countP fun x => (x.kind != 1) && (x.frm == c) := by
  unfold rcvL
  rw [List.count, List.countP_map, List.countP_filter]
  congr 1
  funext x
  simp [Function.comp, Bool.and_comm]
theorem res_four9 {fn : Func} (hf : fn.results = #[.tmp 2, .tmp 3, .tmp 4, .tmp 5]) (tmps : Array Value) (w : World) (v0 v1 v2 v3 : Value)
    (h0 : tmps[2]? = some v0) (h1 : tmps[3]? = some v1) (h2 : tmps[4]? = some v2) (h3 : tmps[5]? = some v3) :
    (results fn tmps).run Tryz.prog w = .ok (.tuple #[v0, v1, v2, v3]) w := by
  simp [results, hf, go_sem, h0, h1, h2, h3]
def rmD (tb : Tb) : Array Value := #[I tb.rings.length, I ((tb.isrs.length : Int) + 4), I ((max 2 (max (mostD tb.ctrs.length (tb.als.map fun x => x.ctr)) (mostD tb.msgs.length (rcvL tb))) : Nat) : Int), I (callsN tb)]
set_option maxHeartbeats 16000000 in
set_option maxRecDepth 100000 in
theorem room_any9 (tb : Tb) (v : Ts) (w : World) (h : TbAt w tb v) (hl : tb.isrs.length ≤ 32 ∧ tb.als.length ≤ 64 ∧ tb.msgs.length ≤ 64) : Calls Tryz.prog 30 #[.agg (tbC tb v)] w fun e w' => e = .returned (.tuple (rmD tb)) ∧ Below w.heap.size w w' := by
  have hb := below_alloc w (.cells (tbC tb v) 30)
  have hV0 := heap_alloc_new w (.cells (tbC tb v) 30)
  have HT : Hid (TbAt (w.alloc (.cells (tbC tb v) 30)) tb v) := h.below hb
  have HB0 : Hid (Below w.heap.size w (w.alloc (.cells (tbC tb v) 30))) := hb
  obtain ⟨c0, c1, c2, c3, c4, c5, c6, c7, c8, c9, c10, c11, c12⟩ := var13 hV0
  have HAn : Hid (v.a.n = tb.als.length) := h.a.n
  have hac : v.a.n ≤ v.a.c := h.a.c
  have ham : v.a.c ≤ maxLen := h.a.m
  have HSn : Hid (v.s.n = tb.msgs.length) := h.s.n
  have hsc : v.s.n ≤ v.s.c := h.s.c
  have hsm : v.s.c ≤ maxLen := h.s.m
  have HKn : Hid (v.k.n = tb.ctrs.length) := h.k.n
  have hkc : v.k.n ≤ v.k.c := h.k.c
  have hkm : v.k.c ≤ maxLen := h.k.m
  have hin : v.i.n ≤ 32 := by have := h.i.n; omega
  have HBG : Hid (v.s.n + v.a.n < 9223372036854775807) := by show _ < _; have := h.s.n; have := h.a.n; omega
  unfold maxLen at ham hsm hkm
  obtain ⟨Z, hZ⟩ : ∃ Z, Z = rmD tb := ⟨_, rfl⟩
  rw [← hZ]
  have HZ : Hid (Z = #[I (v.g.n : Int), I ((v.i.n : Int) + 4), I ((max 2 (max (mostD v.k.n (tb.als.map fun x => x.ctr)) (mostD v.s.n (rcvL tb))) : Nat) : Int), I ((tb.msgs.countP (fun x => x.ac.kind == 3) + tb.als.countP (fun x => x.ac.kind == 3) : Nat) : Int)]) := by
    show _ = _
    rw [hZ, HKn.out, HSn.out, h.g.n, h.i.n]
    unfold rmD callsN
    rw [List.countP_eq_length_filter, List.countP_eq_length_filter, Nat.add_comm]
  clear h hZ hb hV0 c0 c1 c2 c4 c9 c10 c11 c12 hl
  unfold tbC at *
  go_enter Tryz.func30, Tryz.ntmps30
  generalize hW : w.alloc (.cells #[I tb.uses, I tb.modes, .slice v.t.a v.t.n v.t.c, .slice v.g.a v.g.n v.g.c, .slice v.r.a v.r.n v.r.c, .slice v.k.a v.k.n v.k.c, .slice v.a.a v.a.n v.a.c, .slice v.i.a v.i.n v.i.c, .slice v.s.a v.s.n v.s.c, I tb.depth, I tb.frames, I tb.errors, I tb.calls] 30) = W1 at *
  go_upto_region 1 with fail
  clear hW
  go_wp2
  go_loopw [6, 7] (fun mv cv wr => ∃ c m : Nat, c ≤ v.k.n ∧ cv = .int .i64 c ∧ mv = .int .i64 m ∧ wr = W1 ∧ Hid (m = max 2 (mostD c (tb.als.map fun x => x.ctr)))) (fun _ cv _ => v.k.n - (intOf cv).toNat)
  case atStart => exact ⟨0, 2, by omega, rfl, rfl, rfl, rfl⟩
  case round =>
    obtain ⟨c, m, hc, rfl, rfl, rfl, HM⟩ := hrel
    by_cases hlt : c < v.k.n
    · have hlt' : (c : Int) < v.k.n := by omega
      go_wp2
      go_loopw [8, 9] (fun nv iv wr2 => ∃ i n : Nat, i ≤ v.a.n ∧ n ≤ i ∧ iv = .int .i64 i ∧ nv = .int .i64 n ∧ wr2 = wr ∧ Hid (n = (tb.als.take i).countP fun x => x.ctr == (c : Int))) (fun _ iv _ => v.a.n - (intOf iv).toNat)
      case atStart => exact ⟨0, 0, by omega, by omega, rfl, rfl, rfl, rfl⟩
      case round =>
        obtain ⟨i, n, hi, hni, rfl, rfl, rfl, HI⟩ := hrel
        by_cases hl2 : i < v.a.n
        · have hl2' : (i : Int) < v.a.n := by omega
          obtain ⟨x, hx⟩ : ∃ x, tb.als[i]? = some x := ⟨_, List.getElem?_eq_getElem (by rw [← HAn.out]; exact hl2)⟩
          obtain ⟨g5, o5, e5, hg5, q0, q1, _⟩ := alr_at HT.out hx
          rw [e5] at c6
          have HN : Hid ((tb.als.take (i + 1)).countP (fun x => x.ctr == (c : Int)) = n + if (x.ctr == (c : Int)) then 1 else 0) := by show _ = _; rw [cnt_snoc9 _ hx, HI.out]
          clear hx e5 HI q1
          generalize x.ctr = xc at *
          cases he : (xc == (c : Int)) with
          | false =>
            rw [he] at HN
            go_wp2
            go_roundw
            case rel => exact ⟨i + 1, n, by omega, by omega, by go_num, rfl, trivial, by show _ = _; have := HN.out; simpa using this.symm⟩
            case measure => simp [intOf]; omega
          | true =>
            rw [he] at HN
            go_wp2
            go_roundw
            case rel => exact ⟨i + 1, n + 1, by omega, by omega, by go_num, by go_num, trivial, by show _ = _; have := HN.out; simpa using this.symm⟩
            case measure => simp [intOf]; omega
        · obtain rfl : i = v.a.n := by omega
          have hl2' : ¬ ((v.a.n : Nat) : Int) < (v.a.n : Nat) := by omega
          have HM2 : Hid (max m n = max 2 (mostD (c + 1) (tb.als.map fun x => x.ctr))) := by
            show _ = _
            have h1 := HI.out
            rw [List.take_of_length_le (by rw [HAn.out]; exact Nat.le_refl _)] at h1
            rw [most_succ, count_als, ← h1, HM.out]
            omega
          have HX2 : Hid (mx2 (m : Int) (n : Int) = ((max m n : Nat) : Int)) := by show _ = _; unfold mx2; omega
          clear HI HM
          go_wp2
          go_roundw
          case rel => exact ⟨c + 1, max m n, by omega, by go_num, by rw [HX2.out], trivial, HM2.out⟩
          case measure => simp [intOf]; omega
    · obtain rfl : c = v.k.n := by omega
      have hlt' : ¬ ((v.k.n : Nat) : Int) < (v.k.n : Nat) := by omega
      go_wp2
      go_loopw [6, 10] (fun mv cv wr2 => ∃ f m2 : Nat, f ≤ v.s.n ∧ cv = .int .i64 f ∧ mv = .int .i64 m2 ∧ wr2 = wr ∧ Hid (m2 = max m (mostD f (rcvL tb)))) (fun _ cv _ => v.s.n - (intOf cv).toNat)
      case atStart => exact ⟨0, m, by omega, rfl, rfl, rfl, by show _ = _; unfold mostD maxL; simp⟩
      case round =>
        obtain ⟨f, m2, hf, rfl, rfl, rfl, HF⟩ := hrel
        by_cases hlt2 : f < v.s.n
        · have hlt2' : (f : Int) < v.s.n := by omega
          go_wp2
          go_loopw [11, 12] (fun nv iv wr3 => ∃ i n : Nat, i ≤ v.s.n ∧ n ≤ i ∧ iv = .int .i64 i ∧ nv = .int .i64 n ∧ wr3 = wr ∧ Hid (n = (tb.msgs.take i).countP fun x => (x.kind != 1) && (x.frm == (f : Int)))) (fun _ iv _ => v.s.n - (intOf iv).toNat)
          case atStart => exact ⟨0, 0, by omega, by omega, rfl, rfl, rfl, rfl⟩
          case round =>
            obtain ⟨i, n, hi, hni, rfl, rfl, rfl, HI⟩ := hrel
            by_cases hl2 : i < v.s.n
            · have hl2' : (i : Int) < v.s.n := by omega
              obtain ⟨x, hx⟩ : ∃ x, tb.msgs[i]? = some x := ⟨_, List.getElem?_eq_getElem (by rw [← HSn.out]; exact hl2)⟩
              obtain ⟨g5, o5, e5, hg5, q0, q1, q2, _⟩ := msr_at HT.out hx
              rw [e5] at c8
              have HN : Hid ((tb.msgs.take (i + 1)).countP (fun x => (x.kind != 1) && (x.frm == (f : Int))) = n + if ((x.kind != 1) && (x.frm == (f : Int))) then 1 else 0) := by show _ = _; rw [cnt_snoc9 _ hx, HI.out]
              clear hx e5 HI q1
              generalize x.kind = xk at *
              generalize x.frm = xf at *
              cases hk : (xk != 1) with
              | false =>
                rw [hk] at HN
                go_wp2
                go_roundw
                case rel => exact ⟨i + 1, n, by omega, by omega, by go_num, rfl, trivial, by show _ = _; have := HN.out; simpa using this.symm⟩
                case measure => simp [intOf]; omega
              | true =>
                rw [hk] at HN
                cases he : (xf == (f : Int)) with
                | false =>
                  rw [he] at HN
                  go_wp2
                  go_roundw
                  case rel => exact ⟨i + 1, n, by omega, by omega, by go_num, rfl, trivial, by show _ = _; have := HN.out; simpa using this.symm⟩
                  case measure => simp [intOf]; omega
                | true =>
                  rw [he] at HN
                  go_wp2
                  go_roundw
                  case rel => exact ⟨i + 1, n + 1, by omega, by omega, by go_num, by go_num, trivial, by show _ = _; have := HN.out; simpa using this.symm⟩
                  case measure => simp [intOf]; omega
            · obtain rfl : i = v.s.n := by omega
              have hl2' : ¬ ((v.s.n : Nat) : Int) < (v.s.n : Nat) := by omega
              have HM2 : Hid (max m2 n = max m (mostD (f + 1) (rcvL tb))) := by
                show _ = _
                have h1 := HI.out
                rw [List.take_of_length_le (by rw [HSn.out]; exact Nat.le_refl _)] at h1
                rw [most_succ, count_rcv, ← h1, HF.out]
                omega
              have HX2 : Hid (mx2 (m2 : Int) (n : Int) = ((max m2 n : Nat) : Int)) := by show _ = _; unfold mx2; omega
              clear HI HF
              go_wp2
              go_roundw
              case rel => exact ⟨f + 1, max m2 n, by omega, by go_num, by rw [HX2.out], trivial, HM2.out⟩
              case measure => simp [intOf]; omega
        · obtain rfl : f = v.s.n := by omega
          have hlt2' : ¬ ((v.s.n : Nat) : Int) < (v.s.n : Nat) := by omega
          go_wp2
          go_loopw [13, 14] (fun nv iv wr3 => ∃ i n : Nat, i ≤ v.s.n ∧ n ≤ i ∧ iv = .int .i64 i ∧ nv = .int .i64 n ∧ wr3 = wr ∧ Hid (n = (tb.msgs.take i).countP fun x => x.ac.kind == 3)) (fun _ iv _ => v.s.n - (intOf iv).toNat)
          case atStart => exact ⟨0, 0, by omega, by omega, rfl, rfl, rfl, rfl⟩
          case round =>
            obtain ⟨i, n, hi, hni, rfl, rfl, rfl, HI⟩ := hrel
            by_cases hl2 : i < v.s.n
            · have hl2' : (i : Int) < v.s.n := by omega
              obtain ⟨x, hx⟩ : ∃ x, tb.msgs[i]? = some x := ⟨_, List.getElem?_eq_getElem (by rw [← HSn.out]; exact hl2)⟩
              obtain ⟨g5, o5, e5, hg5, q0, q1, q2, q3, q4, q5, _⟩ := msr_at HT.out hx
              rw [e5] at c8
              have HN : Hid ((tb.msgs.take (i + 1)).countP (fun x => x.ac.kind == 3) = n + if (x.ac.kind == 3) then 1 else 0) := by show _ = _; rw [cnt_snoc9 _ hx, HI.out]
              clear hx e5 HI q0 q1 q2 q3 q4
              generalize x.ac.kind = xc at *
              cases he : (xc == 3) with
              | false =>
                rw [he] at HN
                go_wp2
                go_roundw
                case rel => exact ⟨i + 1, n, by omega, by omega, by go_num, rfl, trivial, by show _ = _; have := HN.out; simpa using this.symm⟩
                case measure => simp [intOf]; omega
              | true =>
                rw [he] at HN
                go_wp2
                go_roundw
                case rel => exact ⟨i + 1, n + 1, by omega, by omega, by go_num, by go_num, trivial, by show _ = _; have := HN.out; simpa using this.symm⟩
                case measure => simp [intOf]; omega
            · obtain rfl : i = v.s.n := by omega
              have hl2' : ¬ ((v.s.n : Nat) : Int) < (v.s.n : Nat) := by omega
              have HI2 : Hid (n = tb.msgs.countP fun x => x.ac.kind == 3) := by
                show _ = _
                have h1 := HI.out
                rwa [List.take_of_length_le (by rw [HSn.out]; exact Nat.le_refl _)] at h1
              clear HI
              go_wp2
              go_loopw [13, 15] (fun nv iv wr4 => ∃ i n4 : Nat, i ≤ v.a.n ∧ n4 ≤ n + i ∧ iv = .int .i64 i ∧ nv = .int .i64 n4 ∧ wr4 = wr ∧ Hid (n4 = n + (tb.als.take i).countP fun x => x.ac.kind == 3)) (fun _ iv _ => v.a.n - (intOf iv).toNat)
              case atStart => exact ⟨0, n, by omega, by omega, rfl, rfl, rfl, rfl⟩
              case round =>
                obtain ⟨i, n4, hi, hni4, rfl, rfl, rfl, HI4⟩ := hrel
                by_cases hl4 : i < v.a.n
                · have hl4' : (i : Int) < v.a.n := by omega
                  obtain ⟨x, hx⟩ : ∃ x, tb.als[i]? = some x := ⟨_, List.getElem?_eq_getElem (by rw [← HAn.out]; exact hl4)⟩
                  obtain ⟨g5, o5, e5, hg5, q0, q1, _⟩ := alr_at HT.out hx
                  rw [e5] at c6
                  have HN : Hid ((tb.als.take (i + 1)).countP (fun x => x.ac.kind == 3) = (tb.als.take i).countP (fun x => x.ac.kind == 3) + if (x.ac.kind == 3) then 1 else 0) := by show _ = _; rw [cnt_snoc9 _ hx]
                  have hbig : n4 < 9223372036854775807 := by have := HBG.out; omega
                  clear hx e5 q0
                  generalize x.ac.kind = xc at *
                  cases he : (xc == 3) with
                  | false =>
                    rw [he] at HN
                    go_wp2
                    go_roundw
                    case rel => exact ⟨i + 1, n4, by omega, by omega, by go_num, rfl, trivial, by show _ = _; have h1 := HN.out; have h2 := HI4.out; rw [h1, h2]; rfl⟩
                    case measure => simp [intOf]; omega
                  | true =>
                    rw [he] at HN
                    go_wp2
                    go_roundw
                    case rel => exact ⟨i + 1, n4 + 1, by omega, by omega, by go_num, by go_num, trivial, by show _ = _; have h1 := HN.out; have h2 := HI4.out; rw [h1, h2]; rfl⟩
                    case measure => simp [intOf]; omega
                · obtain rfl : i = v.a.n := by omega
                  have hl4' : ¬ ((v.a.n : Nat) : Int) < (v.a.n : Nat) := by omega
                  have HE : Hid (Z = #[I (v.g.n : Int), I ((v.i.n : Int) + 4), I (m2 : Int), I (n4 : Int)]) := by
                    show _ = _
                    have h1 := HI4.out
                    rw [List.take_of_length_le (by rw [HAn.out]; exact Nat.le_refl _), HI2.out] at h1
                    rw [HZ.out, h1, HF.out, HM.out, Nat.max_assoc]
                  clear HI4 HI2 HF HM HZ
                  have y3 := cell_regrown c3
                  have y7 := cell_regrown c7
                  go_wp2
                  refine wp_region_quiet_below (by kernel_rfl) (by kernel_rfl) ?_
                  repeat (go_big_quiet_step (first | fail))
                  refine wpQuiet_nil ?_
                  rintro _ ⟨⟨dq, osq⟩, rfl⟩
                  dsimp only
                  have HB9 : Hid (Below w.heap.size w (grow (redrawn wr dq) osq)) := HB0.out.trans ((below_regrown wr dq osq).mono HB0.out.size)
                  clear y3 y7
                  generalize grow (redrawn wr dq) osq = w9 at *
                  go_wp2
                  refine bodyPost_ret (res_four9 Tryz.results30 _ _ _ _ _ _ rfl rfl rfl rfl) rfl ⟨?_, HB9.out⟩
                  rw [HE.out]; rfl
end Go.Proofs.YtmidaeljeoifdaaGreatDoor
