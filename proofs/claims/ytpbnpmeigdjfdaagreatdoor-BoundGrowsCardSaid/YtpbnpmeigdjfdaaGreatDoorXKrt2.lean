import Derived.Test.YtpbnpmeigdjfdaaGreatDoorKrs2
namespace Go.Proofs.YtpbnpmeigdjfdaaGreatDoor
open Go.RowKit
set_option linter.unusedSimpArgs false
set_option linter.unusedVariables false
set_option maxHeartbeats 16000000
set_option maxRecDepth 100000
theorem named_tk (w : World) (c : Cf) (v : Vs) (h : CfAt w c v) (hl : c.tasks.length ≤ 8796093022208) :
  Calls Tryz.prog 121 #[.slice v.t.a v.t.n v.t.c, .func (.func 122) #[] #[]] w fun e w' => NamesPost w (c.tasks.map fun x => x.name) e w' := by
 obtain ⟨i0, hi0, hz0, hz1, hz2⟩ := info_parts Tryz.infoStr
 have HN : Hid (v.t.n = c.tasks.length) := h.t.n
 have hn40 : v.t.n ≤ 8796093022208 := by have := h.t.n; omega
 have eg : ∀ args w, (callFunc 122 args).run Tryz.prog w = .ok (.enter 122 args) w := enters_of Tryz.func122 (by kernel_rfl) rfl
 go_enter Tryz.func121, Tryz.ntmps121
 go_wp2_with (refine wpList_make_own _ rfl _ _ 24 rfl w.heap.size 9 i0 (.string ⟨#[]⟩) 1 Tryz.underlying24 hi0 hz0 hz1 .i64 .i64 _ v.t.n rfl rfl rfl (by rw [hz2]; omega) (by unfold maxLen; omega) (Nat.le_refl _) ?_; intro w1 ho1 hg1)
 have hb1 := below_none hg1
 have hb1s := hb1.size
 clear hg1
 generalize hbk : w.heap.size = b at ho1 ⊢
 go_loopw [5, 7, 13] (fun o5 _ iv wr => ∃ j : Nat, j ≤ v.t.n ∧ iv = .int .i64 j ∧ o5 = .slice (some ⟨b, 0, none⟩) j v.t.n ∧ Hid (wr.ownsRow b 9 1 (.slice (some ⟨b, 0, none⟩) j v.t.n) j ((c.tasks.take j).map fun x => S x.name) ∧ Below b w wr)) (fun _ _ iv _ => v.t.n - (intOf iv).toNat)
 case atStart => exact ⟨0, by omega, rfl, rfl, ho1, by rw [← hbk]; exact hb1⟩
 case round =>
  obtain ⟨j, hj, rfl, rfl, HJ⟩ := hrel
  obtain ⟨hO, hB⟩ := HJ.out
  clear HJ ho1 hb1
  by_cases hlt : j < v.t.n
  ·have hlt' : (j : Int) < v.t.n := by omega
   have hjl : j < c.tasks.length := by rw [← HN.out]; exact hlt
   obtain ⟨x, hx⟩ : ∃ x, c.tasks[j]? = some x := ⟨_, List.getElem?_eq_getElem hjl⟩
   obtain ⟨g, off, s4, s5, s6, s7, e, hg, a0, a1, a2, a3, a4, a5, a6, a7, r4, r5, r6, r7⟩ := tk_at (h.below (by rw [hbk]; exact hB)) hx
   rw [e] at *
   have hng : g ≠ wr.heap.size := by omega
   have HT : Hid ((c.tasks.take (j + 1)).map (fun x => S x.name) = (c.tasks.take j).map (fun x => S x.name) ++ [S x.name]) := by
    show _ = _
    rw [List.take_add_one, hx, Option.toList_some, List.map_append]
    rfl
   have hst : (storeCells ⟨wr.heap.size, 0, none⟩ [S x.name, I x.prio, .bool x.full, I x.act, .slice s4.a s4.n s4.c, .slice s5.a s5.n s5.c, .slice s6.a s6.n s6.c, .slice s7.a s7.n s7.c] 0).run Tryz.prog (wr.alloc (.cells #[.string ⟨#[]⟩, .int .i64 0, .bool false, .int .i64 0, .slice none 0 0, .slice none 0 0, .slice none 0 0, .slice none 0 0] 79)) = .ok () (wr.alloc (.cells #[S x.name, I x.prio, .bool x.full, I x.act, .slice s4.a s4.n s4.c, .slice s5.a s5.n s5.c, .slice s6.a s6.n s6.c, .slice s7.a s7.n s7.c] 79)) :=
    run_storeCells_new (P := Tryz.prog) wr 79 #[.string ⟨#[]⟩, .int .i64 0, .bool false, .int .i64 0, .slice none 0 0, .slice none 0 0, .slice none 0 0, .slice none 0 0] #[S x.name, I x.prio, .bool x.full, I x.act, .slice s4.a s4.n s4.c, .slice s5.a s5.n s5.c, .slice s6.a s6.n s6.c, .slice s7.a s7.n s7.c] (by kernel_rfl) rfl (by simp [Value.oneCell'])
   have cn : ∀ W, Calls Tryz.prog 122 #[.agg #[S x.name, I x.prio, .bool x.full, I x.act, .slice s4.a s4.n s4.c, .slice s5.a s5.n s5.c, .slice s6.a s6.n s6.c, .slice s7.a s7.n s7.c]] W fun e w' => e = .returned (S x.name) ∧ Below W.heap.size W w' := fun W => by
    have hbW := below_alloc W
    go_enter Tryz.func122, Tryz.ntmps122
    go_wp2
    go_ret
    exact ⟨rfl, hbW _⟩
   have hbs := hB.size
   have hal := below_alloc wr (.cells #[S x.name, I x.prio, .bool x.full, I x.act, .slice s4.a s4.n s4.c, .slice s5.a s5.n s5.c, .slice s6.a s6.n s6.c, .slice s7.a s7.n s7.c] 79)
   clear hx hjl
   go_wp2_with (first | (go_at_call 122; refine (cn _).mono ?_; rintro e w2 ⟨rfl, hb2⟩; have hO2 := own_below (own_below hO hal) hb2; have hO3 := own_below hO2 (below_alloc w2 (.cells #[S x.name] 9))) | (at_builtin; refine wpList_append_fits _ rfl _ _ 24 rfl b 9 i0 1 Tryz.underlying24 hi0 hz1 b j v.t.n _ rfl hO3 ⟨w2.heap.size, 0, none⟩ 1 1 [S x.name] rfl rfl (cell_one_new _ _ _) (by simp [Value.oneCell']) hlt ?_; intro w3 hO4 hg4))
   go_roundw
   case rel =>
    refine ⟨j + 1, by omega, by go_num, rfl, by rw [HT.out]; exact hO4, ?_⟩
    have e1 := (hB.trans (hal.mono (by omega))).trans (hb2.mono (Nat.le_trans (by omega) hal.size))
    have e2 := e1.trans ((below_alloc w2 (.cells #[S x.name] 9)).mono (Nat.le_trans (Nat.le_trans (by omega) hal.size) hb2.size))
    exact e2.trans (below_of_grown hg4 (Nat.le_refl _) (by have := e2.size; omega))
   case measure => simp [intOf]; omega
  ·obtain rfl : j = v.t.n := by omega
   have hlt' : ¬ ((v.t.n : Nat) : Int) < (v.t.n : Nat) := by omega
   have hR := rows_own hO (l := c.tasks.map fun x => x.name) (by rw [List.take_of_length_le (by rw [HN.out]; exact Nat.le_refl _), List.map_map]; rfl) (by rw [List.length_map]; exact HN.out) (by unfold maxLen; omega)
   clear hO
   go_wp2
   go_ret
   exact ⟨⟨_, _, _⟩, rfl, hR, by rw [hbk]; exact hB⟩
theorem taskNames_any (w : World) (c : Cf) (v : Vs) (h : CfAt w c v) (hl : c.tasks.length ≤ 8796093022208) : Calls Tryz.prog 76 #[.agg (cfC c v)] w fun e w' => NamesPost w (c.tasks.map fun x => x.name) e w' := by
 have hb := below_alloc w
 have c1 := fun W (hW : Below w.heap.size w W) => named_tk W c v (h.below hW) hl
 have f11 : ∀ h : 11 < (cfC c v).size, (cfC c v)[11] = .slice v.t.a v.t.n v.t.c := fun _ => rfl
 have hs18 : (cfC c v).size = 18 := rfl
 generalize cfC c v = C at *
 replace f11 := f11 (by omega)
 go_enter Tryz.func76, Tryz.ntmps76
 go_wp2_with (first | (go_at_call 121; refine (c1 _ (hb _)).mono ?_; rintro e w2 ⟨s2, rfl, hR, hb2⟩))
 go_ret
 exact ⟨s2, rfl, hR, (hb _).trans (hb2.mono (hb _).size)⟩
theorem named_al (w : World) (c : Cf) (v : Vs) (h : CfAt w c v) (hl : c.als.length ≤ 8796093022208) :
  Calls Tryz.prog 132 #[.slice v.a.a v.a.n v.a.c, .func (.func 133) #[] #[]] w fun e w' => NamesPost w (c.als.map fun x => x.name) e w' := by
 obtain ⟨i0, hi0, hz0, hz1, hz2⟩ := info_parts Tryz.infoStr
 have HN : Hid (v.a.n = c.als.length) := h.a.n
 have hn40 : v.a.n ≤ 8796093022208 := by have := h.a.n; omega
 have eg : ∀ args w, (callFunc 133 args).run Tryz.prog w = .ok (.enter 133 args) w := enters_of Tryz.func133 (by kernel_rfl) rfl
 go_enter Tryz.func132, Tryz.ntmps132
 go_wp2_with (refine wpList_make_own _ rfl _ _ 24 rfl w.heap.size 9 i0 (.string ⟨#[]⟩) 1 Tryz.underlying24 hi0 hz0 hz1 .i64 .i64 _ v.a.n rfl rfl rfl (by rw [hz2]; omega) (by unfold maxLen; omega) (Nat.le_refl _) ?_; intro w1 ho1 hg1)
 have hb1 := below_none hg1
 have hb1s := hb1.size
 clear hg1
 generalize hbk : w.heap.size = b at ho1 ⊢
 go_loopw [5, 7, 13] (fun o5 _ iv wr => ∃ j : Nat, j ≤ v.a.n ∧ iv = .int .i64 j ∧ o5 = .slice (some ⟨b, 0, none⟩) j v.a.n ∧ Hid (wr.ownsRow b 9 1 (.slice (some ⟨b, 0, none⟩) j v.a.n) j ((c.als.take j).map fun x => S x.name) ∧ Below b w wr)) (fun _ _ iv _ => v.a.n - (intOf iv).toNat)
 case atStart => exact ⟨0, by omega, rfl, rfl, ho1, by rw [← hbk]; exact hb1⟩
 case round =>
  obtain ⟨j, hj, rfl, rfl, HJ⟩ := hrel
  obtain ⟨hO, hB⟩ := HJ.out
  clear HJ ho1 hb1
  by_cases hlt : j < v.a.n
  ·have hlt' : (j : Int) < v.a.n := by omega
   have hjl : j < c.als.length := by rw [← HN.out]; exact hlt
   obtain ⟨x, hx⟩ : ∃ x, c.als[j]? = some x := ⟨_, List.getElem?_eq_getElem hjl⟩
   obtain ⟨g, off, s6, e, hg, a0, a1, a2, a3, a4, a5, a6, a7, a8, r6⟩ := al_at (h.below (by rw [hbk]; exact hB)) hx
   rw [e] at *
   have hng : g ≠ wr.heap.size := by omega
   have HT : Hid ((c.als.take (j + 1)).map (fun x => S x.name) = (c.als.take j).map (fun x => S x.name) ++ [S x.name]) := by
    show _ = _
    rw [List.take_add_one, hx, Option.toList_some, List.map_append]
    rfl
   have hst : (storeCells ⟨wr.heap.size, 0, none⟩ [S x.name, I x.ctr, I x.ac.kind, I x.ac.task, I x.ac.event, S x.ac.name, .slice s6.a s6.n s6.c, .int .u32 (x.time : Int), .int .u32 (x.cycle : Int)] 0).run Tryz.prog (wr.alloc (.cells #[.string ⟨#[]⟩, .int .i64 0, .int .i64 0, .int .i64 0, .int .i64 0, .string ⟨#[]⟩, .slice none 0 0, .int .u32 0, .int .u32 0] 170)) = .ok () (wr.alloc (.cells #[S x.name, I x.ctr, I x.ac.kind, I x.ac.task, I x.ac.event, S x.ac.name, .slice s6.a s6.n s6.c, .int .u32 (x.time : Int), .int .u32 (x.cycle : Int)] 170)) :=
    run_storeCells_new (P := Tryz.prog) wr 170 #[.string ⟨#[]⟩, .int .i64 0, .int .i64 0, .int .i64 0, .int .i64 0, .string ⟨#[]⟩, .slice none 0 0, .int .u32 0, .int .u32 0] #[S x.name, I x.ctr, I x.ac.kind, I x.ac.task, I x.ac.event, S x.ac.name, .slice s6.a s6.n s6.c, .int .u32 (x.time : Int), .int .u32 (x.cycle : Int)] (by kernel_rfl) rfl (by simp [Value.oneCell'])
   have cn : ∀ W, Calls Tryz.prog 133 #[.agg #[S x.name, I x.ctr, I x.ac.kind, I x.ac.task, I x.ac.event, S x.ac.name, .slice s6.a s6.n s6.c, .int .u32 (x.time : Int), .int .u32 (x.cycle : Int)]] W fun e w' => e = .returned (S x.name) ∧ Below W.heap.size W w' := fun W => by
    have hbW := below_alloc W
    go_enter Tryz.func133, Tryz.ntmps133
    go_wp2
    go_ret
    exact ⟨rfl, hbW _⟩
   have hbs := hB.size
   have hal := below_alloc wr (.cells #[S x.name, I x.ctr, I x.ac.kind, I x.ac.task, I x.ac.event, S x.ac.name, .slice s6.a s6.n s6.c, .int .u32 (x.time : Int), .int .u32 (x.cycle : Int)] 170)
   clear hx hjl
   go_wp2_with (first | (go_at_call 133; refine (cn _).mono ?_; rintro e w2 ⟨rfl, hb2⟩; have hO2 := own_below (own_below hO hal) hb2; have hO3 := own_below hO2 (below_alloc w2 (.cells #[S x.name] 9))) | (at_builtin; refine wpList_append_fits _ rfl _ _ 24 rfl b 9 i0 1 Tryz.underlying24 hi0 hz1 b j v.a.n _ rfl hO3 ⟨w2.heap.size, 0, none⟩ 1 1 [S x.name] rfl rfl (cell_one_new _ _ _) (by simp [Value.oneCell']) hlt ?_; intro w3 hO4 hg4))
   go_roundw
   case rel =>
    refine ⟨j + 1, by omega, by go_num, rfl, by rw [HT.out]; exact hO4, ?_⟩
    have e1 := (hB.trans (hal.mono (by omega))).trans (hb2.mono (Nat.le_trans (by omega) hal.size))
    have e2 := e1.trans ((below_alloc w2 (.cells #[S x.name] 9)).mono (Nat.le_trans (Nat.le_trans (by omega) hal.size) hb2.size))
    exact e2.trans (below_of_grown hg4 (Nat.le_refl _) (by have := e2.size; omega))
   case measure => simp [intOf]; omega
  ·obtain rfl : j = v.a.n := by omega
   have hlt' : ¬ ((v.a.n : Nat) : Int) < (v.a.n : Nat) := by omega
   have hR := rows_own hO (l := c.als.map fun x => x.name) (by rw [List.take_of_length_le (by rw [HN.out]; exact Nat.le_refl _), List.map_map]; rfl) (by rw [List.length_map]; exact HN.out) (by unfold maxLen; omega)
   clear hO
   go_wp2
   go_ret
   exact ⟨⟨_, _, _⟩, rfl, hR, by rw [hbk]; exact hB⟩
theorem alarmNames_any (w : World) (c : Cf) (v : Vs) (h : CfAt w c v) (hl : c.als.length ≤ 8796093022208) : Calls Tryz.prog 80 #[.agg (cfC c v)] w fun e w' => NamesPost w (c.als.map fun x => x.name) e w' := by
 have hb := below_alloc w
 have c1 := fun W (hW : Below w.heap.size w W) => named_al W c v (h.below hW) hl
 have f15 : ∀ h : 15 < (cfC c v).size, (cfC c v)[15] = .slice v.a.a v.a.n v.a.c := fun _ => rfl
 have hs18 : (cfC c v).size = 18 := rfl
 generalize cfC c v = C at *
 replace f15 := f15 (by omega)
 go_enter Tryz.func80, Tryz.ntmps80
 go_wp2_with (first | (go_at_call 132; refine (c1 _ (hb _)).mono ?_; rintro e w2 ⟨s2, rfl, hR, hb2⟩))
 go_ret
 exact ⟨s2, rfl, hR, (hb _).trans (hb2.mono (hb _).size)⟩
theorem named_ms (w : World) (c : Cf) (v : Vs) (h : CfAt w c v) (hl : c.msgs.length ≤ 8796093022208) :
  Calls Tryz.prog 147 #[.slice v.s.a v.s.n v.s.c, .func (.func 148) #[] #[]] w fun e w' => NamesPost w (c.msgs.map fun x => x.name) e w' := by
 obtain ⟨i0, hi0, hz0, hz1, hz2⟩ := info_parts Tryz.infoStr
 have HN : Hid (v.s.n = c.msgs.length) := h.s.n
 have hn40 : v.s.n ≤ 8796093022208 := by have := h.s.n; omega
 have eg : ∀ args w, (callFunc 148 args).run Tryz.prog w = .ok (.enter 148 args) w := enters_of Tryz.func148 (by kernel_rfl) rfl
 go_enter Tryz.func147, Tryz.ntmps147
 go_wp2_with (refine wpList_make_own _ rfl _ _ 24 rfl w.heap.size 9 i0 (.string ⟨#[]⟩) 1 Tryz.underlying24 hi0 hz0 hz1 .i64 .i64 _ v.s.n rfl rfl rfl (by rw [hz2]; omega) (by unfold maxLen; omega) (Nat.le_refl _) ?_; intro w1 ho1 hg1)
 have hb1 := below_none hg1
 have hb1s := hb1.size
 clear hg1
 generalize hbk : w.heap.size = b at ho1 ⊢
 go_loopw [5, 7, 13] (fun o5 _ iv wr => ∃ j : Nat, j ≤ v.s.n ∧ iv = .int .i64 j ∧ o5 = .slice (some ⟨b, 0, none⟩) j v.s.n ∧ Hid (wr.ownsRow b 9 1 (.slice (some ⟨b, 0, none⟩) j v.s.n) j ((c.msgs.take j).map fun x => S x.name) ∧ Below b w wr)) (fun _ _ iv _ => v.s.n - (intOf iv).toNat)
 case atStart => exact ⟨0, by omega, rfl, rfl, ho1, by rw [← hbk]; exact hb1⟩
 case round =>
  obtain ⟨j, hj, rfl, rfl, HJ⟩ := hrel
  obtain ⟨hO, hB⟩ := HJ.out
  clear HJ ho1 hb1
  by_cases hlt : j < v.s.n
  ·have hlt' : (j : Int) < v.s.n := by omega
   have hjl : j < c.msgs.length := by rw [← HN.out]; exact hlt
   obtain ⟨x, hx⟩ : ∃ x, c.msgs[j]? = some x := ⟨_, List.getElem?_eq_getElem hjl⟩
   obtain ⟨g, off, e, hg, a0, a1, a2, a3, a4, a5, a6, a7, a8, a9⟩ := ms_at (h.below (by rw [hbk]; exact hB)) hx
   rw [e] at *
   have hng : g ≠ wr.heap.size := by omega
   have HT : Hid ((c.msgs.take (j + 1)).map (fun x => S x.name) = (c.msgs.take j).map (fun x => S x.name) ++ [S x.name]) := by
    show _ = _
    rw [List.take_add_one, hx, Option.toList_some, List.map_append]
    rfl
   have hst : (storeCells ⟨wr.heap.size, 0, none⟩ [S x.name, I x.kind, I x.len, I x.frm, .int .u64 (x.init : Int), I x.queue, I x.ac.kind, I x.ac.task, I x.ac.event, S x.ac.name] 0).run Tryz.prog (wr.alloc (.cells #[.string ⟨#[]⟩, .int .i64 0, .int .i64 0, .int .i64 0, .int .u64 0, .int .i64 0, .int .i64 0, .int .i64 0, .int .i64 0, .string ⟨#[]⟩] 173)) = .ok () (wr.alloc (.cells #[S x.name, I x.kind, I x.len, I x.frm, .int .u64 (x.init : Int), I x.queue, I x.ac.kind, I x.ac.task, I x.ac.event, S x.ac.name] 173)) :=
    run_storeCells_new (P := Tryz.prog) wr 173 #[.string ⟨#[]⟩, .int .i64 0, .int .i64 0, .int .i64 0, .int .u64 0, .int .i64 0, .int .i64 0, .int .i64 0, .int .i64 0, .string ⟨#[]⟩] #[S x.name, I x.kind, I x.len, I x.frm, .int .u64 (x.init : Int), I x.queue, I x.ac.kind, I x.ac.task, I x.ac.event, S x.ac.name] (by kernel_rfl) rfl (by simp [Value.oneCell'])
   have cn : ∀ W, Calls Tryz.prog 148 #[.agg #[S x.name, I x.kind, I x.len, I x.frm, .int .u64 (x.init : Int), I x.queue, I x.ac.kind, I x.ac.task, I x.ac.event, S x.ac.name]] W fun e w' => e = .returned (S x.name) ∧ Below W.heap.size W w' := fun W => by
    have hbW := below_alloc W
    go_enter Tryz.func148, Tryz.ntmps148
    go_wp2
    go_ret
    exact ⟨rfl, hbW _⟩
   have hbs := hB.size
   have hal := below_alloc wr (.cells #[S x.name, I x.kind, I x.len, I x.frm, .int .u64 (x.init : Int), I x.queue, I x.ac.kind, I x.ac.task, I x.ac.event, S x.ac.name] 173)
   clear hx hjl
   go_wp2_with (first | (go_at_call 148; refine (cn _).mono ?_; rintro e w2 ⟨rfl, hb2⟩; have hO2 := own_below (own_below hO hal) hb2; have hO3 := own_below hO2 (below_alloc w2 (.cells #[S x.name] 9))) | (at_builtin; refine wpList_append_fits _ rfl _ _ 24 rfl b 9 i0 1 Tryz.underlying24 hi0 hz1 b j v.s.n _ rfl hO3 ⟨w2.heap.size, 0, none⟩ 1 1 [S x.name] rfl rfl (cell_one_new _ _ _) (by simp [Value.oneCell']) hlt ?_; intro w3 hO4 hg4))
   go_roundw
   case rel =>
    refine ⟨j + 1, by omega, by go_num, rfl, by rw [HT.out]; exact hO4, ?_⟩
    have e1 := (hB.trans (hal.mono (by omega))).trans (hb2.mono (Nat.le_trans (by omega) hal.size))
    have e2 := e1.trans ((below_alloc w2 (.cells #[S x.name] 9)).mono (Nat.le_trans (Nat.le_trans (by omega) hal.size) hb2.size))
    exact e2.trans (below_of_grown hg4 (Nat.le_refl _) (by have := e2.size; omega))
   case measure => simp [intOf]; omega
  ·obtain rfl : j = v.s.n := by omega
   have hlt' : ¬ ((v.s.n : Nat) : Int) < (v.s.n : Nat) := by omega
   have hR := rows_own hO (l := c.msgs.map fun x => x.name) (by rw [List.take_of_length_le (by rw [HN.out]; exact Nat.le_refl _), List.map_map]; rfl) (by rw [List.length_map]; exact HN.out) (by unfold maxLen; omega)
   clear hO
   go_wp2
   go_ret
   exact ⟨⟨_, _, _⟩, rfl, hR, by rw [hbk]; exact hB⟩
theorem messageNames_any (w : World) (c : Cf) (v : Vs) (h : CfAt w c v) (hl : c.msgs.length ≤ 8796093022208) : Calls Tryz.prog 84 #[.agg (cfC c v)] w fun e w' => NamesPost w (c.msgs.map fun x => x.name) e w' := by
 have hb := below_alloc w
 have c1 := fun W (hW : Below w.heap.size w W) => named_ms W c v (h.below hW) hl
 have f17 : ∀ h : 17 < (cfC c v).size, (cfC c v)[17] = .slice v.s.a v.s.n v.s.c := fun _ => rfl
 have hs18 : (cfC c v).size = 18 := rfl
 generalize cfC c v = C at *
 replace f17 := f17 (by omega)
 go_enter Tryz.func84, Tryz.ntmps84
 go_wp2_with (first | (go_at_call 147; refine (c1 _ (hb _)).mono ?_; rintro e w2 ⟨s2, rfl, hR, hb2⟩))
 go_ret
 exact ⟨s2, rfl, hR, (hb _).trans (hb2.mono (hb _).size)⟩
structure Ck where
 code : Int
 f : Nat
 caps : Array Value
def ckC (x : Ck) : List Value := [I x.code, .func (.func x.f) #[] x.caps]
def ckP (x : Ck) (i : Nat) (u : Value) : Prop := match i with | 0 => u = I x.code | _ => u = .func (.func x.f) #[] x.caps
def ChecksPost (w : World) (cs : List Ck) (e : Ending) (w' : World) : Prop := ∃ s : Sl, e = .returned (.slice s.a s.n s.c) ∧ RowsAt w' 2 ckP s cs ∧ Below w.heap.size w w'
theorem ck_at (cs : List Ck) (j : Nat) (x : Ck) (hj : cs[j]? = some x) (i : Nat) (hi : i < 2) : (cs.flatMap ckC)[j * 2 + i]? = (ckC x)[i]? := by
 induction cs generalizing j with
 | nil => simp at hj
 | cons y r ih =>
  have e1 : (y :: r).flatMap ckC = ckC y ++ r.flatMap ckC := rfl
  have h2 : (ckC y).length = 2 := rfl
  rw [e1]
  cases j with
  | zero =>
   obtain rfl : y = x := by simpa using hj
   rw [List.getElem?_append_left (by omega)]
   simp
  | succ j =>
   rw [List.getElem?_append_right (by omega), h2, show (j + 1) * 2 + i - 2 = j * 2 + i by omega]
   exact ih j (by simpa using hj)
theorem rows_ck {w : World} {b : Nat} {vs : Array Value} (h : w.heap[b]? = some (.cells vs 159 (0, 0))) (cs : List Ck) (hv : vs.toList = cs.flatMap ckC) {n : Nat} (hn : n = cs.length) (hm : n ≤ maxLen) : RowsAt w 2 ckP ⟨some ⟨b, 0, none⟩, n, n⟩ cs := by
 refine ⟨hn, Nat.le_refl _, hm, fun j x hj => ⟨b, 0, rfl, heap_lt h, fun i hi => ?_⟩⟩
 have hc := ck_at cs j x hj i hi
 rw [← hv, Array.getElem?_toList] at hc
 have h1 : w.cell? ⟨b, 0 + j * 2 + i, none⟩ = (ckC x)[i]? := by rw [Nat.zero_add, cell_of_row w b _ _ _ (0, 0) h]; exact hc
 have h01 : i = 0 ∨ i = 1 := by omega
 rcases h01 with rfl | rfl
 ·exact ⟨_, h1, rfl⟩
 ·exact ⟨_, h1, rfl⟩
def RefPost (w : World) (code : Int) (word : List UInt8) (id : Int) (e : Ending) (w' : World) : Prop := ∃ b, e = .returned (.iface 117 (.pointer (some ⟨b, 0, none⟩))) ∧ w.heap.size ≤ b ∧ w'.heap[b]? = some (.cells #[I code, S word, I id] 121 (0, 0)) ∧ Below w.heap.size w w'
theorem refuse_any (code : Int) (word : List UInt8) (id : Int) (w : World) : Calls Tryz.prog 87 #[I code, S word, I id] w fun e w' => RefPost w code word id e w' := by
 have hb := below_alloc w
 have hh := heap_alloc_new w (.cells #[I code, S word, I id] 121)
 go_enter Tryz.func87, Tryz.ntmps87
 go_wp2
 go_ret
 exact ⟨_, rfl, Nat.le_refl _, hh, hb _⟩
def resourceChecksL : List Ck := [⟨74, 114, #[]⟩, ⟨74, 115, #[]⟩, ⟨73, 116, #[]⟩, ⟨70, 117, #[]⟩]
theorem resourceChecks_any (w : World) : Calls Tryz.prog 73 #[] w fun e w' => ChecksPost w resourceChecksL e w' := by
 have hb := below_alloc w
 have hh := heap_alloc_new w
 go_enter Tryz.func73, Tryz.ntmps73
 go_wp2
 go_ret
 refine ⟨⟨some ⟨w.heap.size, 0, none⟩, 4, 4⟩, rfl, ?_, hb _⟩
 apply rows_ck (hh _)
 ·rfl
 ·rfl
 ·unfold maxLen; omega
def eventChecksL : List Ck := [⟨74, 120, #[]⟩]
theorem eventChecks_any (w : World) : Calls Tryz.prog 75 #[] w fun e w' => ChecksPost w eventChecksL e w' := by
 have hb := below_alloc w
 have hh := heap_alloc_new w
 go_enter Tryz.func75, Tryz.ntmps75
 go_wp2
 go_ret
 refine ⟨⟨some ⟨w.heap.size, 0, none⟩, 1, 1⟩, rfl, ?_, hb _⟩
 apply rows_ck (hh _)
 ·rfl
 ·rfl
 ·unfold maxLen; omega
def taskChecksL : List Ck := [⟨74, 123, #[]⟩, ⟨73, 124, #[]⟩, ⟨71, 125, #[]⟩, ⟨70, 126, #[]⟩, ⟨70, 127, #[]⟩, ⟨70, 128, #[]⟩]
theorem taskChecks_any (w : World) : Calls Tryz.prog 77 #[] w fun e w' => ChecksPost w taskChecksL e w' := by
 have hb := below_alloc w
 have hh := heap_alloc_new w
 go_enter Tryz.func77, Tryz.ntmps77
 go_wp2
 go_ret
 refine ⟨⟨some ⟨w.heap.size, 0, none⟩, 6, 6⟩, rfl, ?_, hb _⟩
 apply rows_ck (hh _)
 ·rfl
 ·rfl
 ·unfold maxLen; omega
def counterChecksL : List Ck := [⟨74, 131, #[]⟩]
theorem counterChecks_any (w : World) : Calls Tryz.prog 79 #[] w fun e w' => ChecksPost w counterChecksL e w' := by
 have hb := below_alloc w
 have hh := heap_alloc_new w
 go_enter Tryz.func79, Tryz.ntmps79
 go_wp2
 go_ret
 refine ⟨⟨some ⟨w.heap.size, 0, none⟩, 1, 1⟩, rfl, ?_, hb _⟩
 apply rows_ck (hh _)
 ·rfl
 ·rfl
 ·unfold maxLen; omega
def isrChecksL : List Ck := [⟨74, 142, #[]⟩, ⟨73, 143, #[]⟩, ⟨70, 144, #[]⟩, ⟨70, 145, #[]⟩, ⟨70, 146, #[]⟩]
theorem isrChecks_any (w : World) : Calls Tryz.prog 83 #[] w fun e w' => ChecksPost w isrChecksL e w' := by
 have hb := below_alloc w
 have hh := heap_alloc_new w
 go_enter Tryz.func83, Tryz.ntmps83
 go_wp2
 go_ret
 refine ⟨⟨some ⟨w.heap.size, 0, none⟩, 5, 5⟩, rfl, ?_, hb _⟩
 apply rows_ck (hh _)
 ·rfl
 ·rfl
 ·unfold maxLen; omega
def actL (bo : Nat) : List Ck := [⟨74, 172, #[.pointer (some ⟨bo, 0, none⟩)]⟩, ⟨74, 174, #[.pointer (some ⟨bo, 0, none⟩)]⟩, ⟨73, 176, #[.pointer (some ⟨bo, 0, none⟩)]⟩, ⟨70, 178, #[.pointer (some ⟨bo, 0, none⟩)]⟩, ⟨72, 180, #[.pointer (some ⟨bo, 0, none⟩)]⟩]
theorem actChecks_any (w : World) (fo : Nat) : Calls Tryz.prog 136 #[.func (.func fo) #[] #[]] w fun e w' => ∃ bo, ChecksPost w (actL bo) e w' ∧ w.heap.size ≤ bo ∧ bo < w'.heap.size ∧ w'.cell? ⟨bo, 0, none⟩ = some (.func (.func fo) #[] #[]) := by
 have hb := below_alloc w
 have hb2 := fun o o' => (hb o).trans ((below_alloc (w.alloc o) o').mono (hb o).size)
 have hh := heap_two w
 have hc : ∀ o t, ((w.alloc (.cells #[.func (.func fo) #[] #[]] t)).alloc o).cell? ⟨w.heap.size, 0, none⟩ = some (.func (.func fo) #[] #[]) := fun o t => by
  rw [cell_below (below_alloc _ _) _ _ (by simp)]
  simp
 go_enter Tryz.func136, Tryz.ntmps136
 go_wp2
 go_ret
 refine ⟨w.heap.size, ⟨⟨some ⟨w.heap.size + 1, 0, none⟩, 5, 5⟩, rfl, ?_, hb2 _ _⟩, Nat.le_refl _, by simp; omega, hc _ _⟩
 apply rows_ck (hh _ _)
 ·rfl
 ·rfl
 ·unfold maxLen; omega
theorem rows_str {w : World} {b : Nat} {s : List UInt8} (h : w.heap[b]? = some (.cells #[S s] 9 (0, 0))) : RowsAt w 1 strP ⟨some ⟨b, 0, none⟩, 1, 1⟩ [s] := by
 refine ⟨rfl, Nat.le_refl _, by show 1 ≤ maxLen; unfold maxLen; omega, fun j x hj => ⟨b, 0, rfl, heap_lt h, fun i hi => ⟨S s, ?_, ?_⟩⟩⟩
 ·have h0 : j = 0 := by have := (List.getElem?_eq_some_iff.1 hj).1; simp at this; omega
  subst h0
  obtain rfl : i = 0 := by omega
  rw [cell_of_row w b _ _ _ (0, 0) h]
  rfl
 ·have h0 : j = 0 := by have := (List.getElem?_eq_some_iff.1 hj).1; simp at this; omega
  subst h0
  obtain rfl : s = x := by simpa using hj
  rfl
theorem cpuNames_any (w : World) (c : Cf) (v : Vs) : Calls Tryz.prog 69 #[.agg (cfC c v)] w fun e w' => NamesPost w [c.cpu] e w' := by
 have hb := below_alloc w
 have hb2 := fun o o' => (hb o).trans ((below_alloc (w.alloc o) o').mono (hb o).size)
 have hh := heap_two w
 have f0 : ∀ h : 0 < (cfC c v).size, (cfC c v)[0] = S c.cpu := fun _ => rfl
 have hs18 : (cfC c v).size = 18 := rfl
 generalize cfC c v = C at *
 replace f0 := f0 (by omega)
 go_enter Tryz.func69, Tryz.ntmps69
 go_wp2
 go_ret
 exact ⟨⟨some ⟨w.heap.size + 1, 0, none⟩, 1, 1⟩, rfl, rows_str (hh _ _), hb2 _ _⟩
theorem osNames_any (w : World) (c : Cf) (v : Vs) : Calls Tryz.prog 70 #[.agg (cfC c v)] w fun e w' => NamesPost w [c.osn] e w' := by
 have hb := below_alloc w
 have hb2 := fun o o' => (hb o).trans ((below_alloc (w.alloc o) o').mono (hb o).size)
 have hh := heap_two w
 have f0 : ∀ h : 1 < (cfC c v).size, (cfC c v)[1] = S c.osn := fun _ => rfl
 have hs18 : (cfC c v).size = 18 := rfl
 generalize cfC c v = C at *
 replace f0 := f0 (by omega)
 go_enter Tryz.func70, Tryz.ntmps70
 go_wp2
 go_ret
 exact ⟨⟨some ⟨w.heap.size + 1, 0, none⟩, 1, 1⟩, rfl, rows_str (hh _ _), hb2 _ _⟩
theorem modeNames_any (w : World) (c : Cf) (v : Vs) (h : CfAt w c v) : Calls Tryz.prog 71 #[.agg (cfC c v)] w fun e w' => NamesPost w c.modes e w' := by
 have hb := below_alloc w
 have hR := fun o => h.m.below (hb o) (fun _ _ _ _ h => h)
 have f10 : ∀ h : 10 < (cfC c v).size, (cfC c v)[10] = .slice v.m.a v.m.n v.m.c := fun _ => rfl
 have hs18 : (cfC c v).size = 18 := rfl
 generalize cfC c v = C at *
 replace f10 := f10 (by omega)
 go_enter Tryz.func71, Tryz.ntmps71
 go_wp2
 go_ret
 exact ⟨v.m, rfl, hR _, hb _⟩
end Go.Proofs.YtpbnpmeigdjfdaaGreatDoor
