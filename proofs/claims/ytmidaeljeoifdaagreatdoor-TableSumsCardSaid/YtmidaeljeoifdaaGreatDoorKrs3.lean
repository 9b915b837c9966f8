import Derived.Test.YtmidaeljeoifdaaGreatDoorKrs2
namespace Go.Proofs.YtmidaeljeoifdaaGreatDoor
set_option maxRecDepth 100000
set_option maxHeartbeats 16000000
open Go.RowKit
set_option linter.unusedVariables false
theorem named_tk (w : World) (c : Cf) (v : Vs) (h : CfAt w c v) (hl : c.tasks.length ≤ 8796093022208) :
  Calls Tryz.prog 225 #[.slice v.t.a v.t.n v.t.c, .func (.func 226) #[] #[]] w fun e w' => NamesPost w (c.tasks.map fun x => x.name) e w' := by
 obtain ⟨i0, hi0, hz0, hz1, hz2⟩ := info_parts Tryz.infoStr
 have HN : Hid (v.t.n = c.tasks.length) := h.t.n
 have hn40 : v.t.n ≤ 8796093022208 := by have := h.t.n; omega
 have eg : ∀ args w, (callFunc 226 args).run Tryz.prog w = .ok (.enter 226 args) w := enters_of Tryz.func226 (by kernel_rfl) rfl
 go_enter Tryz.func225, Tryz.ntmps225
 go_wp2_with (refine wpList_make_own _ rfl _ _ 38 rfl w.heap.size 9 i0 (.string ⟨#[]⟩) 1 Tryz.underlying38 hi0 hz0 hz1 .i64 .i64 _ v.t.n rfl rfl rfl (by rw [hz2]; omega) (by unfold maxLen; omega) (Nat.le_refl _) ?_; intro w1 ho1 hg1)
 have hb1 := below_none hg1
 have hb1s := hb1.size
 clear hg1
 generalize hbk : w.heap.size = b at ho1 ⊢
 go_loopw [5, 7, 13] (fun o5 _ iv wr => ∃ j : Nat, j ≤ v.t.n ∧ iv = .int .i64 j ∧ o5 = .slice (some ⟨b, 0, none⟩) j v.t.n ∧ Hid (wr.ownsRow b 9 1 (.slice (some ⟨b, 0, none⟩) j v.t.n) j ((c.tasks.take j).map fun x => S x.name) ∧ Below b w wr)) (fun _ _ iv _ => v.t.n - (intOf iv).toNat)
 case atStart => exact ⟨0, by omega, rfl, rfl, ho1, by rw [← hbk]; exact hb1⟩
 case round =>
  obtain ⟨j, hj, rfl, rfl, HJ⟩ := hrel
  obtain ⟨hO, hB⟩ := HJ.out
  clear HJ ho1 hb1
  by_cases hlt : j < v.t.n
  ·have hlt' : (j : Int) < v.t.n := by omega
   have hjl : j < c.tasks.length := by rw [← HN.out]; exact hlt
   obtain ⟨x, hx⟩ : ∃ x, c.tasks[j]? = some x := ⟨_, List.getElem?_eq_getElem hjl⟩
   obtain ⟨g, off, s4, s5, s6, s7, e, hg, a0, a1, a2, a3, a4, a5, a6, a7, r4, r5, r6, r7⟩ := tk_at (h.below (by rw [hbk]; exact hB)) hx
   rw [e] at *
   have hng : g ≠ wr.heap.size := by omega
   have HT : Hid ((c.tasks.take (j + 1)).map (fun x => S x.name) = (c.tasks.take j).map (fun x => S x.name) ++ [S x.name]) := by
    show _ = _
    rw [List.take_add_one, hx, Option.toList_some, List.map_append]
    rfl
   have hst : (storeCells ⟨wr.heap.size, 0, none⟩ [S x.name, I x.prio, .bool x.full, I x.act, .slice s4.a s4.n s4.c, .slice s5.a s5.n s5.c, .slice s6.a s6.n s6.c, .slice s7.a s7.n s7.c] 0).run Tryz.prog (wr.alloc (.cells #[.string ⟨#[]⟩, .int .i64 0, .bool false, .int .i64 0, .slice none 0 0, .slice none 0 0, .slice none 0 0, .slice none 0 0] 58)) = .ok () (wr.alloc (.cells #[S x.name, I x.prio, .bool x.full, I x.act, .slice s4.a s4.n s4.c, .slice s5.a s5.n s5.c, .slice s6.a s6.n s6.c, .slice s7.a s7.n s7.c] 58)) :=
    run_storeCells_new (P := Tryz.prog) wr 58 #[.string ⟨#[]⟩, .int .i64 0, .bool false, .int .i64 0, .slice none 0 0, .slice none 0 0, .slice none 0 0, .slice none 0 0] #[S x.name, I x.prio, .bool x.full, I x.act, .slice s4.a s4.n s4.c, .slice s5.a s5.n s5.c, .slice s6.a s6.n s6.c, .slice s7.a s7.n s7.c] (by kernel_rfl) rfl (by simp [Value.oneCell'])
   have cn : ∀ W, Calls Tryz.prog 226 #[.agg #[S x.name, I x.prio, .bool x.full, I x.act, .slice s4.a s4.n s4.c, .slice s5.a s5.n s5.c, .slice s6.a s6.n s6.c, .slice s7.a s7.n s7.c]] W fun e w' => e = .returned (S x.name) ∧ Below W.heap.size W w' := fun W => by
    have hbW := below_alloc W
    go_enter Tryz.func226, Tryz.ntmps226
    go_wp2
    go_ret
    exact ⟨rfl, hbW _⟩
   have hbs := hB.size
   have hal := below_alloc wr (.cells #[S x.name, I x.prio, .bool x.full, I x.act, .slice s4.a s4.n s4.c, .slice s5.a s5.n s5.c, .slice s6.a s6.n s6.c, .slice s7.a s7.n s7.c] 58)
   clear hx hjl
   go_wp2_with (first | (go_at_call 226; refine (cn _).mono ?_; rintro e w2 ⟨rfl, hb2⟩; have hO2 := own_below (own_below hO hal) hb2; have hO3 := own_below hO2 (below_alloc w2 (.cells #[S x.name] 9))) | (at_builtin; refine wpList_append_fits _ rfl _ _ 38 rfl b 9 i0 1 Tryz.underlying38 hi0 hz1 b j v.t.n _ rfl hO3 ⟨w2.heap.size, 0, none⟩ 1 1 [S x.name] rfl rfl (cell_one_new _ _ _) (by simp [Value.oneCell']) hlt ?_; intro w3 hO4 hg4))
   go_roundw
   case rel =>
    refine ⟨j + 1, by omega, by go_num, rfl, by rw [HT.out]; exact hO4, ?_⟩
    have e1 := (hB.trans (hal.mono (by omega))).trans (hb2.mono (Nat.le_trans (by omega) hal.size))
    have e2 := e1.trans ((below_alloc w2 (.cells #[S x.name] 9)).mono (Nat.le_trans (Nat.le_trans (by omega) hal.size) hb2.size))
    exact e2.trans (below_of_grown hg4 (Nat.le_refl _) (by have := e2.size; omega))
   case measure => simp [intOf]; omega
  ·obtain rfl : j = v.t.n := by omega
   have hlt' : ¬ ((v.t.n : Nat) : Int) < (v.t.n : Nat) := by omega
   have hR := rows_own hO (l := c.tasks.map fun x => x.name) (by rw [List.take_of_length_le (by rw [HN.out]; exact Nat.le_refl _), List.map_map]; rfl) (by rw [List.length_map]; exact HN.out) (by unfold maxLen; omega)
   clear hO
   go_wp2
   go_ret
   exact ⟨⟨_, _, _⟩, rfl, hR, by rw [hbk]; exact hB⟩
theorem taskNames_any (w : World) (c : Cf) (v : Vs) (h : CfAt w c v) (hl : c.tasks.length ≤ 8796093022208) : Calls Tryz.prog 183 #[.agg (cfC c v)] w fun e w' => NamesPost w (c.tasks.map fun x => x.name) e w' := by
 have hb := below_alloc w
 have c1 := fun W (hW : Below w.heap.size w W) => named_tk W c v (h.below hW) hl
 have f11 : ∀ h : 11 < (cfC c v).size, (cfC c v)[11] = .slice v.t.a v.t.n v.t.c := fun _ => rfl
 have hs18 : (cfC c v).size = 18 := rfl
 generalize cfC c v = C at *
 replace f11 := f11 (by omega)
 go_enter Tryz.func183, Tryz.ntmps183
 go_wp2_with (first | (go_at_call 225; refine (c1 _ (hb _)).mono ?_; rintro e w2 ⟨s2, rfl, hR, hb2⟩))
 go_ret
 exact ⟨s2, rfl, hR, (hb _).trans (hb2.mono (hb _).size)⟩
theorem named_al (w : World) (c : Cf) (v : Vs) (h : CfAt w c v) (hl : c.als.length ≤ 8796093022208) :
  Calls Tryz.prog 236 #[.slice v.a.a v.a.n v.a.c, .func (.func 237) #[] #[]] w fun e w' => NamesPost w (c.als.map fun x => x.name) e w' := by
 obtain ⟨i0, hi0, hz0, hz1, hz2⟩ := info_parts Tryz.infoStr
 have HN : Hid (v.a.n = c.als.length) := h.a.n
 have hn40 : v.a.n ≤ 8796093022208 := by have := h.a.n; omega
 have eg : ∀ args w, (callFunc 237 args).run Tryz.prog w = .ok (.enter 237 args) w := enters_of Tryz.func237 (by kernel_rfl) rfl
 go_enter Tryz.func236, Tryz.ntmps236
 go_wp2_with (refine wpList_make_own _ rfl _ _ 38 rfl w.heap.size 9 i0 (.string ⟨#[]⟩) 1 Tryz.underlying38 hi0 hz0 hz1 .i64 .i64 _ v.a.n rfl rfl rfl (by rw [hz2]; omega) (by unfold maxLen; omega) (Nat.le_refl _) ?_; intro w1 ho1 hg1)
 have hb1 := below_none hg1
 have hb1s := hb1.size
 clear hg1
 generalize hbk : w.heap.size = b at ho1 ⊢
 go_loopw [5, 7, 13] (fun o5 _ iv wr => ∃ j : Nat, j ≤ v.a.n ∧ iv = .int .i64 j ∧ o5 = .slice (some ⟨b, 0, none⟩) j v.a.n ∧ Hid (wr.ownsRow b 9 1 (.slice (some ⟨b, 0, none⟩) j v.a.n) j ((c.als.take j).map fun x => S x.name) ∧ Below b w wr)) (fun _ _ iv _ => v.a.n - (intOf iv).toNat)
 case atStart => exact ⟨0, by omega, rfl, rfl, ho1, by rw [← hbk]; exact hb1⟩
 case round =>
  obtain ⟨j, hj, rfl, rfl, HJ⟩ := hrel
  obtain ⟨hO, hB⟩ := HJ.out
  clear HJ ho1 hb1
  by_cases hlt : j < v.a.n
  ·have hlt' : (j : Int) < v.a.n := by omega
   have hjl : j < c.als.length := by rw [← HN.out]; exact hlt
   obtain ⟨x, hx⟩ : ∃ x, c.als[j]? = some x := ⟨_, List.getElem?_eq_getElem hjl⟩
   obtain ⟨g, off, s6, e, hg, a0, a1, a2, a3, a4, a5, a6, a7, a8, r6⟩ := al_at (h.below (by rw [hbk]; exact hB)) hx
   rw [e] at *
   have hng : g ≠ wr.heap.size := by omega
   have HT : Hid ((c.als.take (j + 1)).map (fun x => S x.name) = (c.als.take j).map (fun x => S x.name) ++ [S x.name]) := by
    show _ = _
    rw [List.take_add_one, hx, Option.toList_some, List.map_append]
    rfl
   have hst : (storeCells ⟨wr.heap.size, 0, none⟩ [S x.name, I x.ctr, I x.ac.kind, I x.ac.task, I x.ac.event, S x.ac.name, .slice s6.a s6.n s6.c, .int .u32 (x.time : Int), .int .u32 (x.cycle : Int)] 0).run Tryz.prog (wr.alloc (.cells #[.string ⟨#[]⟩, .int .i64 0, .int .i64 0, .int .i64 0, .int .i64 0, .string ⟨#[]⟩, .slice none 0 0, .int .u32 0, .int .u32 0] 66)) = .ok () (wr.alloc (.cells #[S x.name, I x.ctr, I x.ac.kind, I x.ac.task, I x.ac.event, S x.ac.name, .slice s6.a s6.n s6.c, .int .u32 (x.time : Int), .int .u32 (x.cycle : Int)] 66)) :=
    run_storeCells_new (P := Tryz.prog) wr 66 #[.string ⟨#[]⟩, .int .i64 0, .int .i64 0, .int .i64 0, .int .i64 0, .string ⟨#[]⟩, .slice none 0 0, .int .u32 0, .int .u32 0] #[S x.name, I x.ctr, I x.ac.kind, I x.ac.task, I x.ac.event, S x.ac.name, .slice s6.a s6.n s6.c, .int .u32 (x.time : Int), .int .u32 (x.cycle : Int)] (by kernel_rfl) rfl (by simp [Value.oneCell'])
   have cn : ∀ W, Calls Tryz.prog 237 #[.agg #[S x.name, I x.ctr, I x.ac.kind, I x.ac.task, I x.ac.event, S x.ac.name, .slice s6.a s6.n s6.c, .int .u32 (x.time : Int), .int .u32 (x.cycle : Int)]] W fun e w' => e = .returned (S x.name) ∧ Below W.heap.size W w' := fun W => by
    have hbW := below_alloc W
    go_enter Tryz.func237, Tryz.ntmps237
    go_wp2
    go_ret
    exact ⟨rfl, hbW _⟩
   have hbs := hB.size
   have hal := below_alloc wr (.cells #[S x.name, I x.ctr, I x.ac.kind, I x.ac.task, I x.ac.event, S x.ac.name, .slice s6.a s6.n s6.c, .int .u32 (x.time : Int), .int .u32 (x.cycle : Int)] 66)
   clear hx hjl
   go_wp2_with (first | (go_at_call 237; refine (cn _).mono ?_; rintro e w2 ⟨rfl, hb2⟩; have hO2 := own_below (own_below hO hal) hb2; have hO3 := own_below hO2 (below_alloc w2 (.cells #[S x.name] 9))) | (at_builtin; refine wpList_append_fits _ rfl _ _ 38 rfl b 9 i0 1 Tryz.underlying38 hi0 hz1 b j v.a.n _ rfl hO3 ⟨w2.heap.size, 0, none⟩ 1 1 [S x.name] rfl rfl (cell_one_new _ _ _) (by simp [Value.oneCell']) hlt ?_; intro w3 hO4 hg4))
   go_roundw
   case rel =>
    refine ⟨j + 1, by omega, by go_num, rfl, by rw [HT.out]; exact hO4, ?_⟩
    have e1 := (hB.trans (hal.mono (by omega))).trans (hb2.mono (Nat.le_trans (by omega) hal.size))
    have e2 := e1.trans ((below_alloc w2 (.cells #[S x.name] 9)).mono (Nat.le_trans (Nat.le_trans (by omega) hal.size) hb2.size))
    exact e2.trans (below_of_grown hg4 (Nat.le_refl _) (by have := e2.size; omega))
   case measure => simp [intOf]; omega
  ·obtain rfl : j = v.a.n := by omega
   have hlt' : ¬ ((v.a.n : Nat) : Int) < (v.a.n : Nat) := by omega
   have hR := rows_own hO (l := c.als.map fun x => x.name) (by rw [List.take_of_length_le (by rw [HN.out]; exact Nat.le_refl _), List.map_map]; rfl) (by rw [List.length_map]; exact HN.out) (by unfold maxLen; omega)
   clear hO
   go_wp2
   go_ret
   exact ⟨⟨_, _, _⟩, rfl, hR, by rw [hbk]; exact hB⟩
theorem alarmNames_any (w : World) (c : Cf) (v : Vs) (h : CfAt w c v) (hl : c.als.length ≤ 8796093022208) : Calls Tryz.prog 187 #[.agg (cfC c v)] w fun e w' => NamesPost w (c.als.map fun x => x.name) e w' := by
 have hb := below_alloc w
 have c1 := fun W (hW : Below w.heap.size w W) => named_al W c v (h.below hW) hl
 have f15 : ∀ h : 15 < (cfC c v).size, (cfC c v)[15] = .slice v.a.a v.a.n v.a.c := fun _ => rfl
 have hs18 : (cfC c v).size = 18 := rfl
 generalize cfC c v = C at *
 replace f15 := f15 (by omega)
 go_enter Tryz.func187, Tryz.ntmps187
 go_wp2_with (first | (go_at_call 236; refine (c1 _ (hb _)).mono ?_; rintro e w2 ⟨s2, rfl, hR, hb2⟩))
 go_ret
 exact ⟨s2, rfl, hR, (hb _).trans (hb2.mono (hb _).size)⟩
theorem named_ms (w : World) (c : Cf) (v : Vs) (h : CfAt w c v) (hl : c.msgs.length ≤ 8796093022208) :
  Calls Tryz.prog 251 #[.slice v.s.a v.s.n v.s.c, .func (.func 252) #[] #[]] w fun e w' => NamesPost w (c.msgs.map fun x => x.name) e w' := by
 obtain ⟨i0, hi0, hz0, hz1, hz2⟩ := info_parts Tryz.infoStr
 have HN : Hid (v.s.n = c.msgs.length) := h.s.n
 have hn40 : v.s.n ≤ 8796093022208 := by have := h.s.n; omega
 have eg : ∀ args w, (callFunc 252 args).run Tryz.prog w = .ok (.enter 252 args) w := enters_of Tryz.func252 (by kernel_rfl) rfl
 go_enter Tryz.func251, Tryz.ntmps251
 go_wp2_with (refine wpList_make_own _ rfl _ _ 38 rfl w.heap.size 9 i0 (.string ⟨#[]⟩) 1 Tryz.underlying38 hi0 hz0 hz1 .i64 .i64 _ v.s.n rfl rfl rfl (by rw [hz2]; omega) (by unfold maxLen; omega) (Nat.le_refl _) ?_; intro w1 ho1 hg1)
 have hb1 := below_none hg1
 have hb1s := hb1.size
 clear hg1
 generalize hbk : w.heap.size = b at ho1 ⊢
 go_loopw [5, 7, 13] (fun o5 _ iv wr => ∃ j : Nat, j ≤ v.s.n ∧ iv = .int .i64 j ∧ o5 = .slice (some ⟨b, 0, none⟩) j v.s.n ∧ Hid (wr.ownsRow b 9 1 (.slice (some ⟨b, 0, none⟩) j v.s.n) j ((c.msgs.take j).map fun x => S x.name) ∧ Below b w wr)) (fun _ _ iv _ => v.s.n - (intOf iv).toNat)
 case atStart => exact ⟨0, by omega, rfl, rfl, ho1, by rw [← hbk]; exact hb1⟩
 case round =>
  obtain ⟨j, hj, rfl, rfl, HJ⟩ := hrel
  obtain ⟨hO, hB⟩ := HJ.out
  clear HJ ho1 hb1
  by_cases hlt : j < v.s.n
  ·have hlt' : (j : Int) < v.s.n := by omega
   have hjl : j < c.msgs.length := by rw [← HN.out]; exact hlt
   obtain ⟨x, hx⟩ : ∃ x, c.msgs[j]? = some x := ⟨_, List.getElem?_eq_getElem hjl⟩
   obtain ⟨g, off, e, hg, a0, a1, a2, a3, a4, a5, a6, a7, a8, a9⟩ := ms_at (h.below (by rw [hbk]; exact hB)) hx
   rw [e] at *
   have hng : g ≠ wr.heap.size := by omega
   have HT : Hid ((c.msgs.take (j + 1)).map (fun x => S x.name) = (c.msgs.take j).map (fun x => S x.name) ++ [S x.name]) := by
    show _ = _
    rw [List.take_add_one, hx, Option.toList_some, List.map_append]
    rfl
   have hst : (storeCells ⟨wr.heap.size, 0, none⟩ [S x.name, I x.kind, I x.len, I x.frm, .int .u64 (x.init : Int), I x.queue, I x.ac.kind, I x.ac.task, I x.ac.event, S x.ac.name] 0).run Tryz.prog (wr.alloc (.cells #[.string ⟨#[]⟩, .int .i64 0, .int .i64 0, .int .i64 0, .int .u64 0, .int .i64 0, .int .i64 0, .int .i64 0, .int .i64 0, .string ⟨#[]⟩] 114)) = .ok () (wr.alloc (.cells #[S x.name, I x.kind, I x.len, I x.frm, .int .u64 (x.init : Int), I x.queue, I x.ac.kind, I x.ac.task, I x.ac.event, S x.ac.name] 114)) :=
    run_storeCells_new (P := Tryz.prog) wr 114 #[.string ⟨#[]⟩, .int .i64 0, .int .i64 0, .int .i64 0, .int .u64 0, .int .i64 0, .int .i64 0, .int .i64 0, .int .i64 0, .string ⟨#[]⟩] #[S x.name, I x.kind, I x.len, I x.frm, .int .u64 (x.init : Int), I x.queue, I x.ac.kind, I x.ac.task, I x.ac.event, S x.ac.name] (by kernel_rfl) rfl (by simp [Value.oneCell'])
   have cn : ∀ W, Calls Tryz.prog 252 #[.agg #[S x.name, I x.kind, I x.len, I x.frm, .int .u64 (x.init : Int), I x.queue, I x.ac.kind, I x.ac.task, I x.ac.event, S x.ac.name]] W fun e w' => e = .returned (S x.name) ∧ Below W.heap.size W w' := fun W => by
    have hbW := below_alloc W
    go_enter Tryz.func252, Tryz.ntmps252
    go_wp2
    go_ret
    exact ⟨rfl, hbW _⟩
   have hbs := hB.size
   have hal := below_alloc wr (.cells #[S x.name, I x.kind, I x.len, I x.frm, .int .u64 (x.init : Int), I x.queue, I x.ac.kind, I x.ac.task, I x.ac.event, S x.ac.name] 114)
   clear hx hjl
   go_wp2_with (first | (go_at_call 252; refine (cn _).mono ?_; rintro e w2 ⟨rfl, hb2⟩; have hO2 := own_below (own_below hO hal) hb2; have hO3 := own_below hO2 (below_alloc w2 (.cells #[S x.name] 9))) | (at_builtin; refine wpList_append_fits _ rfl _ _ 38 rfl b 9 i0 1 Tryz.underlying38 hi0 hz1 b j v.s.n _ rfl hO3 ⟨w2.heap.size, 0, none⟩ 1 1 [S x.name] rfl rfl (cell_one_new _ _ _) (by simp [Value.oneCell']) hlt ?_; intro w3 hO4 hg4))
   go_roundw
   case rel =>
    refine ⟨j + 1, by omega, by go_num, rfl, by rw [HT.out]; exact hO4, ?_⟩
    have e1 := (hB.trans (hal.mono (by omega))).trans (hb2.mono (Nat.le_trans (by omega) hal.size))
    have e2 := e1.trans ((below_alloc w2 (.cells #[S x.name] 9)).mono (Nat.le_trans (Nat.le_trans (by omega) hal.size) hb2.size))
    exact e2.trans (below_of_grown hg4 (Nat.le_refl _) (by have := e2.size; omega))
   case measure => simp [intOf]; omega
  ·obtain rfl : j = v.s.n := by omega
   have hlt' : ¬ ((v.s.n : Nat) : Int) < (v.s.n : Nat) := by omega
   have hR := rows_own hO (l := c.msgs.map fun x => x.name) (by rw [List.take_of_length_le (by rw [HN.out]; exact Nat.le_refl _), List.map_map]; rfl) (by rw [List.length_map]; exact HN.out) (by unfold maxLen; omega)
   clear hO
   go_wp2
   go_ret
   exact ⟨⟨_, _, _⟩, rfl, hR, by rw [hbk]; exact hB⟩
theorem messageNames_any (w : World) (c : Cf) (v : Vs) (h : CfAt w c v) (hl : c.msgs.length ≤ 8796093022208) : Calls Tryz.prog 191 #[.agg (cfC c v)] w fun e w' => NamesPost w (c.msgs.map fun x => x.name) e w' := by
 have hb := below_alloc w
 have c1 := fun W (hW : Below w.heap.size w W) => named_ms W c v (h.below hW) hl
 have f17 : ∀ h : 17 < (cfC c v).size, (cfC c v)[17] = .slice v.s.a v.s.n v.s.c := fun _ => rfl
 have hs18 : (cfC c v).size = 18 := rfl
 generalize cfC c v = C at *
 replace f17 := f17 (by omega)
 go_enter Tryz.func191, Tryz.ntmps191
 go_wp2_with (first | (go_at_call 251; refine (c1 _ (hb _)).mono ?_; rintro e w2 ⟨s2, rfl, hR, hb2⟩))
 go_ret
 exact ⟨s2, rfl, hR, (hb _).trans (hb2.mono (hb _).size)⟩
end Go.Proofs.YtmidaeljeoifdaaGreatDoor
