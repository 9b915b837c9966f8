import Derived.Test.YtpbnpmeigdjfdaaGreatDoorXKrr
import Derived.Deep.WholeRow
import Derived.Shelf.Abstract
namespace Go.Proofs.YtpbnpmeigdjfdaaGreatDoor
open Go.RowKit
set_option linter.unusedSimpArgs false
set_option linter.unusedVariables false
set_option maxHeartbeats 16000000
set_option maxRecDepth 100000
theorem Tryz.infoStr : (Tryz.prog.info? 9).map (fun i => (i.zero, i.size, i.bytes)) = some (some (.string ⟨#[]⟩), 1, 16) := by kernel_rfl
def NamesPost (w : World) (l : List (List UInt8)) (e : Ending) (w' : World) : Prop := ∃ s : Sl, e = .returned (.slice s.a s.n s.c) ∧ RowsAt w' 1 strP s l ∧ Below w.heap.size w w'
theorem rows_own {w : World} {b n : Nat} {xs : List Value} {l : List (List UInt8)} (h : w.ownsRow b 9 1 (.slice (some ⟨b, 0, none⟩) n n) n xs) (hx : xs = l.map fun x => S x) (hn : n = l.length) (hm : n ≤ maxLen) : RowsAt w 1 strP ⟨some ⟨b, 0, none⟩, n, n⟩ l := by
 refine ⟨hn, Nat.le_refl _, hm, fun j x hj => ⟨b, 0, rfl, (h.lt b rfl).2, fun i hi => ?_⟩⟩
 obtain rfl : i = 0 := by omega
 refine ⟨S x, ?_, rfl⟩
 rw [show 0 + j * 1 + 0 = j by omega, h.cellAt j (by have := (List.getElem?_eq_some_iff.1 hj).1; omega), hx, List.getElem?_map, hj]
 rfl
theorem named_rs (w : World) (c : Cf) (v : Vs) (h : CfAt w c v) (hl : c.ress.length ≤ 8796093022208) :
  Calls Tryz.prog 112 #[.slice v.r.a v.r.n v.r.c, .func (.func 113) #[] #[]] w fun e w' => NamesPost w (c.ress.map fun x => x.name) e w' := by
 obtain ⟨i0, hi0, hz0, hz1, hz2⟩ := info_parts Tryz.infoStr
 have HN : Hid (v.r.n = c.ress.length) := h.r.n
 have hn40 : v.r.n ≤ 8796093022208 := by have := h.r.n; omega
 have eg : ∀ args w, (callFunc 113 args).run Tryz.prog w = .ok (.enter 113 args) w := enters_of Tryz.func113 (by kernel_rfl) rfl
 go_enter Tryz.func112, Tryz.ntmps112
 go_wp2_with (refine wpList_make_own _ rfl _ _ 24 rfl w.heap.size 9 i0 (.string ⟨#[]⟩) 1 Tryz.underlying24 hi0 hz0 hz1 .i64 .i64 _ v.r.n rfl rfl rfl (by rw [hz2]; omega) (by unfold maxLen; omega) (Nat.le_refl _) ?_; intro w1 ho1 hg1)
 have hb1 := below_none hg1
 have hb1s := hb1.size
 clear hg1
 generalize hbk : w.heap.size = b at ho1 ⊢
 go_loopw [5, 7, 13] (fun o5 _ iv wr => ∃ j : Nat, j ≤ v.r.n ∧ iv = .int .i64 j ∧ o5 = .slice (some ⟨b, 0, none⟩) j v.r.n ∧ Hid (wr.ownsRow b 9 1 (.slice (some ⟨b, 0, none⟩) j v.r.n) j ((c.ress.take j).map fun x => S x.name) ∧ Below b w wr)) (fun _ _ iv _ => v.r.n - (intOf iv).toNat)
 case atStart => exact ⟨0, by omega, rfl, rfl, ho1, by rw [← hbk]; exact hb1⟩
 case round =>
  obtain ⟨j, hj, rfl, rfl, HJ⟩ := hrel
  obtain ⟨hO, hB⟩ := HJ.out
  clear HJ ho1 hb1
  by_cases hlt : j < v.r.n
  ·have hlt' : (j : Int) < v.r.n := by omega
   have hjl : j < c.ress.length := by rw [← HN.out]; exact hlt
   obtain ⟨x, hx⟩ : ∃ x, c.ress[j]? = some x := ⟨_, List.getElem?_eq_getElem hjl⟩
   obtain ⟨g, off, e, hg, a0, a1, a2⟩ := rs_at (h.below (by rw [hbk]; exact hB)) hx
   rw [e] at *
   have hng : g ≠ wr.heap.size := by omega
   have HT : Hid ((c.ress.take (j + 1)).map (fun x => S x.name) = (c.ress.take j).map (fun x => S x.name) ++ [S x.name]) := by
    show _ = _
    rw [List.take_add_one, hx, Option.toList_some, List.map_append]
    rfl
   have hst : (storeCells ⟨wr.heap.size, 0, none⟩ [S x.name, I x.kind, I x.link] 0).run Tryz.prog (wr.alloc (.cells #[.string ⟨#[]⟩, .int .i64 0, .int .i64 0] 82)) = .ok () (wr.alloc (.cells #[S x.name, I x.kind, I x.link] 82)) :=
    run_storeCells_new (P := Tryz.prog) wr 82 #[.string ⟨#[]⟩, .int .i64 0, .int .i64 0] #[S x.name, I x.kind, I x.link] (by kernel_rfl) rfl (by simp [Value.oneCell'])
   have cn : ∀ W, Calls Tryz.prog 113 #[.agg #[S x.name, I x.kind, I x.link]] W fun e w' => e = .returned (S x.name) ∧ Below W.heap.size W w' := fun W => by
    have hbW := below_alloc W
    go_enter Tryz.func113, Tryz.ntmps113
    go_wp2
    go_ret
    exact ⟨rfl, hbW _⟩
   have hbs := hB.size
   have hal := below_alloc wr (.cells #[S x.name, I x.kind, I x.link] 82)
   clear hx hjl
   go_wp2_with (first | (go_at_call 113; refine (cn _).mono ?_; rintro e w2 ⟨rfl, hb2⟩; have hO2 := own_below (own_below hO hal) hb2; have hO3 := own_below hO2 (below_alloc w2 (.cells #[S x.name] 9))) | (at_builtin; refine wpList_append_fits _ rfl _ _ 24 rfl b 9 i0 1 Tryz.underlying24 hi0 hz1 b j v.r.n _ rfl hO3 ⟨w2.heap.size, 0, none⟩ 1 1 [S x.name] rfl rfl (cell_one_new _ _ _) (by simp [Value.oneCell']) hlt ?_; intro w3 hO4 hg4))
   go_roundw
   case rel =>
    refine ⟨j + 1, by omega, by go_num, rfl, by rw [HT.out]; exact hO4, ?_⟩
    have e1 := (hB.trans (hal.mono (by omega))).trans (hb2.mono (Nat.le_trans (by omega) hal.size))
    have e2 := e1.trans ((below_alloc w2 (.cells #[S x.name] 9)).mono (Nat.le_trans (Nat.le_trans (by omega) hal.size) hb2.size))
    exact e2.trans (below_of_grown hg4 (Nat.le_refl _) (by have := e2.size; omega))
   case measure => simp [intOf]; omega
  ·obtain rfl : j = v.r.n := by omega
   have hlt' : ¬ ((v.r.n : Nat) : Int) < (v.r.n : Nat) := by omega
   have hR := rows_own hO (l := c.ress.map fun x => x.name) (by rw [List.take_of_length_le (by rw [HN.out]; exact Nat.le_refl _), List.map_map]; rfl) (by rw [List.length_map]; exact HN.out) (by unfold maxLen; omega)
   clear hO
   go_wp2
   go_ret
   exact ⟨⟨_, _, _⟩, rfl, hR, by rw [hbk]; exact hB⟩
theorem resourceNames_any (w : World) (c : Cf) (v : Vs) (h : CfAt w c v) (hl : c.ress.length ≤ 8796093022208) : Calls Tryz.prog 72 #[.agg (cfC c v)] w fun e w' => NamesPost w (c.ress.map fun x => x.name) e w' := by
 have hb := below_alloc w
 have c1 := fun W (hW : Below w.heap.size w W) => named_rs W c v (h.below hW) hl
 have f12 : ∀ h : 12 < (cfC c v).size, (cfC c v)[12] = .slice v.r.a v.r.n v.r.c := fun _ => rfl
 have hs18 : (cfC c v).size = 18 := rfl
 generalize cfC c v = C at *
 replace f12 := f12 (by omega)
 go_enter Tryz.func72, Tryz.ntmps72
 go_wp2_with (first | (go_at_call 112; refine (c1 _ (hb _)).mono ?_; rintro e w2 ⟨s2, rfl, hR, hb2⟩))
 go_ret
 exact ⟨s2, rfl, hR, (hb _).trans (hb2.mono (hb _).size)⟩
theorem named_ev (w : World) (c : Cf) (v : Vs) (h : CfAt w c v) (hl : c.evs.length ≤ 8796093022208) :
  Calls Tryz.prog 118 #[.slice v.e.a v.e.n v.e.c, .func (.func 119) #[] #[]] w fun e w' => NamesPost w (c.evs.map fun x => x.name) e w' := by
 obtain ⟨i0, hi0, hz0, hz1, hz2⟩ := info_parts Tryz.infoStr
 have HN : Hid (v.e.n = c.evs.length) := h.e.n
 have hn40 : v.e.n ≤ 8796093022208 := by have := h.e.n; omega
 have eg : ∀ args w, (callFunc 119 args).run Tryz.prog w = .ok (.enter 119 args) w := enters_of Tryz.func119 (by kernel_rfl) rfl
 go_enter Tryz.func118, Tryz.ntmps118
 go_wp2_with (refine wpList_make_own _ rfl _ _ 24 rfl w.heap.size 9 i0 (.string ⟨#[]⟩) 1 Tryz.underlying24 hi0 hz0 hz1 .i64 .i64 _ v.e.n rfl rfl rfl (by rw [hz2]; omega) (by unfold maxLen; omega) (Nat.le_refl _) ?_; intro w1 ho1 hg1)
 have hb1 := below_none hg1
 have hb1s := hb1.size
 clear hg1
 generalize hbk : w.heap.size = b at ho1 ⊢
 go_loopw [5, 7, 13] (fun o5 _ iv wr => ∃ j : Nat, j ≤ v.e.n ∧ iv = .int .i64 j ∧ o5 = .slice (some ⟨b, 0, none⟩) j v.e.n ∧ Hid (wr.ownsRow b 9 1 (.slice (some ⟨b, 0, none⟩) j v.e.n) j ((c.evs.take j).map fun x => S x.name) ∧ Below b w wr)) (fun _ _ iv _ => v.e.n - (intOf iv).toNat)
 case atStart => exact ⟨0, by omega, rfl, rfl, ho1, by rw [← hbk]; exact hb1⟩
 case round =>
  obtain ⟨j, hj, rfl, rfl, HJ⟩ := hrel
  obtain ⟨hO, hB⟩ := HJ.out
  clear HJ ho1 hb1
  by_cases hlt : j < v.e.n
  ·have hlt' : (j : Int) < v.e.n := by omega
   have hjl : j < c.evs.length := by rw [← HN.out]; exact hlt
   obtain ⟨x, hx⟩ : ∃ x, c.evs[j]? = some x := ⟨_, List.getElem?_eq_getElem hjl⟩
   obtain ⟨g, off, e, hg, a0, a1, a2⟩ := ev_at (h.below (by rw [hbk]; exact hB)) hx
   rw [e] at *
   have hng : g ≠ wr.heap.size := by omega
   have HT : Hid ((c.evs.take (j + 1)).map (fun x => S x.name) = (c.evs.take j).map (fun x => S x.name) ++ [S x.name]) := by
    show _ = _
    rw [List.take_add_one, hx, Option.toList_some, List.map_append]
    rfl
   have hst : (storeCells ⟨wr.heap.size, 0, none⟩ [S x.name, .int .u32 (x.mask : Int), .bool x.auto] 0).run Tryz.prog (wr.alloc (.cells #[.string ⟨#[]⟩, .int .u32 0, .bool false] 163)) = .ok () (wr.alloc (.cells #[S x.name, .int .u32 (x.mask : Int), .bool x.auto] 163)) :=
    run_storeCells_new (P := Tryz.prog) wr 163 #[.string ⟨#[]⟩, .int .u32 0, .bool false] #[S x.name, .int .u32 (x.mask : Int), .bool x.auto] (by kernel_rfl) rfl (by simp [Value.oneCell'])
   have cn : ∀ W, Calls Tryz.prog 119 #[.agg #[S x.name, .int .u32 (x.mask : Int), .bool x.auto]] W fun e w' => e = .returned (S x.name) ∧ Below W.heap.size W w' := fun W => by
    have hbW := below_alloc W
    go_enter Tryz.func119, Tryz.ntmps119
    go_wp2
    go_ret
    exact ⟨rfl, hbW _⟩
   have hbs := hB.size
   have hal := below_alloc wr (.cells #[S x.name, .int .u32 (x.mask : Int), .bool x.auto] 163)
   clear hx hjl
   go_wp2_with (first | (go_at_call 119; refine (cn _).mono ?_; rintro e w2 ⟨rfl, hb2⟩; have hO2 := own_below (own_below hO hal) hb2; have hO3 := own_below hO2 (below_alloc w2 (.cells #[S x.name] 9))) | (at_builtin; refine wpList_append_fits _ rfl _ _ 24 rfl b 9 i0 1 Tryz.underlying24 hi0 hz1 b j v.e.n _ rfl hO3 ⟨w2.heap.size, 0, none⟩ 1 1 [S x.name] rfl rfl (cell_one_new _ _ _) (by simp [Value.oneCell']) hlt ?_; intro w3 hO4 hg4))
   go_roundw
   case rel =>
    refine ⟨j + 1, by omega, by go_num, rfl, by rw [HT.out]; exact hO4, ?_⟩
    have e1 := (hB.trans (hal.mono (by omega))).trans (hb2.mono (Nat.le_trans (by omega) hal.size))
    have e2 := e1.trans ((below_alloc w2 (.cells #[S x.name] 9)).mono (Nat.le_trans (Nat.le_trans (by omega) hal.size) hb2.size))
    exact e2.trans (below_of_grown hg4 (Nat.le_refl _) (by have := e2.size; omega))
   case measure => simp [intOf]; omega
  ·obtain rfl : j = v.e.n := by omega
   have hlt' : ¬ ((v.e.n : Nat) : Int) < (v.e.n : Nat) := by omega
   have hR := rows_own hO (l := c.evs.map fun x => x.name) (by rw [List.take_of_length_le (by rw [HN.out]; exact Nat.le_refl _), List.map_map]; rfl) (by rw [List.length_map]; exact HN.out) (by unfold maxLen; omega)
   clear hO
   go_wp2
   go_ret
   exact ⟨⟨_, _, _⟩, rfl, hR, by rw [hbk]; exact hB⟩
theorem eventNames_any (w : World) (c : Cf) (v : Vs) (h : CfAt w c v) (hl : c.evs.length ≤ 8796093022208) : Calls Tryz.prog 74 #[.agg (cfC c v)] w fun e w' => NamesPost w (c.evs.map fun x => x.name) e w' := by
 have hb := below_alloc w
 have c1 := fun W (hW : Below w.heap.size w W) => named_ev W c v (h.below hW) hl
 have f13 : ∀ h : 13 < (cfC c v).size, (cfC c v)[13] = .slice v.e.a v.e.n v.e.c := fun _ => rfl
 have hs18 : (cfC c v).size = 18 := rfl
 generalize cfC c v = C at *
 replace f13 := f13 (by omega)
 go_enter Tryz.func74, Tryz.ntmps74
 go_wp2_with (first | (go_at_call 118; refine (c1 _ (hb _)).mono ?_; rintro e w2 ⟨s2, rfl, hR, hb2⟩))
 go_ret
 exact ⟨s2, rfl, hR, (hb _).trans (hb2.mono (hb _).size)⟩
theorem named_ct (w : World) (c : Cf) (v : Vs) (h : CfAt w c v) (hl : c.ctrs.length ≤ 8796093022208) :
  Calls Tryz.prog 129 #[.slice v.k.a v.k.n v.k.c, .func (.func 130) #[] #[]] w fun e w' => NamesPost w (c.ctrs.map fun x => x.name) e w' := by
 obtain ⟨i0, hi0, hz0, hz1, hz2⟩ := info_parts Tryz.infoStr
 have HN : Hid (v.k.n = c.ctrs.length) := h.k.n
 have hn40 : v.k.n ≤ 8796093022208 := by have := h.k.n; omega
 have eg : ∀ args w, (callFunc 130 args).run Tryz.prog w = .ok (.enter 130 args) w := enters_of Tryz.func130 (by kernel_rfl) rfl
 go_enter Tryz.func129, Tryz.ntmps129
 go_wp2_with (refine wpList_make_own _ rfl _ _ 24 rfl w.heap.size 9 i0 (.string ⟨#[]⟩) 1 Tryz.underlying24 hi0 hz0 hz1 .i64 .i64 _ v.k.n rfl rfl rfl (by rw [hz2]; omega) (by unfold maxLen; omega) (Nat.le_refl _) ?_; intro w1 ho1 hg1)
 have hb1 := below_none hg1
 have hb1s := hb1.size
 clear hg1
 generalize hbk : w.heap.size = b at ho1 ⊢
 go_loopw [5, 7, 13] (fun o5 _ iv wr => ∃ j : Nat, j ≤ v.k.n ∧ iv = .int .i64 j ∧ o5 = .slice (some ⟨b, 0, none⟩) j v.k.n ∧ Hid (wr.ownsRow b 9 1 (.slice (some ⟨b, 0, none⟩) j v.k.n) j ((c.ctrs.take j).map fun x => S x.name) ∧ Below b w wr)) (fun _ _ iv _ => v.k.n - (intOf iv).toNat)
 case atStart => exact ⟨0, by omega, rfl, rfl, ho1, by rw [← hbk]; exact hb1⟩
 case round =>
  obtain ⟨j, hj, rfl, rfl, HJ⟩ := hrel
  obtain ⟨hO, hB⟩ := HJ.out
  clear HJ ho1 hb1
  by_cases hlt : j < v.k.n
  ·have hlt' : (j : Int) < v.k.n := by omega
   have hjl : j < c.ctrs.length := by rw [← HN.out]; exact hlt
   obtain ⟨x, hx⟩ : ∃ x, c.ctrs[j]? = some x := ⟨_, List.getElem?_eq_getElem hjl⟩
   obtain ⟨g, off, e, hg, a0, a1, a2, a3⟩ := ct_at (h.below (by rw [hbk]; exact hB)) hx
   rw [e] at *
   have hng : g ≠ wr.heap.size := by omega
   have HT : Hid ((c.ctrs.take (j + 1)).map (fun x => S x.name) = (c.ctrs.take j).map (fun x => S x.name) ++ [S x.name]) := by
    show _ = _
    rw [List.take_add_one, hx, Option.toList_some, List.map_append]
    rfl
   have hst : (storeCells ⟨wr.heap.size, 0, none⟩ [S x.name, .int .u32 (x.max : Int), .int .u32 (x.base : Int), .int .u32 (x.min : Int)] 0).run Tryz.prog (wr.alloc (.cells #[.string ⟨#[]⟩, .int .u32 0, .int .u32 0, .int .u32 0] 165)) = .ok () (wr.alloc (.cells #[S x.name, .int .u32 (x.max : Int), .int .u32 (x.base : Int), .int .u32 (x.min : Int)] 165)) :=
    run_storeCells_new (P := Tryz.prog) wr 165 #[.string ⟨#[]⟩, .int .u32 0, .int .u32 0, .int .u32 0] #[S x.name, .int .u32 (x.max : Int), .int .u32 (x.base : Int), .int .u32 (x.min : Int)] (by kernel_rfl) rfl (by simp [Value.oneCell'])
   have cn : ∀ W, Calls Tryz.prog 130 #[.agg #[S x.name, .int .u32 (x.max : Int), .int .u32 (x.base : Int), .int .u32 (x.min : Int)]] W fun e w' => e = .returned (S x.name) ∧ Below W.heap.size W w' := fun W => by
    have hbW := below_alloc W
    go_enter Tryz.func130, Tryz.ntmps130
    go_wp2
    go_ret
    exact ⟨rfl, hbW _⟩
   have hbs := hB.size
   have hal := below_alloc wr (.cells #[S x.name, .int .u32 (x.max : Int), .int .u32 (x.base : Int), .int .u32 (x.min : Int)] 165)
   clear hx hjl
   go_wp2_with (first | (go_at_call 130; refine (cn _).mono ?_; rintro e w2 ⟨rfl, hb2⟩; have hO2 := own_below (own_below hO hal) hb2; have hO3 := own_below hO2 (below_alloc w2 (.cells #[S x.name] 9))) | (at_builtin; refine wpList_append_fits _ rfl _ _ 24 rfl b 9 i0 1 Tryz.underlying24 hi0 hz1 b j v.k.n _ rfl hO3 ⟨w2.heap.size, 0, none⟩ 1 1 [S x.name] rfl rfl (cell_one_new _ _ _) (by simp [Value.oneCell']) hlt ?_; intro w3 hO4 hg4))
   go_roundw
   case rel =>
    refine ⟨j + 1, by omega, by go_num, rfl, by rw [HT.out]; exact hO4, ?_⟩
    have e1 := (hB.trans (hal.mono (by omega))).trans (hb2.mono (Nat.le_trans (by omega) hal.size))
    have e2 := e1.trans ((below_alloc w2 (.cells #[S x.name] 9)).mono (Nat.le_trans (Nat.le_trans (by omega) hal.size) hb2.size))
    exact e2.trans (below_of_grown hg4 (Nat.le_refl _) (by have := e2.size; omega))
   case measure => simp [intOf]; omega
  ·obtain rfl : j = v.k.n := by omega
   have hlt' : ¬ ((v.k.n : Nat) : Int) < (v.k.n : Nat) := by omega
   have hR := rows_own hO (l := c.ctrs.map fun x => x.name) (by rw [List.take_of_length_le (by rw [HN.out]; exact Nat.le_refl _), List.map_map]; rfl) (by rw [List.length_map]; exact HN.out) (by unfold maxLen; omega)
   clear hO
   go_wp2
   go_ret
   exact ⟨⟨_, _, _⟩, rfl, hR, by rw [hbk]; exact hB⟩
theorem counterNames_any (w : World) (c : Cf) (v : Vs) (h : CfAt w c v) (hl : c.ctrs.length ≤ 8796093022208) : Calls Tryz.prog 78 #[.agg (cfC c v)] w fun e w' => NamesPost w (c.ctrs.map fun x => x.name) e w' := by
 have hb := below_alloc w
 have c1 := fun W (hW : Below w.heap.size w W) => named_ct W c v (h.below hW) hl
 have f14 : ∀ h : 14 < (cfC c v).size, (cfC c v)[14] = .slice v.k.a v.k.n v.k.c := fun _ => rfl
 have hs18 : (cfC c v).size = 18 := rfl
 generalize cfC c v = C at *
 replace f14 := f14 (by omega)
 go_enter Tryz.func78, Tryz.ntmps78
 go_wp2_with (first | (go_at_call 129; refine (c1 _ (hb _)).mono ?_; rintro e w2 ⟨s2, rfl, hR, hb2⟩))
 go_ret
 exact ⟨s2, rfl, hR, (hb _).trans (hb2.mono (hb _).size)⟩
theorem named_is (w : World) (c : Cf) (v : Vs) (h : CfAt w c v) (hl : c.isrs.length ≤ 8796093022208) :
  Calls Tryz.prog 140 #[.slice v.i.a v.i.n v.i.c, .func (.func 141) #[] #[]] w fun e w' => NamesPost w (c.isrs.map fun x => x.name) e w' := by
 obtain ⟨i0, hi0, hz0, hz1, hz2⟩ := info_parts Tryz.infoStr
 have HN : Hid (v.i.n = c.isrs.length) := h.i.n
 have hn40 : v.i.n ≤ 8796093022208 := by have := h.i.n; omega
 have eg : ∀ args w, (callFunc 141 args).run Tryz.prog w = .ok (.enter 141 args) w := enters_of Tryz.func141 (by kernel_rfl) rfl
 go_enter Tryz.func140, Tryz.ntmps140
 go_wp2_with (refine wpList_make_own _ rfl _ _ 24 rfl w.heap.size 9 i0 (.string ⟨#[]⟩) 1 Tryz.underlying24 hi0 hz0 hz1 .i64 .i64 _ v.i.n rfl rfl rfl (by rw [hz2]; omega) (by unfold maxLen; omega) (Nat.le_refl _) ?_; intro w1 ho1 hg1)
 have hb1 := below_none hg1
 have hb1s := hb1.size
 clear hg1
 generalize hbk : w.heap.size = b at ho1 ⊢
 go_loopw [5, 7, 13] (fun o5 _ iv wr => ∃ j : Nat, j ≤ v.i.n ∧ iv = .int .i64 j ∧ o5 = .slice (some ⟨b, 0, none⟩) j v.i.n ∧ Hid (wr.ownsRow b 9 1 (.slice (some ⟨b, 0, none⟩) j v.i.n) j ((c.isrs.take j).map fun x => S x.name) ∧ Below b w wr)) (fun _ _ iv _ => v.i.n - (intOf iv).toNat)
 case atStart => exact ⟨0, by omega, rfl, rfl, ho1, by rw [← hbk]; exact hb1⟩
 case round =>
  obtain ⟨j, hj, rfl, rfl, HJ⟩ := hrel
  obtain ⟨hO, hB⟩ := HJ.out
  clear HJ ho1 hb1
  by_cases hlt : j < v.i.n
  ·have hlt' : (j : Int) < v.i.n := by omega
   have hjl : j < c.isrs.length := by rw [← HN.out]; exact hlt
   obtain ⟨x, hx⟩ : ∃ x, c.isrs[j]? = some x := ⟨_, List.getElem?_eq_getElem hjl⟩
   obtain ⟨g, off, s3, s4, e, hg, a0, a1, a2, a3, a4, r3, r4⟩ := is_at (h.below (by rw [hbk]; exact hB)) hx
   rw [e] at *
   have hng : g ≠ wr.heap.size := by omega
   have HT : Hid ((c.isrs.take (j + 1)).map (fun x => S x.name) = (c.isrs.take j).map (fun x => S x.name) ++ [S x.name]) := by
    show _ = _
    rw [List.take_add_one, hx, Option.toList_some, List.map_append]
    rfl
   have hst : (storeCells ⟨wr.heap.size, 0, none⟩ [S x.name, I x.cat, I x.prio, .slice s3.a s3.n s3.c, .slice s4.a s4.n s4.c] 0).run Tryz.prog (wr.alloc (.cells #[.string ⟨#[]⟩, .int .i64 0, .int .i64 0, .slice none 0 0, .slice none 0 0] 103)) = .ok () (wr.alloc (.cells #[S x.name, I x.cat, I x.prio, .slice s3.a s3.n s3.c, .slice s4.a s4.n s4.c] 103)) :=
    run_storeCells_new (P := Tryz.prog) wr 103 #[.string ⟨#[]⟩, .int .i64 0, .int .i64 0, .slice none 0 0, .slice none 0 0] #[S x.name, I x.cat, I x.prio, .slice s3.a s3.n s3.c, .slice s4.a s4.n s4.c] (by kernel_rfl) rfl (by simp [Value.oneCell'])
   have cn : ∀ W, Calls Tryz.prog 141 #[.agg #[S x.name, I x.cat, I x.prio, .slice s3.a s3.n s3.c, .slice s4.a s4.n s4.c]] W fun e w' => e = .returned (S x.name) ∧ Below W.heap.size W w' := fun W => by
    have hbW := below_alloc W
    go_enter Tryz.func141, Tryz.ntmps141
    go_wp2
    go_ret
    exact ⟨rfl, hbW _⟩
   have hbs := hB.size
   have hal := below_alloc wr (.cells #[S x.name, I x.cat, I x.prio, .slice s3.a s3.n s3.c, .slice s4.a s4.n s4.c] 103)
   clear hx hjl
   go_wp2_with (first | (go_at_call 141; refine (cn _).mono ?_; rintro e w2 ⟨rfl, hb2⟩; have hO2 := own_below (own_below hO hal) hb2; have hO3 := own_below hO2 (below_alloc w2 (.cells #[S x.name] 9))) | (at_builtin; refine wpList_append_fits _ rfl _ _ 24 rfl b 9 i0 1 Tryz.underlying24 hi0 hz1 b j v.i.n _ rfl hO3 ⟨w2.heap.size, 0, none⟩ 1 1 [S x.name] rfl rfl (cell_one_new _ _ _) (by simp [Value.oneCell']) hlt ?_; intro w3 hO4 hg4))
   go_roundw
   case rel =>
    refine ⟨j + 1, by omega, by go_num, rfl, by rw [HT.out]; exact hO4, ?_⟩
    have e1 := (hB.trans (hal.mono (by omega))).trans (hb2.mono (Nat.le_trans (by omega) hal.size))
    have e2 := e1.trans ((below_alloc w2 (.cells #[S x.name] 9)).mono (Nat.le_trans (Nat.le_trans (by omega) hal.size) hb2.size))
    exact e2.trans (below_of_grown hg4 (Nat.le_refl _) (by have := e2.size; omega))
   case measure => simp [intOf]; omega
  ·obtain rfl : j = v.i.n := by omega
   have hlt' : ¬ ((v.i.n : Nat) : Int) < (v.i.n : Nat) := by omega
   have hR := rows_own hO (l := c.isrs.map fun x => x.name) (by rw [List.take_of_length_le (by rw [HN.out]; exact Nat.le_refl _), List.map_map]; rfl) (by rw [List.length_map]; exact HN.out) (by unfold maxLen; omega)
   clear hO
   go_wp2
   go_ret
   exact ⟨⟨_, _, _⟩, rfl, hR, by rw [hbk]; exact hB⟩
theorem isrNames_any (w : World) (c : Cf) (v : Vs) (h : CfAt w c v) (hl : c.isrs.length ≤ 8796093022208) : Calls Tryz.prog 82 #[.agg (cfC c v)] w fun e w' => NamesPost w (c.isrs.map fun x => x.name) e w' := by
 have hb := below_alloc w
 have c1 := fun W (hW : Below w.heap.size w W) => named_is W c v (h.below hW) hl
 have f16 : ∀ h : 16 < (cfC c v).size, (cfC c v)[16] = .slice v.i.a v.i.n v.i.c := fun _ => rfl
 have hs18 : (cfC c v).size = 18 := rfl
 generalize cfC c v = C at *
 replace f16 := f16 (by omega)
 go_enter Tryz.func82, Tryz.ntmps82
 go_wp2_with (first | (go_at_call 140; refine (c1 _ (hb _)).mono ?_; rintro e w2 ⟨s2, rfl, hR, hb2⟩))
 go_ret
 exact ⟨s2, rfl, hR, (hb _).trans (hb2.mono (hb _).size)⟩
end Go.Proofs.YtpbnpmeigdjfdaaGreatDoor
