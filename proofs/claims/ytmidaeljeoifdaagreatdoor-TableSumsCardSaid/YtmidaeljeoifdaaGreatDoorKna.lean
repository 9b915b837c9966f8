import Derived.Test.YtmidaeljeoifdaaGreatDoorKrt2
import Derived.Test.YtmidaeljeoifdaaGreatDoorKve
namespace Go.Proofs.YtmidaeljeoifdaaGreatDoor
set_option maxRecDepth 100000
set_option maxHeartbeats 16000000
open Go.RowKit
set_option linter.unusedVariables false
theorem rows_own2 {w : World} {b n : Nat} {u : Value} {xs : List Value} {l : List (List UInt8)} (h : w.ownsRow b 9 1 u n xs) (hx : xs = l.map fun x => S x) (hn : n = l.length) : ∃ s : Sl, u = .slice s.a s.n s.c ∧ RowsAt w 1 strP s l := by
 have h2 := h
 rcases h.2 with ⟨rfl, rfl⟩ | ⟨g, cap, cur, rfl, hb, hg, hc, hm, hs, ht⟩
 ·refine ⟨⟨none, 0, 0⟩, rfl, hn, Nat.le_refl _, Nat.zero_le _, fun j x hj => ?_⟩
  have := (List.getElem?_eq_some_iff.1 hj).1
  omega
 ·refine ⟨⟨some ⟨g, 0, none⟩, n, cap⟩, rfl, hn, hc, hm, fun j x hj => ⟨g, 0, rfl, (h.lt g rfl).2, fun i hi => ?_⟩⟩
  obtain rfl : i = 0 := by omega
  refine ⟨S x, ?_, rfl⟩
  have hc2 := h.cells (g := g) rfl j (S x) (by rw [hx, List.getElem?_map, hj]; rfl)
  have hadd : (⟨g, 0, none⟩ : Addr).add j = ⟨g, j, none⟩ := by unfold Addr.add; split <;> simp_all
  rw [hadd] at hc2
  rw [show 0 + j * 1 + 0 = j by omega]
  exact hc2
theorem rNames_cpu (w : World) (c : Cf) (v : Vs) : Calls Tryz.prog 95 #[.agg (cfC c v), .string ⟨#[67, 80, 85]⟩] w fun e w' => NamesPost w [c.cpu] e w' := by
 have hb := below_alloc w
 have hb2 := fun o o' => (hb o).trans ((below_alloc (w.alloc o) o').mono (hb o).size)
 have hh := heap_two w
 have f0 : ∀ h : 0 < (cfC c v).size, (cfC c v)[0] = S c.cpu := fun _ => rfl
 have hs18 : (cfC c v).size = 18 := rfl
 generalize cfC c v = C at *
 replace f0 := f0 (by omega)
 go_enter Tryz.func95, Tryz.ntmps95
 go_wp2
 go_ret
 exact ⟨⟨some ⟨w.heap.size + 1, 0, none⟩, 1, 1⟩, rfl, rows_str (hh _ _), hb2 _ _⟩
theorem rNames_os (w : World) (c : Cf) (v : Vs) : Calls Tryz.prog 95 #[.agg (cfC c v), .string ⟨#[79, 83]⟩] w fun e w' => NamesPost w [c.osn] e w' := by
 have hb := below_alloc w
 have hb2 := fun o o' => (hb o).trans ((below_alloc (w.alloc o) o').mono (hb o).size)
 have hh := heap_two w
 have f0 : ∀ h : 1 < (cfC c v).size, (cfC c v)[1] = S c.osn := fun _ => rfl
 have hs18 : (cfC c v).size = 18 := rfl
 generalize cfC c v = C at *
 replace f0 := f0 (by omega)
 go_enter Tryz.func95, Tryz.ntmps95
 go_wp2
 go_ret
 exact ⟨⟨some ⟨w.heap.size + 1, 0, none⟩, 1, 1⟩, rfl, rows_str (hh _ _), hb2 _ _⟩
theorem rNames_modes (w : World) (c : Cf) (v : Vs) (h : CfAt w c v) : Calls Tryz.prog 95 #[.agg (cfC c v), .string ⟨#[65, 80, 80, 77, 79, 68, 69]⟩] w fun e w' => NamesPost w c.modes e w' := by
 have hb := below_alloc w
 have hR := fun o => h.m.below (hb o) (fun _ _ _ _ h => h)
 have f10 : ∀ h : 10 < (cfC c v).size, (cfC c v)[10] = .slice v.m.a v.m.n v.m.c := fun _ => rfl
 have hs18 : (cfC c v).size = 18 := rfl
 generalize cfC c v = C at *
 replace f10 := f10 (by omega)
 go_enter Tryz.func95, Tryz.ntmps95
 go_wp2
 go_ret
 exact ⟨v.m, rfl, hR _, hb _⟩
theorem rNames_ress (w : World) (c : Cf) (v : Vs) (h : CfAt w c v) (hl : c.ress.length ≤ 8796093022208) : Calls Tryz.prog 95 #[.agg (cfC c v), .string ⟨#[82, 69, 83, 79, 85, 82, 67, 69]⟩] w fun e w' => NamesPost w (c.ress.map fun x => x.name) e w' := by
 obtain ⟨i0, hi0, hz0, hz1, hz2⟩ := info_parts Tryz.infoStr
 have HN : Hid (v.r.n = c.ress.length) := h.r.n
 have hn40 : v.r.n ≤ 8796093022208 := by have := h.r.n; omega
 have hb := below_alloc w
 have fC : ∀ h : 12 < (cfC c v).size, (cfC c v)[12] = .slice v.r.a v.r.n v.r.c := fun _ => rfl
 have hs18 : (cfC c v).size = 18 := rfl
 have hV0 := heap_alloc_new w (.cells (cfC c v) 47)
 have hcv : ∀ W : World, W.heap[w.heap.size]? = some (.cells (cfC c v) 47 (0, 0)) → W.cell? ⟨w.heap.size, 12, none⟩ = some (.slice v.r.a v.r.n v.r.c) := fun W hW => by
  obtain ⟨_, h10, h11, h12, h13, h14, h15, h16, h17⟩ := var18_all hW
  exact h12
 generalize cfC c v = C at *
 replace fC := fC (by omega)
 have hs1 : (w.alloc (.cells C 47)).heap.size = w.heap.size + 1 := by simp
 have hbw := hb (.cells C 47)
 have HF : Hid (∀ W, Below (w.heap.size + 1) (w.alloc (.cells C 47)) W → W.cell? ⟨w.heap.size, 12, none⟩ = some (.slice v.r.a v.r.n v.r.c) ∧ CfAt W c v ∧ Below w.heap.size w W ∧ w.heap.size + 1 ≤ W.heap.size) := fun W hW => by
  have hs := hW.size
  refine ⟨hcv W ((hW.block _ (by omega)).trans hV0), ?_, ?_, by omega⟩
  ·exact h.below (hbw.trans (hW.mono (by omega)))
  ·exact hbw.trans (hW.mono (by omega))
 clear hb hV0 hcv h hbw
 go_enter Tryz.func95, Tryz.ntmps95
 go_wp2
 clear fC
 go_loopw [5, 6] (fun lv kv wr => ∃ k : Nat, k ≤ v.r.n ∧ kv = .int .i64 k ∧ Hid (wr.ownsRow (w.heap.size + 1) 9 1 lv k ((c.ress.take k).map fun x => S x.name) ∧ Below (w.heap.size + 1) (w.alloc (.cells C 47)) wr)) (fun _ kv _ => v.r.n - (intOf kv).toNat)
 case atStart => exact ⟨0, by omega, rfl, World.ownsRow_nil _ _ _ _, Below.refl _ _⟩
 case round =>
  obtain ⟨k, hk, rfl, HK⟩ := hrel
  obtain ⟨hO, hB⟩ := HK.out
  obtain ⟨cc, hCf, hbw, hsw⟩ := HF.out _ hB
  by_cases hlt : k < v.r.n
  ·have hlt' : (k : Int) < v.r.n := by omega
   have hkl : k < c.ress.length := by rw [← HN.out]; exact hlt
   obtain ⟨x, hx⟩ : ∃ x, c.ress[k]? = some x := ⟨_, List.getElem?_eq_getElem hkl⟩
   obtain ⟨g, off, e, hg, a0, a1, a2⟩ := rs_at hCf hx
   have HT : Hid ((c.ress.take (k + 1)).map (fun x => S x.name) = (c.ress.take k).map (fun x => S x.name) ++ [S x.name]) := by
    show _ = _
    rw [List.take_add_one, hx, Option.toList_some, List.map_append]
    rfl
   have HB : Hid (Below (w.heap.size + 1) (w.alloc (.cells C 47)) wr) := hB
   have hO2 := hO.alloc (.cells #[S x.name] 9)
   rw [e] at cc
   clear hx hkl hCf hbw HK hB e HF
   go_wp2_with (at_builtin; refine wpList_append_own _ rfl (.tmp 38) (.tmp 45) 38 rfl (w.heap.size + 1) 9 i0 (.string ⟨#[]⟩) 1 16 Tryz.underlying38 hi0 hz0 hz1 hz2 rfl (by decide) _ _ _ rfl hO2 ⟨wr.heap.size, 0, none⟩ 1 1 [S x.name] rfl rfl (cell_one_new _ _ _) (by intro u hu; simp at hu; subst hu; rfl) (by unfold maxLen; omega) (by omega) (by simp; omega) ?_)
   intro v6 w6 ho6 hg6 _
   have HB6 : Hid (Below (w.heap.size + 1) (w.alloc (.cells C 47)) w6) := by
    have b1 := HB.out.trans ((below_alloc wr (.cells #[S x.name] 9)).mono hsw)
    exact b1.grown hg6 (by simp; omega) (fun k e => (hO.lt k e).1)
   have HO6 : Hid (w6.ownsRow (w.heap.size + 1) 9 1 v6 (k + 1) ((c.ress.take (k + 1)).map fun x => S x.name)) := by
    have h7 := ho6
    rw [← List.map_take, ← HT.out] at h7
    exact h7
   clear ho6 hg6 hO hO2 HB
   go_wp2
   go_roundw
   case rel => exact ⟨k + 1, by omega, by go_num, HO6.out, HB6.out⟩
   case measure => simp [intOf]; omega
  ·obtain rfl : k = v.r.n := by omega
   have hlt' : ¬ ((v.r.n : Nat) : Int) < (v.r.n : Nat) := by omega
   obtain ⟨s, rfl, hR⟩ := rows_own2 hO (l := c.ress.map fun x => x.name) (by rw [List.take_of_length_le (by rw [HN.out]; exact Nat.le_refl _), List.map_map]; rfl) (by rw [List.length_map]; exact HN.out)
   clear hO HK hB hCf HF
   go_wp2
   go_ret
   exact ⟨s, rfl, hR, hbw⟩
theorem rNames_evs (w : World) (c : Cf) (v : Vs) (h : CfAt w c v) (hl : c.evs.length ≤ 8796093022208) : Calls Tryz.prog 95 #[.agg (cfC c v), .string ⟨#[69, 86, 69, 78, 84]⟩] w fun e w' => NamesPost w (c.evs.map fun x => x.name) e w' := by
 obtain ⟨i0, hi0, hz0, hz1, hz2⟩ := info_parts Tryz.infoStr
 have HN : Hid (v.e.n = c.evs.length) := h.e.n
 have hn40 : v.e.n ≤ 8796093022208 := by have := h.e.n; omega
 have hb := below_alloc w
 have fC : ∀ h : 13 < (cfC c v).size, (cfC c v)[13] = .slice v.e.a v.e.n v.e.c := fun _ => rfl
 have hs18 : (cfC c v).size = 18 := rfl
 have hV0 := heap_alloc_new w (.cells (cfC c v) 47)
 have hcv : ∀ W : World, W.heap[w.heap.size]? = some (.cells (cfC c v) 47 (0, 0)) → W.cell? ⟨w.heap.size, 13, none⟩ = some (.slice v.e.a v.e.n v.e.c) := fun W hW => by
  obtain ⟨_, h10, h11, h12, h13, h14, h15, h16, h17⟩ := var18_all hW
  exact h13
 generalize cfC c v = C at *
 replace fC := fC (by omega)
 have hs1 : (w.alloc (.cells C 47)).heap.size = w.heap.size + 1 := by simp
 have hbw := hb (.cells C 47)
 have HF : Hid (∀ W, Below (w.heap.size + 1) (w.alloc (.cells C 47)) W → W.cell? ⟨w.heap.size, 13, none⟩ = some (.slice v.e.a v.e.n v.e.c) ∧ CfAt W c v ∧ Below w.heap.size w W ∧ w.heap.size + 1 ≤ W.heap.size) := fun W hW => by
  have hs := hW.size
  refine ⟨hcv W ((hW.block _ (by omega)).trans hV0), ?_, ?_, by omega⟩
  ·exact h.below (hbw.trans (hW.mono (by omega)))
  ·exact hbw.trans (hW.mono (by omega))
 clear hb hV0 hcv h hbw
 go_enter Tryz.func95, Tryz.ntmps95
 go_wp2
 clear fC
 go_loopw [5, 7] (fun lv kv wr => ∃ k : Nat, k ≤ v.e.n ∧ kv = .int .i64 k ∧ Hid (wr.ownsRow (w.heap.size + 1) 9 1 lv k ((c.evs.take k).map fun x => S x.name) ∧ Below (w.heap.size + 1) (w.alloc (.cells C 47)) wr)) (fun _ kv _ => v.e.n - (intOf kv).toNat)
 case atStart => exact ⟨0, by omega, rfl, World.ownsRow_nil _ _ _ _, Below.refl _ _⟩
 case round =>
  obtain ⟨k, hk, rfl, HK⟩ := hrel
  obtain ⟨hO, hB⟩ := HK.out
  obtain ⟨cc, hCf, hbw, hsw⟩ := HF.out _ hB
  by_cases hlt : k < v.e.n
  ·have hlt' : (k : Int) < v.e.n := by omega
   have hkl : k < c.evs.length := by rw [← HN.out]; exact hlt
   obtain ⟨x, hx⟩ : ∃ x, c.evs[k]? = some x := ⟨_, List.getElem?_eq_getElem hkl⟩
   obtain ⟨g, off, e, hg, a0, a1, a2⟩ := ev_at hCf hx
   have HT : Hid ((c.evs.take (k + 1)).map (fun x => S x.name) = (c.evs.take k).map (fun x => S x.name) ++ [S x.name]) := by
    show _ = _
    rw [List.take_add_one, hx, Option.toList_some, List.map_append]
    rfl
   have HB : Hid (Below (w.heap.size + 1) (w.alloc (.cells C 47)) wr) := hB
   have hO2 := hO.alloc (.cells #[S x.name] 9)
   rw [e] at cc
   clear hx hkl hCf hbw HK hB e HF
   go_wp2_with (at_builtin; refine wpList_append_own _ rfl (.tmp 56) (.tmp 63) 38 rfl (w.heap.size + 1) 9 i0 (.string ⟨#[]⟩) 1 16 Tryz.underlying38 hi0 hz0 hz1 hz2 rfl (by decide) _ _ _ rfl hO2 ⟨wr.heap.size, 0, none⟩ 1 1 [S x.name] rfl rfl (cell_one_new _ _ _) (by intro u hu; simp at hu; subst hu; rfl) (by unfold maxLen; omega) (by omega) (by simp; omega) ?_)
   intro v6 w6 ho6 hg6 _
   have HB6 : Hid (Below (w.heap.size + 1) (w.alloc (.cells C 47)) w6) := by
    have b1 := HB.out.trans ((below_alloc wr (.cells #[S x.name] 9)).mono hsw)
    exact b1.grown hg6 (by simp; omega) (fun k e => (hO.lt k e).1)
   have HO6 : Hid (w6.ownsRow (w.heap.size + 1) 9 1 v6 (k + 1) ((c.evs.take (k + 1)).map fun x => S x.name)) := by
    have h7 := ho6
    rw [← List.map_take, ← HT.out] at h7
    exact h7
   clear ho6 hg6 hO hO2 HB
   go_wp2
   go_roundw
   case rel => exact ⟨k + 1, by omega, by go_num, HO6.out, HB6.out⟩
   case measure => simp [intOf]; omega
  ·obtain rfl : k = v.e.n := by omega
   have hlt' : ¬ ((v.e.n : Nat) : Int) < (v.e.n : Nat) := by omega
   obtain ⟨s, rfl, hR⟩ := rows_own2 hO (l := c.evs.map fun x => x.name) (by rw [List.take_of_length_le (by rw [HN.out]; exact Nat.le_refl _), List.map_map]; rfl) (by rw [List.length_map]; exact HN.out)
   clear hO HK hB hCf HF
   go_wp2
   go_ret
   exact ⟨s, rfl, hR, hbw⟩
theorem rNames_tasks (w : World) (c : Cf) (v : Vs) (h : CfAt w c v) (hl : c.tasks.length ≤ 8796093022208) : Calls Tryz.prog 95 #[.agg (cfC c v), .string ⟨#[84, 65, 83, 75]⟩] w fun e w' => NamesPost w (c.tasks.map fun x => x.name) e w' := by
 obtain ⟨i0, hi0, hz0, hz1, hz2⟩ := info_parts Tryz.infoStr
 have HN : Hid (v.t.n = c.tasks.length) := h.t.n
 have hn40 : v.t.n ≤ 8796093022208 := by have := h.t.n; omega
 have hb := below_alloc w
 have fC : ∀ h : 11 < (cfC c v).size, (cfC c v)[11] = .slice v.t.a v.t.n v.t.c := fun _ => rfl
 have hs18 : (cfC c v).size = 18 := rfl
 have hV0 := heap_alloc_new w (.cells (cfC c v) 47)
 have hcv : ∀ W : World, W.heap[w.heap.size]? = some (.cells (cfC c v) 47 (0, 0)) → W.cell? ⟨w.heap.size, 11, none⟩ = some (.slice v.t.a v.t.n v.t.c) := fun W hW => by
  obtain ⟨_, h10, h11, h12, h13, h14, h15, h16, h17⟩ := var18_all hW
  exact h11
 generalize cfC c v = C at *
 replace fC := fC (by omega)
 have hs1 : (w.alloc (.cells C 47)).heap.size = w.heap.size + 1 := by simp
 have hbw := hb (.cells C 47)
 have HF : Hid (∀ W, Below (w.heap.size + 1) (w.alloc (.cells C 47)) W → W.cell? ⟨w.heap.size, 11, none⟩ = some (.slice v.t.a v.t.n v.t.c) ∧ CfAt W c v ∧ Below w.heap.size w W ∧ w.heap.size + 1 ≤ W.heap.size) := fun W hW => by
  have hs := hW.size
  refine ⟨hcv W ((hW.block _ (by omega)).trans hV0), ?_, ?_, by omega⟩
  ·exact h.below (hbw.trans (hW.mono (by omega)))
  ·exact hbw.trans (hW.mono (by omega))
 clear hb hV0 hcv h hbw
 go_enter Tryz.func95, Tryz.ntmps95
 go_wp2
 clear fC
 go_loopw [5, 8] (fun lv kv wr => ∃ k : Nat, k ≤ v.t.n ∧ kv = .int .i64 k ∧ Hid (wr.ownsRow (w.heap.size + 1) 9 1 lv k ((c.tasks.take k).map fun x => S x.name) ∧ Below (w.heap.size + 1) (w.alloc (.cells C 47)) wr)) (fun _ kv _ => v.t.n - (intOf kv).toNat)
 case atStart => exact ⟨0, by omega, rfl, World.ownsRow_nil _ _ _ _, Below.refl _ _⟩
 case round =>
  obtain ⟨k, hk, rfl, HK⟩ := hrel
  obtain ⟨hO, hB⟩ := HK.out
  obtain ⟨cc, hCf, hbw, hsw⟩ := HF.out _ hB
  by_cases hlt : k < v.t.n
  ·have hlt' : (k : Int) < v.t.n := by omega
   have hkl : k < c.tasks.length := by rw [← HN.out]; exact hlt
   obtain ⟨x, hx⟩ : ∃ x, c.tasks[k]? = some x := ⟨_, List.getElem?_eq_getElem hkl⟩
   obtain ⟨g, off, s4, s5, s6, s7, e, hg, a0, a1, a2, a3, a4, a5, a6, a7, r4, r5, r6, r7⟩ := tk_at hCf hx
   have HT : Hid ((c.tasks.take (k + 1)).map (fun x => S x.name) = (c.tasks.take k).map (fun x => S x.name) ++ [S x.name]) := by
    show _ = _
    rw [List.take_add_one, hx, Option.toList_some, List.map_append]
    rfl
   have HB : Hid (Below (w.heap.size + 1) (w.alloc (.cells C 47)) wr) := hB
   have hO2 := hO.alloc (.cells #[S x.name] 9)
   rw [e] at cc
   clear hx hkl hCf hbw HK hB e HF
   go_wp2_with (at_builtin; refine wpList_append_own _ rfl (.tmp 74) (.tmp 81) 38 rfl (w.heap.size + 1) 9 i0 (.string ⟨#[]⟩) 1 16 Tryz.underlying38 hi0 hz0 hz1 hz2 rfl (by decide) _ _ _ rfl hO2 ⟨wr.heap.size, 0, none⟩ 1 1 [S x.name] rfl rfl (cell_one_new _ _ _) (by intro u hu; simp at hu; subst hu; rfl) (by unfold maxLen; omega) (by omega) (by simp; omega) ?_)
   intro v6 w6 ho6 hg6 _
   have HB6 : Hid (Below (w.heap.size + 1) (w.alloc (.cells C 47)) w6) := by
    have b1 := HB.out.trans ((below_alloc wr (.cells #[S x.name] 9)).mono hsw)
    exact b1.grown hg6 (by simp; omega) (fun k e => (hO.lt k e).1)
   have HO6 : Hid (w6.ownsRow (w.heap.size + 1) 9 1 v6 (k + 1) ((c.tasks.take (k + 1)).map fun x => S x.name)) := by
    have h7 := ho6
    rw [← List.map_take, ← HT.out] at h7
    exact h7
   clear ho6 hg6 hO hO2 HB
   go_wp2
   go_roundw
   case rel => exact ⟨k + 1, by omega, by go_num, HO6.out, HB6.out⟩
   case measure => simp [intOf]; omega
  ·obtain rfl : k = v.t.n := by omega
   have hlt' : ¬ ((v.t.n : Nat) : Int) < (v.t.n : Nat) := by omega
   obtain ⟨s, rfl, hR⟩ := rows_own2 hO (l := c.tasks.map fun x => x.name) (by rw [List.take_of_length_le (by rw [HN.out]; exact Nat.le_refl _), List.map_map]; rfl) (by rw [List.length_map]; exact HN.out)
   clear hO HK hB hCf HF
   go_wp2
   go_ret
   exact ⟨s, rfl, hR, hbw⟩
theorem rNames_ctrs (w : World) (c : Cf) (v : Vs) (h : CfAt w c v) (hl : c.ctrs.length ≤ 8796093022208) : Calls Tryz.prog 95 #[.agg (cfC c v), .string ⟨#[67, 79, 85, 78, 84, 69, 82]⟩] w fun e w' => NamesPost w (c.ctrs.map fun x => x.name) e w' := by
 obtain ⟨i0, hi0, hz0, hz1, hz2⟩ := info_parts Tryz.infoStr
 have HN : Hid (v.k.n = c.ctrs.length) := h.k.n
 have hn40 : v.k.n ≤ 8796093022208 := by have := h.k.n; omega
 have hb := below_alloc w
 have fC : ∀ h : 14 < (cfC c v).size, (cfC c v)[14] = .slice v.k.a v.k.n v.k.c := fun _ => rfl
 have hs18 : (cfC c v).size = 18 := rfl
 have hV0 := heap_alloc_new w (.cells (cfC c v) 47)
 have hcv : ∀ W : World, W.heap[w.heap.size]? = some (.cells (cfC c v) 47 (0, 0)) → W.cell? ⟨w.heap.size, 14, none⟩ = some (.slice v.k.a v.k.n v.k.c) := fun W hW => by
  obtain ⟨_, h10, h11, h12, h13, h14, h15, h16, h17⟩ := var18_all hW
  exact h14
 generalize cfC c v = C at *
 replace fC := fC (by omega)
 have hs1 : (w.alloc (.cells C 47)).heap.size = w.heap.size + 1 := by simp
 have hbw := hb (.cells C 47)
 have HF : Hid (∀ W, Below (w.heap.size + 1) (w.alloc (.cells C 47)) W → W.cell? ⟨w.heap.size, 14, none⟩ = some (.slice v.k.a v.k.n v.k.c) ∧ CfAt W c v ∧ Below w.heap.size w W ∧ w.heap.size + 1 ≤ W.heap.size) := fun W hW => by
  have hs := hW.size
  refine ⟨hcv W ((hW.block _ (by omega)).trans hV0), ?_, ?_, by omega⟩
  ·exact h.below (hbw.trans (hW.mono (by omega)))
  ·exact hbw.trans (hW.mono (by omega))
 clear hb hV0 hcv h hbw
 go_enter Tryz.func95, Tryz.ntmps95
 go_wp2
 clear fC
 go_loopw [5, 9] (fun lv kv wr => ∃ k : Nat, k ≤ v.k.n ∧ kv = .int .i64 k ∧ Hid (wr.ownsRow (w.heap.size + 1) 9 1 lv k ((c.ctrs.take k).map fun x => S x.name) ∧ Below (w.heap.size + 1) (w.alloc (.cells C 47)) wr)) (fun _ kv _ => v.k.n - (intOf kv).toNat)
 case atStart => exact ⟨0, by omega, rfl, World.ownsRow_nil _ _ _ _, Below.refl _ _⟩
 case round =>
  obtain ⟨k, hk, rfl, HK⟩ := hrel
  obtain ⟨hO, hB⟩ := HK.out
  obtain ⟨cc, hCf, hbw, hsw⟩ := HF.out _ hB
  by_cases hlt : k < v.k.n
  ·have hlt' : (k : Int) < v.k.n := by omega
   have hkl : k < c.ctrs.length := by rw [← HN.out]; exact hlt
   obtain ⟨x, hx⟩ : ∃ x, c.ctrs[k]? = some x := ⟨_, List.getElem?_eq_getElem hkl⟩
   obtain ⟨g, off, e, hg, a0, a1, a2, a3⟩ := ct_at hCf hx
   have HT : Hid ((c.ctrs.take (k + 1)).map (fun x => S x.name) = (c.ctrs.take k).map (fun x => S x.name) ++ [S x.name]) := by
    show _ = _
    rw [List.take_add_one, hx, Option.toList_some, List.map_append]
    rfl
   have HB : Hid (Below (w.heap.size + 1) (w.alloc (.cells C 47)) wr) := hB
   have hO2 := hO.alloc (.cells #[S x.name] 9)
   rw [e] at cc
   clear hx hkl hCf hbw HK hB e HF
   go_wp2_with (at_builtin; refine wpList_append_own _ rfl (.tmp 92) (.tmp 99) 38 rfl (w.heap.size + 1) 9 i0 (.string ⟨#[]⟩) 1 16 Tryz.underlying38 hi0 hz0 hz1 hz2 rfl (by decide) _ _ _ rfl hO2 ⟨wr.heap.size, 0, none⟩ 1 1 [S x.name] rfl rfl (cell_one_new _ _ _) (by intro u hu; simp at hu; subst hu; rfl) (by unfold maxLen; omega) (by omega) (by simp; omega) ?_)
   intro v6 w6 ho6 hg6 _
   have HB6 : Hid (Below (w.heap.size + 1) (w.alloc (.cells C 47)) w6) := by
    have b1 := HB.out.trans ((below_alloc wr (.cells #[S x.name] 9)).mono hsw)
    exact b1.grown hg6 (by simp; omega) (fun k e => (hO.lt k e).1)
   have HO6 : Hid (w6.ownsRow (w.heap.size + 1) 9 1 v6 (k + 1) ((c.ctrs.take (k + 1)).map fun x => S x.name)) := by
    have h7 := ho6
    rw [← List.map_take, ← HT.out] at h7
    exact h7
   clear ho6 hg6 hO hO2 HB
   go_wp2
   go_roundw
   case rel => exact ⟨k + 1, by omega, by go_num, HO6.out, HB6.out⟩
   case measure => simp [intOf]; omega
  ·obtain rfl : k = v.k.n := by omega
   have hlt' : ¬ ((v.k.n : Nat) : Int) < (v.k.n : Nat) := by omega
   obtain ⟨s, rfl, hR⟩ := rows_own2 hO (l := c.ctrs.map fun x => x.name) (by rw [List.take_of_length_le (by rw [HN.out]; exact Nat.le_refl _), List.map_map]; rfl) (by rw [List.length_map]; exact HN.out)
   clear hO HK hB hCf HF
   go_wp2
   go_ret
   exact ⟨s, rfl, hR, hbw⟩
theorem rNames_als (w : World) (c : Cf) (v : Vs) (h : CfAt w c v) (hl : c.als.length ≤ 8796093022208) : Calls Tryz.prog 95 #[.agg (cfC c v), .string ⟨#[65, 76, 65, 82, 77]⟩] w fun e w' => NamesPost w (c.als.map fun x => x.name) e w' := by
 obtain ⟨i0, hi0, hz0, hz1, hz2⟩ := info_parts Tryz.infoStr
 have HN : Hid (v.a.n = c.als.length) := h.a.n
 have hn40 : v.a.n ≤ 8796093022208 := by have := h.a.n; omega
 have hb := below_alloc w
 have fC : ∀ h : 15 < (cfC c v).size, (cfC c v)[15] = .slice v.a.a v.a.n v.a.c := fun _ => rfl
 have hs18 : (cfC c v).size = 18 := rfl
 have hV0 := heap_alloc_new w (.cells (cfC c v) 47)
 have hcv : ∀ W : World, W.heap[w.heap.size]? = some (.cells (cfC c v) 47 (0, 0)) → W.cell? ⟨w.heap.size, 15, none⟩ = some (.slice v.a.a v.a.n v.a.c) := fun W hW => by
  obtain ⟨_, h10, h11, h12, h13, h14, h15, h16, h17⟩ := var18_all hW
  exact h15
 generalize cfC c v = C at *
 replace fC := fC (by omega)
 have hs1 : (w.alloc (.cells C 47)).heap.size = w.heap.size + 1 := by simp
 have hbw := hb (.cells C 47)
 have HF : Hid (∀ W, Below (w.heap.size + 1) (w.alloc (.cells C 47)) W → W.cell? ⟨w.heap.size, 15, none⟩ = some (.slice v.a.a v.a.n v.a.c) ∧ CfAt W c v ∧ Below w.heap.size w W ∧ w.heap.size + 1 ≤ W.heap.size) := fun W hW => by
  have hs := hW.size
  refine ⟨hcv W ((hW.block _ (by omega)).trans hV0), ?_, ?_, by omega⟩
  ·exact h.below (hbw.trans (hW.mono (by omega)))
  ·exact hbw.trans (hW.mono (by omega))
 clear hb hV0 hcv h hbw
 go_enter Tryz.func95, Tryz.ntmps95
 go_wp2
 clear fC
 go_loopw [5, 10] (fun lv kv wr => ∃ k : Nat, k ≤ v.a.n ∧ kv = .int .i64 k ∧ Hid (wr.ownsRow (w.heap.size + 1) 9 1 lv k ((c.als.take k).map fun x => S x.name) ∧ Below (w.heap.size + 1) (w.alloc (.cells C 47)) wr)) (fun _ kv _ => v.a.n - (intOf kv).toNat)
 case atStart => exact ⟨0, by omega, rfl, World.ownsRow_nil _ _ _ _, Below.refl _ _⟩
 case round =>
  obtain ⟨k, hk, rfl, HK⟩ := hrel
  obtain ⟨hO, hB⟩ := HK.out
  obtain ⟨cc, hCf, hbw, hsw⟩ := HF.out _ hB
  by_cases hlt : k < v.a.n
  ·have hlt' : (k : Int) < v.a.n := by omega
   have hkl : k < c.als.length := by rw [← HN.out]; exact hlt
   obtain ⟨x, hx⟩ : ∃ x, c.als[k]? = some x := ⟨_, List.getElem?_eq_getElem hkl⟩
   obtain ⟨g, off, s6, e, hg, a0, a1, a2, a3, a4, a5, a6, a7, a8, r6⟩ := al_at hCf hx
   have HT : Hid ((c.als.take (k + 1)).map (fun x => S x.name) = (c.als.take k).map (fun x => S x.name) ++ [S x.name]) := by
    show _ = _
    rw [List.take_add_one, hx, Option.toList_some, List.map_append]
    rfl
   have HB : Hid (Below (w.heap.size + 1) (w.alloc (.cells C 47)) wr) := hB
   have hO2 := hO.alloc (.cells #[S x.name] 9)
   rw [e] at cc
   clear hx hkl hCf hbw HK hB e HF
   go_wp2_with (at_builtin; refine wpList_append_own _ rfl (.tmp 110) (.tmp 117) 38 rfl (w.heap.size + 1) 9 i0 (.string ⟨#[]⟩) 1 16 Tryz.underlying38 hi0 hz0 hz1 hz2 rfl (by decide) _ _ _ rfl hO2 ⟨wr.heap.size, 0, none⟩ 1 1 [S x.name] rfl rfl (cell_one_new _ _ _) (by intro u hu; simp at hu; subst hu; rfl) (by unfold maxLen; omega) (by omega) (by simp; omega) ?_)
   intro v6 w6 ho6 hg6 _
   have HB6 : Hid (Below (w.heap.size + 1) (w.alloc (.cells C 47)) w6) := by
    have b1 := HB.out.trans ((below_alloc wr (.cells #[S x.name] 9)).mono hsw)
    exact b1.grown hg6 (by simp; omega) (fun k e => (hO.lt k e).1)
   have HO6 : Hid (w6.ownsRow (w.heap.size + 1) 9 1 v6 (k + 1) ((c.als.take (k + 1)).map fun x => S x.name)) := by
    have h7 := ho6
    rw [← List.map_take, ← HT.out] at h7
    exact h7
   clear ho6 hg6 hO hO2 HB
   go_wp2
   go_roundw
   case rel => exact ⟨k + 1, by omega, by go_num, HO6.out, HB6.out⟩
   case measure => simp [intOf]; omega
  ·obtain rfl : k = v.a.n := by omega
   have hlt' : ¬ ((v.a.n : Nat) : Int) < (v.a.n : Nat) := by omega
   obtain ⟨s, rfl, hR⟩ := rows_own2 hO (l := c.als.map fun x => x.name) (by rw [List.take_of_length_le (by rw [HN.out]; exact Nat.le_refl _), List.map_map]; rfl) (by rw [List.length_map]; exact HN.out)
   clear hO HK hB hCf HF
   go_wp2
   go_ret
   exact ⟨s, rfl, hR, hbw⟩
theorem rNames_isrs (w : World) (c : Cf) (v : Vs) (h : CfAt w c v) (hl : c.isrs.length ≤ 8796093022208) : Calls Tryz.prog 95 #[.agg (cfC c v), .string ⟨#[73, 83, 82]⟩] w fun e w' => NamesPost w (c.isrs.map fun x => x.name) e w' := by
 obtain ⟨i0, hi0, hz0, hz1, hz2⟩ := info_parts Tryz.infoStr
 have HN : Hid (v.i.n = c.isrs.length) := h.i.n
 have hn40 : v.i.n ≤ 8796093022208 := by have := h.i.n; omega
 have hb := below_alloc w
 have fC : ∀ h : 16 < (cfC c v).size, (cfC c v)[16] = .slice v.i.a v.i.n v.i.c := fun _ => rfl
 have hs18 : (cfC c v).size = 18 := rfl
 have hV0 := heap_alloc_new w (.cells (cfC c v) 47)
 have hcv : ∀ W : World, W.heap[w.heap.size]? = some (.cells (cfC c v) 47 (0, 0)) → W.cell? ⟨w.heap.size, 16, none⟩ = some (.slice v.i.a v.i.n v.i.c) := fun W hW => by
  obtain ⟨_, h10, h11, h12, h13, h14, h15, h16, h17⟩ := var18_all hW
  exact h16
 generalize cfC c v = C at *
 replace fC := fC (by omega)
 have hs1 : (w.alloc (.cells C 47)).heap.size = w.heap.size + 1 := by simp
 have hbw := hb (.cells C 47)
 have HF : Hid (∀ W, Below (w.heap.size + 1) (w.alloc (.cells C 47)) W → W.cell? ⟨w.heap.size, 16, none⟩ = some (.slice v.i.a v.i.n v.i.c) ∧ CfAt W c v ∧ Below w.heap.size w W ∧ w.heap.size + 1 ≤ W.heap.size) := fun W hW => by
  have hs := hW.size
  refine ⟨hcv W ((hW.block _ (by omega)).trans hV0), ?_, ?_, by omega⟩
  ·exact h.below (hbw.trans (hW.mono (by omega)))
  ·exact hbw.trans (hW.mono (by omega))
 clear hb hV0 hcv h hbw
 go_enter Tryz.func95, Tryz.ntmps95
 go_wp2
 clear fC
 go_loopw [5, 11] (fun lv kv wr => ∃ k : Nat, k ≤ v.i.n ∧ kv = .int .i64 k ∧ Hid (wr.ownsRow (w.heap.size + 1) 9 1 lv k ((c.isrs.take k).map fun x => S x.name) ∧ Below (w.heap.size + 1) (w.alloc (.cells C 47)) wr)) (fun _ kv _ => v.i.n - (intOf kv).toNat)
 case atStart => exact ⟨0, by omega, rfl, World.ownsRow_nil _ _ _ _, Below.refl _ _⟩
 case round =>
  obtain ⟨k, hk, rfl, HK⟩ := hrel
  obtain ⟨hO, hB⟩ := HK.out
  obtain ⟨cc, hCf, hbw, hsw⟩ := HF.out _ hB
  by_cases hlt : k < v.i.n
  ·have hlt' : (k : Int) < v.i.n := by omega
   have hkl : k < c.isrs.length := by rw [← HN.out]; exact hlt
   obtain ⟨x, hx⟩ : ∃ x, c.isrs[k]? = some x := ⟨_, List.getElem?_eq_getElem hkl⟩
   obtain ⟨g, off, s3, s4, e, hg, a0, a1, a2, a3, a4, r3, r4⟩ := is_at hCf hx
   have HT : Hid ((c.isrs.take (k + 1)).map (fun x => S x.name) = (c.isrs.take k).map (fun x => S x.name) ++ [S x.name]) := by
    show _ = _
    rw [List.take_add_one, hx, Option.toList_some, List.map_append]
    rfl
   have HB : Hid (Below (w.heap.size + 1) (w.alloc (.cells C 47)) wr) := hB
   have hO2 := hO.alloc (.cells #[S x.name] 9)
   rw [e] at cc
   clear hx hkl hCf hbw HK hB e HF
   go_wp2_with (at_builtin; refine wpList_append_own _ rfl (.tmp 128) (.tmp 135) 38 rfl (w.heap.size + 1) 9 i0 (.string ⟨#[]⟩) 1 16 Tryz.underlying38 hi0 hz0 hz1 hz2 rfl (by decide) _ _ _ rfl hO2 ⟨wr.heap.size, 0, none⟩ 1 1 [S x.name] rfl rfl (cell_one_new _ _ _) (by intro u hu; simp at hu; subst hu; rfl) (by unfold maxLen; omega) (by omega) (by simp; omega) ?_)
   intro v6 w6 ho6 hg6 _
   have HB6 : Hid (Below (w.heap.size + 1) (w.alloc (.cells C 47)) w6) := by
    have b1 := HB.out.trans ((below_alloc wr (.cells #[S x.name] 9)).mono hsw)
    exact b1.grown hg6 (by simp; omega) (fun k e => (hO.lt k e).1)
   have HO6 : Hid (w6.ownsRow (w.heap.size + 1) 9 1 v6 (k + 1) ((c.isrs.take (k + 1)).map fun x => S x.name)) := by
    have h7 := ho6
    rw [← List.map_take, ← HT.out] at h7
    exact h7
   clear ho6 hg6 hO hO2 HB
   go_wp2
   go_roundw
   case rel => exact ⟨k + 1, by omega, by go_num, HO6.out, HB6.out⟩
   case measure => simp [intOf]; omega
  ·obtain rfl : k = v.i.n := by omega
   have hlt' : ¬ ((v.i.n : Nat) : Int) < (v.i.n : Nat) := by omega
   obtain ⟨s, rfl, hR⟩ := rows_own2 hO (l := c.isrs.map fun x => x.name) (by rw [List.take_of_length_le (by rw [HN.out]; exact Nat.le_refl _), List.map_map]; rfl) (by rw [List.length_map]; exact HN.out)
   clear hO HK hB hCf HF
   go_wp2
   go_ret
   exact ⟨s, rfl, hR, hbw⟩
theorem rNames_msgs (w : World) (c : Cf) (v : Vs) (h : CfAt w c v) (hl : c.msgs.length ≤ 8796093022208) : Calls Tryz.prog 95 #[.agg (cfC c v), .string ⟨#[77, 69, 83, 83, 65, 71, 69]⟩] w fun e w' => NamesPost w (c.msgs.map fun x => x.name) e w' := by
 obtain ⟨i0, hi0, hz0, hz1, hz2⟩ := info_parts Tryz.infoStr
 have HN : Hid (v.s.n = c.msgs.length) := h.s.n
 have hn40 : v.s.n ≤ 8796093022208 := by have := h.s.n; omega
 have hb := below_alloc w
 have fC : ∀ h : 17 < (cfC c v).size, (cfC c v)[17] = .slice v.s.a v.s.n v.s.c := fun _ => rfl
 have hs18 : (cfC c v).size = 18 := rfl
 have hV0 := heap_alloc_new w (.cells (cfC c v) 47)
 have hcv : ∀ W : World, W.heap[w.heap.size]? = some (.cells (cfC c v) 47 (0, 0)) → W.cell? ⟨w.heap.size, 17, none⟩ = some (.slice v.s.a v.s.n v.s.c) := fun W hW => by
  obtain ⟨_, h10, h11, h12, h13, h14, h15, h16, h17⟩ := var18_all hW
  exact h17
 generalize cfC c v = C at *
 replace fC := fC (by omega)
 have hs1 : (w.alloc (.cells C 47)).heap.size = w.heap.size + 1 := by simp
 have hbw := hb (.cells C 47)
 have HF : Hid (∀ W, Below (w.heap.size + 1) (w.alloc (.cells C 47)) W → W.cell? ⟨w.heap.size, 17, none⟩ = some (.slice v.s.a v.s.n v.s.c) ∧ CfAt W c v ∧ Below w.heap.size w W ∧ w.heap.size + 1 ≤ W.heap.size) := fun W hW => by
  have hs := hW.size
  refine ⟨hcv W ((hW.block _ (by omega)).trans hV0), ?_, ?_, by omega⟩
  ·exact h.below (hbw.trans (hW.mono (by omega)))
  ·exact hbw.trans (hW.mono (by omega))
 clear hb hV0 hcv h hbw
 go_enter Tryz.func95, Tryz.ntmps95
 go_wp2
 clear fC
 go_loopw [5, 12] (fun lv kv wr => ∃ k : Nat, k ≤ v.s.n ∧ kv = .int .i64 k ∧ Hid (wr.ownsRow (w.heap.size + 1) 9 1 lv k ((c.msgs.take k).map fun x => S x.name) ∧ Below (w.heap.size + 1) (w.alloc (.cells C 47)) wr)) (fun _ kv _ => v.s.n - (intOf kv).toNat)
 case atStart => exact ⟨0, by omega, rfl, World.ownsRow_nil _ _ _ _, Below.refl _ _⟩
 case round =>
  obtain ⟨k, hk, rfl, HK⟩ := hrel
  obtain ⟨hO, hB⟩ := HK.out
  obtain ⟨cc, hCf, hbw, hsw⟩ := HF.out _ hB
  by_cases hlt : k < v.s.n
  ·have hlt' : (k : Int) < v.s.n := by omega
   have hkl : k < c.msgs.length := by rw [← HN.out]; exact hlt
   obtain ⟨x, hx⟩ : ∃ x, c.msgs[k]? = some x := ⟨_, List.getElem?_eq_getElem hkl⟩
   obtain ⟨g, off, e, hg, a0, a1, a2, a3, a4, a5, a6, a7, a8, a9⟩ := ms_at hCf hx
   have HT : Hid ((c.msgs.take (k + 1)).map (fun x => S x.name) = (c.msgs.take k).map (fun x => S x.name) ++ [S x.name]) := by
    show _ = _
    rw [List.take_add_one, hx, Option.toList_some, List.map_append]
    rfl
   have HB : Hid (Below (w.heap.size + 1) (w.alloc (.cells C 47)) wr) := hB
   have hO2 := hO.alloc (.cells #[S x.name] 9)
   rw [e] at cc
   clear hx hkl hCf hbw HK hB e HF
   go_wp2_with (at_builtin; refine wpList_append_own _ rfl (.tmp 146) (.tmp 153) 38 rfl (w.heap.size + 1) 9 i0 (.string ⟨#[]⟩) 1 16 Tryz.underlying38 hi0 hz0 hz1 hz2 rfl (by decide) _ _ _ rfl hO2 ⟨wr.heap.size, 0, none⟩ 1 1 [S x.name] rfl rfl (cell_one_new _ _ _) (by intro u hu; simp at hu; subst hu; rfl) (by unfold maxLen; omega) (by omega) (by simp; omega) ?_)
   intro v6 w6 ho6 hg6 _
   have HB6 : Hid (Below (w.heap.size + 1) (w.alloc (.cells C 47)) w6) := by
    have b1 := HB.out.trans ((below_alloc wr (.cells #[S x.name] 9)).mono hsw)
    exact b1.grown hg6 (by simp; omega) (fun k e => (hO.lt k e).1)
   have HO6 : Hid (w6.ownsRow (w.heap.size + 1) 9 1 v6 (k + 1) ((c.msgs.take (k + 1)).map fun x => S x.name)) := by
    have h7 := ho6
    rw [← List.map_take, ← HT.out] at h7
    exact h7
   clear ho6 hg6 hO hO2 HB
   go_wp2
   go_roundw
   case rel => exact ⟨k + 1, by omega, by go_num, HO6.out, HB6.out⟩
   case measure => simp [intOf]; omega
  ·obtain rfl : k = v.s.n := by omega
   have hlt' : ¬ ((v.s.n : Nat) : Int) < (v.s.n : Nat) := by omega
   obtain ⟨s, rfl, hR⟩ := rows_own2 hO (l := c.msgs.map fun x => x.name) (by rw [List.take_of_length_le (by rw [HN.out]; exact Nat.le_refl _), List.map_map]; rfl) (by rw [List.length_map]; exact HN.out)
   clear hO HK hB hCf HF
   go_wp2
   go_ret
   exact ⟨s, rfl, hR, hbw⟩
end Go.Proofs.YtmidaeljeoifdaaGreatDoor
