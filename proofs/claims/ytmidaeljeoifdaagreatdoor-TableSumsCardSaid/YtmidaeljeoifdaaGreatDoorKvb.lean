import Derived.Test.YtmidaeljeoifdaaGreatDoorKva
import Derived.Test.YtmidaeljeoifdaaGreatDoorKua
namespace Go.Proofs.YtmidaeljeoifdaaGreatDoor
set_option maxRecDepth 100000
set_option maxHeartbeats 16000000
open Go.RowKit
set_option linter.unusedVariables false
theorem CksV.below {w w' : World} {l : List Ck} {u : Value} (h : CksV w l u) (hb : Below w.heap.size w w') : CksV w' l u := by
 obtain ⟨g, off, c, e, h⟩ := h
 exact ⟨g, off, c, e, h.below hb (fun _ _ _ _ h => h)⟩
theorem cksV_lit (w : World) (cs : List Ck) (n : Nat) (hn : n = cs.length) (hm : n ≤ 100) : CksV (w.alloc (.cells (cs.flatMap ckC).toArray 254)) cs (.slice (some ⟨w.heap.size, 0, none⟩) n n) := by
 subst hn
 exact ⟨w.heap.size, 0, _, rfl, rows_ck (heap_alloc_new w _) cs (by simp) rfl (by unfold maxLen; omega)⟩
theorem rows_lists (w : World) (us : List Value) (ls : List (List Ck)) (n : Nat) (hn : n = ls.length) (hm : n ≤ 100) (h : ∀ (j : Nat) (x : List Ck), ls[j]? = some x → ∃ u, us[j]? = some u ∧ CksV w x u) :
  RowsAt (w.alloc (.cells us.toArray 197)) 1 (fun x _ u => CksV (w.alloc (.cells us.toArray 197)) x u) ⟨some ⟨w.heap.size, 0, none⟩, n, n⟩ ls := by
 refine ⟨hn, Nat.le_refl _, by show n ≤ maxLen; unfold maxLen; omega, fun j x hj => ⟨w.heap.size, 0, rfl, by simp, fun i hi => ?_⟩⟩
 obtain ⟨u, hu, hx⟩ := h j x hj
 obtain rfl : i = 0 := by omega
 refine ⟨u, ?_, hx.below (below_alloc w _)⟩
 rw [show 0 + j * 1 + 0 = j by omega, cell_of_row _ w.heap.size j _ _ (0, 0) (heap_alloc_new w _)]
 simpa using hu
theorem alarmChecks_any (w : World) : Calls Tryz.prog 188 #[] w fun e w' => ∃ bo, ChecksPost w (alarmChecksL bo) e w' ∧ w'.cell? ⟨bo, 0, none⟩ = some (.func (.func 241) #[] #[]) := by
 have hb1 := below_alloc w (.cells #[.int .i64 73, .func (.func 239) #[] #[]] 254)
 have hc1 := cksV_lit w [⟨73, 239, #[]⟩] 1 rfl (by omega)
 have hcc : ∀ (w2 : World) (bo : Nat) (s2 : Sl), RowsAt w2 2 ckP s2 (actL bo) → Below (w.alloc (.cells #[.int .i64 73, .func (.func 239) #[] #[]] 254)).heap.size (w.alloc (.cells #[.int .i64 73, .func (.func 239) #[] #[]] 254)) w2 → bo < w2.heap.size → w2.cell? ⟨bo, 0, none⟩ = some (.func (.func 241) #[] #[]) →
   Calls Tryz.prog 238 #[.slice (some ⟨w2.heap.size + 1, 0, none⟩) 3 3] ((w2.alloc (.cells #[.int .i64 73, .func (.func 242) #[] #[], .int .i64 74, .func (.func 243) #[] #[]] 254)).alloc (.cells #[.slice (some ⟨w.heap.size, 0, none⟩) 1 1, .slice s2.a s2.n s2.c, .slice (some ⟨w2.heap.size, 0, none⟩) 2 2] 197)) fun e w' => ChecksPost w (alarmChecksL bo) e w' ∧ w'.cell? ⟨bo, 0, none⟩ = some (.func (.func 241) #[] #[]) := by
  intro w2 bo s2 h2 hb2 hlt hcell
  have k1 := hc1.below hb2
  have k2 := cksV_of h2 (by simp [actL])
  have hbw := hb1.trans (hb2.mono hb1.size)
  have hb3 := below_alloc w2 (.cells #[.int .i64 73, .func (.func 242) #[] #[], .int .i64 74, .func (.func 243) #[] #[]] 254)
  have k3 := cksV_lit w2 [⟨73, 242, #[]⟩, ⟨74, 243, #[]⟩] 2 rfl (by omega)
  replace k1 := k1.below hb3
  replace k2 := k2.below hb3
  have hbw3 := hbw.trans (hb3.mono hbw.size)
  have hb4 := below_alloc (w2.alloc (.cells #[.int .i64 73, .func (.func 242) #[] #[], .int .i64 74, .func (.func 243) #[] #[]] 254)) (.cells #[.slice (some ⟨w.heap.size, 0, none⟩) 1 1, .slice s2.a s2.n s2.c, .slice (some ⟨w2.heap.size, 0, none⟩) 2 2] 197)
  have hrl := rows_lists (w2.alloc (.cells #[.int .i64 73, .func (.func 242) #[] #[], .int .i64 74, .func (.func 243) #[] #[]] 254)) [.slice (some ⟨w.heap.size, 0, none⟩) 1 1, .slice s2.a s2.n s2.c, .slice (some ⟨w2.heap.size, 0, none⟩) 2 2] [[⟨73, 239, #[]⟩], actL bo, [⟨73, 242, #[]⟩, ⟨74, 243, #[]⟩]] 3 rfl (by omega) (fun j x hj => by
   rcases j with _ | _ | _ | j
   ·obtain rfl := Option.some.inj hj; exact ⟨_, rfl, k1⟩
   ·obtain rfl := Option.some.inj hj; exact ⟨_, rfl, k2⟩
   ·obtain rfl := Option.some.inj hj; exact ⟨_, rfl, k3⟩
   ·simp at hj)
  have hsz4 : (w2.alloc (.cells #[.int .i64 73, .func (.func 242) #[] #[], .int .i64 74, .func (.func 243) #[] #[]] 254)).heap.size = w2.heap.size + 1 := by simp
  rw [hsz4] at hrl
  refine (concat_any _ _ _ hrl (by simp [actL]) (by simp [actL])).mono ?_
  rintro e w' ⟨s', he, hs', hb'⟩
  have hbw4 := hbw3.trans (hb4.mono hbw3.size)
  refine ⟨⟨s', he, hs', hbw4.trans (hb'.mono hbw4.size)⟩, ?_⟩
  have hl3 := hb3.size
  have hl4 := hb4.size
  rw [cell_below hb' _ _ (by omega), cell_below hb4 _ _ (by omega), cell_below hb3 _ _ hlt]
  exact hcell
 have ca := actChecks_any (w.alloc (.cells #[.int .i64 73, .func (.func 239) #[] #[]] 254)) 241
 clear hc1 hb1
 go_enter Tryz.func188, Tryz.ntmps188
 go_wp2_with (first | (go_at_call 240; refine ca.mono ?_; rintro e w2 ⟨bo, ⟨s2, rfl, h2, hb2⟩, hle, hlt, hcell⟩) | (go_at_call 238; refine (hcc w2 bo s2 h2 hb2 hlt hcell).mono ?_; rintro e w5 ⟨⟨s5, rfl, h5, hb5⟩, hc5⟩))
 go_ret
 exact ⟨bo, ⟨s5, rfl, h5, hb5⟩, hc5⟩
theorem messageChecks_any (w : World) : Calls Tryz.prog 192 #[] w fun e w' => ∃ bo, ChecksPost w (messageChecksL bo) e w' ∧ w'.cell? ⟨bo, 0, none⟩ = some (.func (.func 256) #[] #[]) := by
 have hb1 := below_alloc w (.cells #[.int .i64 74, .func (.func 253) #[] #[], .int .i64 73, .func (.func 254) #[] #[], .int .i64 74, .func (.func 255) #[] #[]] 254)
 have hc1 := cksV_lit w [⟨74, 253, #[]⟩, ⟨73, 254, #[]⟩, ⟨74, 255, #[]⟩] 3 rfl (by omega)
 have hcc : ∀ (w2 : World) (bo : Nat) (s2 : Sl), RowsAt w2 2 ckP s2 (actL bo) → Below (w.alloc (.cells #[.int .i64 74, .func (.func 253) #[] #[], .int .i64 73, .func (.func 254) #[] #[], .int .i64 74, .func (.func 255) #[] #[]] 254)).heap.size (w.alloc (.cells #[.int .i64 74, .func (.func 253) #[] #[], .int .i64 73, .func (.func 254) #[] #[], .int .i64 74, .func (.func 255) #[] #[]] 254)) w2 → bo < w2.heap.size → w2.cell? ⟨bo, 0, none⟩ = some (.func (.func 256) #[] #[]) →
   Calls Tryz.prog 238 #[.slice (some ⟨w2.heap.size, 0, none⟩) 2 2] (w2.alloc (.cells #[.slice (some ⟨w.heap.size, 0, none⟩) 3 3, .slice s2.a s2.n s2.c] 197)) fun e w' => ChecksPost w (messageChecksL bo) e w' ∧ w'.cell? ⟨bo, 0, none⟩ = some (.func (.func 256) #[] #[]) := by
  intro w2 bo s2 h2 hb2 hlt hcell
  have k1 := hc1.below hb2
  have k2 := cksV_of h2 (by simp [actL])
  have hbw := hb1.trans (hb2.mono hb1.size)
  have hbw3 := hbw
  have hb3 := Below.refl w2.heap.size w2
  have hb4 := below_alloc w2 (.cells #[.slice (some ⟨w.heap.size, 0, none⟩) 3 3, .slice s2.a s2.n s2.c] 197)
  have hrl := rows_lists w2 [.slice (some ⟨w.heap.size, 0, none⟩) 3 3, .slice s2.a s2.n s2.c] [[⟨74, 253, #[]⟩, ⟨73, 254, #[]⟩, ⟨74, 255, #[]⟩], actL bo] 2 rfl (by omega) (fun j x hj => by
   rcases j with _ | _ | _ | j
   ·obtain rfl := Option.some.inj hj; exact ⟨_, rfl, k1⟩
   ·obtain rfl := Option.some.inj hj; exact ⟨_, rfl, k2⟩
   ·simp at hj
   ·simp at hj)
  have hsz4 : w2.heap.size = w2.heap.size := by simp
  rw [hsz4] at hrl
  refine (concat_any _ _ _ hrl (by simp [actL]) (by simp [actL])).mono ?_
  rintro e w' ⟨s', he, hs', hb'⟩
  have hbw4 := hbw3.trans (hb4.mono hbw3.size)
  refine ⟨⟨s', he, hs', hbw4.trans (hb'.mono hbw4.size)⟩, ?_⟩
  have hl3 := hb3.size
  have hl4 := hb4.size
  rw [cell_below hb' _ _ (by omega), cell_below hb4 _ _ (by omega), cell_below hb3 _ _ hlt]
  exact hcell
 have ca := actChecks_any (w.alloc (.cells #[.int .i64 74, .func (.func 253) #[] #[], .int .i64 73, .func (.func 254) #[] #[], .int .i64 74, .func (.func 255) #[] #[]] 254)) 256
 clear hc1 hb1
 go_enter Tryz.func192, Tryz.ntmps192
 go_wp2_with (first | (go_at_call 240; refine ca.mono ?_; rintro e w2 ⟨bo, ⟨s2, rfl, h2, hb2⟩, hle, hlt, hcell⟩) | (go_at_call 238; refine (hcc w2 bo s2 h2 hb2 hlt hcell).mono ?_; rintro e w5 ⟨⟨s5, rfl, h5, hb5⟩, hc5⟩))
 go_ret
 exact ⟨bo, ⟨s5, rfl, h5, hb5⟩, hc5⟩
end Go.Proofs.YtmidaeljeoifdaaGreatDoor
