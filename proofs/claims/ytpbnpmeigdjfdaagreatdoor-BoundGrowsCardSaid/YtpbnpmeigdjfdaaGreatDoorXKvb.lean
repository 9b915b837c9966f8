import Derived.Test.YtpbnpmeigdjfdaaGreatDoorXKrt2
import Derived.Lib.AppendZeros
import Derived.Deep.DeepAppendWide
import Derived.Test.YtpbnpmeigdjfdaaGreatDoorKva
namespace Go.Proofs.YtpbnpmeigdjfdaaGreatDoor
open Go.RowKit
set_option linter.unusedSimpArgs false
set_option linter.unusedVariables false
set_option maxHeartbeats 16000000
set_option maxRecDepth 100000
theorem info_of {P : Program} {t : TypeId} {z : Option Value} {s b : Nat} (h : (P.info? t).map (fun i => (i.zero, i.size, i.bytes)) = some (z, s, b)) : ∃ i, P.info? t = some i ∧ i.zero = z ∧ i.size = s ∧ i.bytes = b := by
 cases hi : P.info? t with
 | none => rw [hi] at h; cases h
 | some i =>
  rw [hi] at h
  simp at h
  exact ⟨i, rfl, h.1, h.2.1, h.2.2⟩
theorem infoCk : ∃ i, Tryz.prog.info? 159 = some i ∧ i.zero = some (.agg #[.int .i64 0, .nilFunc]) ∧ i.size = 2 ∧ i.bytes = 16 :=
 info_of (show (Tryz.prog.info? 159).map (fun i => (i.zero, i.size, i.bytes)) = some (some (.agg #[.int .i64 0, .nilFunc]), 2, 16) by kernel_rfl)
theorem grow_nil (n : Nat) (h1 : 1 ≤ n) (h2 : n ≤ 1000) (w : World) : Calls Tryz.prog 171 #[.slice none 0 0, I n] w fun e w' => ∃ v, e = .returned v ∧ w'.ownsRow w.heap.size 159 2 v 0 [] ∧ Below w.heap.size w w' := by
 obtain ⟨i0, hi, hz, hs, hby⟩ := infoCk
 have hr := fun ty => Lib.run_append_nil_zeros (P := Tryz.prog) w 125 3 ty 159 i0 _ .i64 .i64 Tryz.underlying125 Tryz.underlying3 hi hz n (by omega) (by omega) (by omega) (by rw [hby]; omega)
 have hG := grownCap_ge w n 0 159
 have hGm := grownCap_le_maxLen w n 0 159 (by unfold maxLen; omega)
 obtain ⟨G, hGe⟩ : ∃ G, G = grownCap w n 0 159 := ⟨_, rfl⟩
 rw [← hGe] at hr hG hGm
 have hsz : (Builtin.zeroCells (Value.agg #[.int .i64 0, .nilFunc]).cells n ++ Builtin.zeroCells (Value.agg #[.int .i64 0, .nilFunc]).cells (G - n)).size = G * 2 := by
  simp only [Array.size_append, size_zeroCells]
  show n * 2 + (G - n) * 2 = G * 2
  omega
 generalize Builtin.zeroCells (Value.agg #[.int .i64 0, .nilFunc]).cells n ++ Builtin.zeroCells (Value.agg #[.int .i64 0, .nilFunc]).cells (G - n) = Z at *
 have hfin : (w.drew.alloc (.cells Z 159)).ownsRow w.heap.size 159 2 (.slice (some ⟨w.heap.size, 0, none⟩) 0 G) 0 [] :=
  ⟨rfl, .inr ⟨w.heap.size, G, Z, rfl, Nat.le_refl _, heap_alloc_new w.drew _, Nat.zero_le _, hGm, hsz, by simp⟩⟩
 have hbl : Below w.heap.size w (w.drew.alloc (.cells Z 159)) := ⟨rfl, rfl, rfl, by simp, fun k hk => heap_alloc_old w.drew _ hk⟩
 have hG63 : (G : Int) ≤ 9223372036854775807 := by unfold maxLen at hGm; omega
 have hn0 : ¬ ((n : Int) < 0) := by omega
 have hn1 : (n : Int) > 0 := by omega
 have hw1 : wrap64 ((n : Int) - 0) = n := by unfold wrap64; omega
 clear hGe hsz hGm
 go_enter Tryz.func171, Tryz.ntmps171
 go_wp2_with (at_builtin; refine Lib.wpList_append_run _ rfl _ _ _ _ rfl _ _ rfl rfl _ _ (hr _) ?_)
 all_goals (go_ret; exact ⟨_, rfl, hfin, hbl⟩)
theorem add_row (b o i : Nat) : (⟨b, o, none⟩ : Addr).add i = ⟨b, o + i, none⟩ := by unfold Addr.add; split <;> simp_all
def CksV (w : World) (l : List Ck) (u : Value) : Prop := ∃ g off c : Nat, u = .slice (some ⟨g, off, none⟩) l.length c ∧ RowsAt w 2 ckP ⟨some ⟨g, off, none⟩, l.length, c⟩ l
theorem cksV_of {w : World} {s : Sl} {l : List Ck} (h : RowsAt w 2 ckP s l) (hne : l ≠ []) : CksV w l (.slice s.a s.n s.c) := by
 obtain ⟨x, t, rfl⟩ := List.exists_cons_of_ne_nil hne
 obtain ⟨g, off, e, _⟩ := h.row 0 x rfl
 obtain ⟨sa, sn, sc⟩ := s
 have hn : sn = _ := h.n
 obtain rfl : sa = _ := e
 subst hn
 exact ⟨g, off, sc, rfl, h⟩
theorem cks_cells {w : World} {g off c : Nat} {l : List Ck} (h : RowsAt w 2 ckP ⟨some ⟨g, off, none⟩, l.length, c⟩ l) : ∀ j u, (l.flatMap ckC)[j]? = some u → w.cell? ((⟨g, off, none⟩ : Addr).add j) = some u := by
 intro j u hj
 have hl : (l.flatMap ckC).length = l.length * 2 := by
  clear h hj
  induction l with
  | nil => rfl
  | cons y r ih => rw [List.flatMap_cons, List.length_append, ih]; simp [ckC]; omega
 have hjl := (List.getElem?_eq_some_iff.1 hj).1
 rw [hl] at hjl
 have hq : j / 2 < l.length := by omega
 obtain ⟨x, hx⟩ : ∃ x, l[j / 2]? = some x := ⟨_, List.getElem?_eq_getElem hq⟩
 obtain ⟨g', off', e', _, hr⟩ := h.row _ x hx
 cases e'
 obtain ⟨y, hy, hp⟩ := hr (j % 2) (by omega)
 have hc := ck_at l (j / 2) x hx (j % 2) (by omega)
 rw [show j / 2 * 2 + j % 2 = j by omega, hj] at hc
 rw [add_row]
 rw [show off + j = off + j / 2 * 2 + j % 2 by omega, hy]
 have h01 : j % 2 = 0 ∨ j % 2 = 1 := by omega
 rcases h01 with e0 | e0
 ·rw [e0] at hp hc
  obtain rfl : y = I x.code := hp
  exact congrArg some (Option.some.inj hc).symm
 ·rw [e0] at hp hc
  obtain rfl : y = .func (.func x.f) #[] x.caps := hp
  exact congrArg some (Option.some.inj hc).symm
theorem cks_len (l : List Ck) : (l.flatMap ckC).length = l.length * 2 := by
 induction l with
 | nil => rfl
 | cons y r ih => rw [List.flatMap_cons, List.length_append, ih]; simp [ckC]; omega
theorem cks_one (l : List Ck) : ∀ u ∈ l.flatMap ckC, u.oneCell' = true := by
 intro u hu
 obtain ⟨x, _, hx⟩ := List.mem_flatMap.1 hu
 simp [ckC] at hx
 rcases hx with rfl | rfl <;> rfl
theorem rows_of_own {w : World} {base : Nat} {v : Value} {l : List Ck} (h : w.ownsRow base 159 2 v l.length (l.flatMap ckC)) (hne : l ≠ []) : ∃ s : Sl, v = .slice s.a s.n s.c ∧ RowsAt w 2 ckP s l := by
 obtain ⟨hl, ⟨rfl, h0⟩ | ⟨g, cap, cur, rfl, hb1, hh, hnc, hcm, hcs, htk⟩⟩ := h
 ·exact absurd (List.eq_nil_of_length_eq_zero h0) hne
 ·refine ⟨⟨some ⟨g, 0, none⟩, l.length, cap⟩, rfl, rfl, hnc, hcm, fun j x hj => ⟨g, 0, rfl, heap_lt hh, fun i hi => ?_⟩⟩
  have hc := ck_at l j x hj i hi
  have hjl := (List.getElem?_eq_some_iff.1 hj).1
  rw [← htk, List.getElem?_take, if_pos (by omega), Array.getElem?_toList] at hc
  have h1 : w.cell? ⟨g, 0 + j * 2 + i, none⟩ = (ckC x)[i]? := by rw [Nat.zero_add, cell_of_row w g _ _ _ (0, 0) hh]; exact hc
  have h01 : i = 0 ∨ i = 1 := by omega
  rcases h01 with rfl | rfl
  ·exact ⟨_, h1, rfl⟩
  ·exact ⟨_, h1, rfl⟩
theorem flat_take {l : List (List Ck)} {j : Nat} {x : List Ck} (h : l[j]? = some x) : (l.take (j + 1)).flatten = (l.take j).flatten ++ x := by
 rw [List.take_add_one, h, Option.toList_some, List.flatten_append]
 simp
theorem flat_le (l : List (List Ck)) (j : Nat) : (l.take j).flatten.length ≤ l.flatten.length := by
 have h : l.flatten = (l.take j).flatten ++ (l.drop j).flatten := by rw [← List.flatten_append, List.take_append_drop]
 rw [h, List.length_append]
 omega
theorem concat_any (w : World) (s : Sl) (ls : List (List Ck)) (hS : RowsAt w 1 (fun x _ u => CksV w x u) s ls) (hne : ls.flatten ≠ []) (hlen : ls.flatten.length ≤ 1000) :
  Calls Tryz.prog 134 #[.slice s.a s.n s.c] w fun e w' => ChecksPost w ls.flatten e w' := by
 obtain ⟨sa, sn, sc⟩ := s
 have HN : Hid (sn = ls.length) := hS.n
 have hsc : sn ≤ sc := hS.c
 have hsm : sc ≤ maxLen := hS.m
 unfold maxLen at hsm
 have h1L : 1 ≤ ls.flatten.length := by
  rcases Nat.eq_zero_or_pos ls.flatten.length with h | h
  ·exact absurd (List.eq_nil_of_length_eq_zero h) hne
  ·exact h
 have hg := grow_nil ls.flatten.length h1L hlen w
 have hrow : Hid (∀ (j : Nat) (x : List Ck), ls[j]? = some x → ∃ g off : Nat, sa = some ⟨g, off, none⟩ ∧ g < w.heap.size ∧ ∃ gx ox cx : Nat, w.cell? ⟨g, off + j, none⟩ = some (.slice (some ⟨gx, ox, none⟩) x.length cx) ∧ RowsAt w 2 ckP ⟨some ⟨gx, ox, none⟩, x.length, cx⟩ x) := fun j x hj => by
  obtain ⟨g, off, e, hg, hr⟩ := hS.row j x hj
  obtain ⟨u, hu, gx, ox, cx, rfl, hx⟩ := hr 0 (by omega)
  exact ⟨g, off, e, hg, gx, ox, cx, by simpa using hu, hx⟩
 have hfl : Hid (∀ j, (ls.take j).flatten.length ≤ ls.flatten.length) := flat_le ls
 have HLL : Hid (ls.flatten.length ≤ 1000) := hlen
 have HNE : Hid (ls.flatten ≠ []) := hne
 clear hS
 go_enter Tryz.func134, Tryz.ntmps134
 go_wp2
 go_loopw [3, 5, 11] (fun n _ iv wr => ∃ j : Nat, j ≤ sn ∧ iv = .int .i64 j ∧ Hid (n = I ((ls.take j).flatten.length : Nat)) ∧ wr = w) (fun _ _ iv _ => sn - (intOf iv).toNat)
 case atStart => exact ⟨0, by omega, rfl, rfl, rfl⟩
 case round =>
  obtain ⟨j, hj, rfl, HJ, hww⟩ := hrel
  replace hww := hww.symm
  subst hww
  have hJ := HJ.out
  subst hJ
  by_cases hlt : j < sn
  ·have hlt' : (j : Int) < sn := by omega
   have hjl : j < ls.length := by rw [← HN.out]; exact hlt
   obtain ⟨x, hx⟩ : ∃ x, ls[j]? = some x := ⟨_, List.getElem?_eq_getElem hjl⟩
   obtain ⟨g, off, rfl, hgl, gx, ox, cx, hcell, hxr⟩ := hrow.out j x hx
   have hf := flat_take hx
   have hle := Nat.le_trans (hfl.out (j + 1)) HLL.out
   have hle0 : (ls.take j).flatten.length + x.length = (ls.take (j + 1)).flatten.length := by rw [hf, List.length_append]
   have hxm : cx ≤ maxLen := hxr.m
   have hxc : x.length ≤ cx := hxr.c
   have HQ : Hid (I ((((ls.take j).flatten.length : Nat) : Int) + ((x.length : Nat) : Int)) = I ((ls.take (j + 1)).flatten.length : Nat)) := by show _ = _; rw [← hle0]; simp
   have hq : (ls.take j).flatten.length + x.length ≤ 1000 := by omega
   have hnn : ¬ ((((ls.take j).flatten.length : Nat) : Int) + ((x.length : Nat) : Int) < 0) := by omega
   clear hf hle hle0 hxr hxm hx hrow hg hfl HJ hne hlen h1L hjl hlt hj HN HLL HNE
   generalize (ls.take j).flatten.length = q0 at *
   generalize x.length = q1 at *
   go_wp2
   go_roundw
   case rel => exact ⟨j + 1, by omega, by go_num, HQ.out, by trivial⟩
   case measure => simp [intOf]; omega
  ·obtain rfl : j = sn := by omega
   have hlt' : ¬ ((j : Nat) : Int) < (j : Nat) := by omega
   have htk : (ls.take j).flatten.length = ls.flatten.length := by rw [HN.out, List.take_length]
   rw [htk]
   clear htk HJ hlen hne h1L hj hlt
   generalize hLL : ls.flatten.length = L at hg ⊢
   have HLQ : Hid (ls.flatten.length = L) := hLL
   clear hLL
   go_wp2_with (first | (go_at_call 171; refine hg.mono ?_; rintro e w1 ⟨v0, rfl, hown, hb1⟩))
   clear hg
   go_loopw [6, 8, 27] (fun nv _ iv wr => ∃ i : Nat, i ≤ j ∧ iv = .int .i64 i ∧ Hid (wr.ownsRow w.heap.size 159 2 nv (ls.take i).flatten.length ((ls.take i).flatten.flatMap ckC) ∧ Below w.heap.size w wr)) (fun _ _ iv _ => j - (intOf iv).toNat)
   case atStart => exact ⟨0, by omega, rfl, hown, hb1⟩
   case round =>
    clear hown hb1
    obtain ⟨i, hi, rfl, HI⟩ := hrel
    obtain ⟨hown, hB⟩ := HI.out
    clear HI
    by_cases hlt2 : i < j
    ·have hlt3 : (i : Int) < j := by omega
     have hjl : i < ls.length := by rw [← HN.out]; exact hlt2
     obtain ⟨x, hx⟩ : ∃ x, ls[i]? = some x := ⟨_, List.getElem?_eq_getElem hjl⟩
     obtain ⟨g, off, rfl, hgl, gx, ox, cx, hcell, hxr⟩ := hrow.out i x hx
     have hf := flat_take hx
     have hle := Nat.le_trans (hfl.out (i + 1)) HLL.out
     have hle0 : (ls.take i).flatten.length + x.length = (ls.take (i + 1)).flatten.length := by rw [hf, List.length_append]
     have hcellr : wr.cell? ⟨g, off + i, none⟩ = some (.slice (some ⟨gx, ox, none⟩) x.length cx) := by rw [cell_below hB _ _ hgl]; exact hcell
     have hxw := cks_cells (hxr.below hB (fun _ _ _ _ h => h))
     obtain ⟨i0, hi0, hz, hs, hby⟩ := infoCk
     have HK : Hid (∀ v' w', w'.ownsRow w.heap.size 159 2 v' ((ls.take i).flatten.length + x.length) ((ls.take i).flatten.flatMap ckC ++ x.flatMap ckC) → wr.grownBy w' u6.ownBlock → w'.ownsRow w.heap.size 159 2 v' (ls.take (i + 1)).flatten.length ((ls.take (i + 1)).flatten.flatMap ckC) ∧ Below w.heap.size w w') := fun v' w' ho hg' => by
      refine ⟨?_, hB.grown hg' hB.size (fun k e => (hown.lt k e).1)⟩
      rw [hf, List.length_append, List.flatMap_append]
      exact ho
     have hq1 : (ls.take i).flatten.length + x.length ≤ 1000 := by omega
     have hxl := cks_len x
     have hx1 := cks_one x
     have hBs := hB.size
     have hxc : x.length ≤ cx := hxr.c
     clear hf hle hle0 hxr hrow hfl hcell
     go_wp2_with (at_builtin; refine wpList_append_own_wide _ rfl _ _ 125 rfl w.heap.size 159 i0 _ 2 16 Tryz.underlying125 hi0 hz hs hby rfl (by decide) u6 _ _ rfl hown ⟨gx, ox, none⟩ x.length cx _ rfl hxl hxw hx1 (by unfold maxLen; omega) (by omega) hBs ?_; intro v' w' ho hg' _)
     obtain ⟨ho2, hb2⟩ := HK.out v' w' ho hg'
     go_roundw
     case rel => exact ⟨i + 1, by omega, by go_num, ho2, hb2⟩
     case measure => simp [intOf]; omega
    ·obtain rfl : i = j := by omega
     have hlt3 : ¬ ((i : Nat) : Int) < (i : Nat) := by omega
     rw [HN.out, List.take_length] at hown
     obtain ⟨s', rfl, hs'⟩ := rows_of_own hown HNE.out
     have HF : Hid (RowsAt wr 2 ckP s' ls.flatten ∧ Below w.heap.size w wr) := ⟨hs', hB⟩
     clear hown hs' hB hrow hfl
     go_wp2
     go_ret
     exact ⟨s', rfl, HF.out.1, HF.out.2⟩
theorem CksV.below {w w' : World} {l : List Ck} {u : Value} (h : CksV w l u) (hb : Below w.heap.size w w') : CksV w' l u := by
 obtain ⟨g, off, c, e, h⟩ := h
 exact ⟨g, off, c, e, h.below hb (fun _ _ _ _ h => h)⟩
theorem cksV_lit (w : World) (cs : List Ck) (n : Nat) (hn : n = cs.length) (hm : n ≤ 100) : CksV (w.alloc (.cells (cs.flatMap ckC).toArray 159)) cs (.slice (some ⟨w.heap.size, 0, none⟩) n n) := by
 subst hn
 exact ⟨w.heap.size, 0, _, rfl, rows_ck (heap_alloc_new w _) cs (by simp) rfl (by unfold maxLen; omega)⟩
theorem rows_lists (w : World) (us : List Value) (ls : List (List Ck)) (n : Nat) (hn : n = ls.length) (hm : n ≤ 100) (h : ∀ (j : Nat) (x : List Ck), ls[j]? = some x → ∃ u, us[j]? = some u ∧ CksV w x u) :
  RowsAt (w.alloc (.cells us.toArray 125)) 1 (fun x _ u => CksV (w.alloc (.cells us.toArray 125)) x u) ⟨some ⟨w.heap.size, 0, none⟩, n, n⟩ ls := by
 refine ⟨hn, Nat.le_refl _, by show n ≤ maxLen; unfold maxLen; omega, fun j x hj => ⟨w.heap.size, 0, rfl, by simp, fun i hi => ?_⟩⟩
 obtain ⟨u, hu, hx⟩ := h j x hj
 obtain rfl : i = 0 := by omega
 refine ⟨u, ?_, hx.below (below_alloc w _)⟩
 rw [show 0 + j * 1 + 0 = j by omega, cell_of_row _ w.heap.size j _ _ (0, 0) (heap_alloc_new w _)]
 simpa using hu
theorem alarmChecks_any (w : World) : Calls Tryz.prog 81 #[] w fun e w' => ∃ bo, ChecksPost w (alarmChecksL bo) e w' ∧ w'.cell? ⟨bo, 0, none⟩ = some (.func (.func 137) #[] #[]) := by
 have hb1 := below_alloc w (.cells #[.int .i64 73, .func (.func 135) #[] #[]] 159)
 have hc1 := cksV_lit w [⟨73, 135, #[]⟩] 1 rfl (by omega)
 have hcc : ∀ (w2 : World) (bo : Nat) (s2 : Sl), RowsAt w2 2 ckP s2 (actL bo) → Below (w.alloc (.cells #[.int .i64 73, .func (.func 135) #[] #[]] 159)).heap.size (w.alloc (.cells #[.int .i64 73, .func (.func 135) #[] #[]] 159)) w2 → bo < w2.heap.size → w2.cell? ⟨bo, 0, none⟩ = some (.func (.func 137) #[] #[]) →
   Calls Tryz.prog 134 #[.slice (some ⟨w2.heap.size + 1, 0, none⟩) 3 3] ((w2.alloc (.cells #[.int .i64 73, .func (.func 138) #[] #[], .int .i64 74, .func (.func 139) #[] #[]] 159)).alloc (.cells #[.slice (some ⟨w.heap.size, 0, none⟩) 1 1, .slice s2.a s2.n s2.c, .slice (some ⟨w2.heap.size, 0, none⟩) 2 2] 125)) fun e w' => ChecksPost w (alarmChecksL bo) e w' ∧ w'.cell? ⟨bo, 0, none⟩ = some (.func (.func 137) #[] #[]) := by
  intro w2 bo s2 h2 hb2 hlt hcell
  have k1 := hc1.below hb2
  have k2 := cksV_of h2 (by simp [actL])
  have hbw := hb1.trans (hb2.mono hb1.size)
  have hb3 := below_alloc w2 (.cells #[.int .i64 73, .func (.func 138) #[] #[], .int .i64 74, .func (.func 139) #[] #[]] 159)
  have k3 := cksV_lit w2 [⟨73, 138, #[]⟩, ⟨74, 139, #[]⟩] 2 rfl (by omega)
  replace k1 := k1.below hb3
  replace k2 := k2.below hb3
  have hbw3 := hbw.trans (hb3.mono hbw.size)
  have hb4 := below_alloc (w2.alloc (.cells #[.int .i64 73, .func (.func 138) #[] #[], .int .i64 74, .func (.func 139) #[] #[]] 159)) (.cells #[.slice (some ⟨w.heap.size, 0, none⟩) 1 1, .slice s2.a s2.n s2.c, .slice (some ⟨w2.heap.size, 0, none⟩) 2 2] 125)
  have hrl := rows_lists (w2.alloc (.cells #[.int .i64 73, .func (.func 138) #[] #[], .int .i64 74, .func (.func 139) #[] #[]] 159)) [.slice (some ⟨w.heap.size, 0, none⟩) 1 1, .slice s2.a s2.n s2.c, .slice (some ⟨w2.heap.size, 0, none⟩) 2 2] [[⟨73, 135, #[]⟩], actL bo, [⟨73, 138, #[]⟩, ⟨74, 139, #[]⟩]] 3 rfl (by omega) (fun j x hj => by
   rcases j with _ | _ | _ | j
   ·obtain rfl := Option.some.inj hj; exact ⟨_, rfl, k1⟩
   ·obtain rfl := Option.some.inj hj; exact ⟨_, rfl, k2⟩
   ·obtain rfl := Option.some.inj hj; exact ⟨_, rfl, k3⟩
   ·simp at hj)
  have hsz4 : (w2.alloc (.cells #[.int .i64 73, .func (.func 138) #[] #[], .int .i64 74, .func (.func 139) #[] #[]] 159)).heap.size = w2.heap.size + 1 := by simp
  rw [hsz4] at hrl
  refine (concat_any _ _ _ hrl (by simp [actL]) (by simp [actL])).mono ?_
  rintro e w' ⟨s', he, hs', hb'⟩
  have hbw4 := hbw3.trans (hb4.mono hbw3.size)
  refine ⟨⟨s', he, hs', hbw4.trans (hb'.mono hbw4.size)⟩, ?_⟩
  have hl3 := hb3.size
  have hl4 := hb4.size
  rw [cell_below hb' _ _ (by omega), cell_below hb4 _ _ (by omega), cell_below hb3 _ _ hlt]
  exact hcell
 have ca := actChecks_any (w.alloc (.cells #[.int .i64 73, .func (.func 135) #[] #[]] 159)) 137
 clear hc1 hb1
 go_enter Tryz.func81, Tryz.ntmps81
 go_wp2_with (first | (go_at_call 136; refine ca.mono ?_; rintro e w2 ⟨bo, ⟨s2, rfl, h2, hb2⟩, hle, hlt, hcell⟩) | (go_at_call 134; refine (hcc w2 bo s2 h2 hb2 hlt hcell).mono ?_; rintro e w5 ⟨⟨s5, rfl, h5, hb5⟩, hc5⟩))
 go_ret
 exact ⟨bo, ⟨s5, rfl, h5, hb5⟩, hc5⟩
theorem messageChecks_any (w : World) : Calls Tryz.prog 85 #[] w fun e w' => ∃ bo, ChecksPost w (messageChecksL bo) e w' ∧ w'.cell? ⟨bo, 0, none⟩ = some (.func (.func 152) #[] #[]) := by
 have hb1 := below_alloc w (.cells #[.int .i64 74, .func (.func 149) #[] #[], .int .i64 73, .func (.func 150) #[] #[], .int .i64 74, .func (.func 151) #[] #[]] 159)
 have hc1 := cksV_lit w [⟨74, 149, #[]⟩, ⟨73, 150, #[]⟩, ⟨74, 151, #[]⟩] 3 rfl (by omega)
 have hcc : ∀ (w2 : World) (bo : Nat) (s2 : Sl), RowsAt w2 2 ckP s2 (actL bo) → Below (w.alloc (.cells #[.int .i64 74, .func (.func 149) #[] #[], .int .i64 73, .func (.func 150) #[] #[], .int .i64 74, .func (.func 151) #[] #[]] 159)).heap.size (w.alloc (.cells #[.int .i64 74, .func (.func 149) #[] #[], .int .i64 73, .func (.func 150) #[] #[], .int .i64 74, .func (.func 151) #[] #[]] 159)) w2 → bo < w2.heap.size → w2.cell? ⟨bo, 0, none⟩ = some (.func (.func 152) #[] #[]) →
   Calls Tryz.prog 134 #[.slice (some ⟨w2.heap.size, 0, none⟩) 2 2] (w2.alloc (.cells #[.slice (some ⟨w.heap.size, 0, none⟩) 3 3, .slice s2.a s2.n s2.c] 125)) fun e w' => ChecksPost w (messageChecksL bo) e w' ∧ w'.cell? ⟨bo, 0, none⟩ = some (.func (.func 152) #[] #[]) := by
  intro w2 bo s2 h2 hb2 hlt hcell
  have k1 := hc1.below hb2
  have k2 := cksV_of h2 (by simp [actL])
  have hbw := hb1.trans (hb2.mono hb1.size)
  have hbw3 := hbw
  have hb3 := Below.refl w2.heap.size w2
  have hb4 := below_alloc w2 (.cells #[.slice (some ⟨w.heap.size, 0, none⟩) 3 3, .slice s2.a s2.n s2.c] 125)
  have hrl := rows_lists w2 [.slice (some ⟨w.heap.size, 0, none⟩) 3 3, .slice s2.a s2.n s2.c] [[⟨74, 149, #[]⟩, ⟨73, 150, #[]⟩, ⟨74, 151, #[]⟩], actL bo] 2 rfl (by omega) (fun j x hj => by
   rcases j with _ | _ | _ | j
   ·obtain rfl := Option.some.inj hj; exact ⟨_, rfl, k1⟩
   ·obtain rfl := Option.some.inj hj; exact ⟨_, rfl, k2⟩
   ·simp at hj
   ·simp at hj)
  have hsz4 : w2.heap.size = w2.heap.size := by simp
  rw [hsz4] at hrl
  refine (concat_any _ _ _ hrl (by simp [actL]) (by simp [actL])).mono ?_
  rintro e w' ⟨s', he, hs', hb'⟩
  have hbw4 := hbw3.trans (hb4.mono hbw3.size)
  refine ⟨⟨s', he, hs', hbw4.trans (hb'.mono hbw4.size)⟩, ?_⟩
  have hl3 := hb3.size
  have hl4 := hb4.size
  rw [cell_below hb' _ _ (by omega), cell_below hb4 _ _ (by omega), cell_below hb3 _ _ hlt]
  exact hcell
 have ca := actChecks_any (w.alloc (.cells #[.int .i64 74, .func (.func 149) #[] #[], .int .i64 73, .func (.func 150) #[] #[], .int .i64 74, .func (.func 151) #[] #[]] 159)) 152
 clear hc1 hb1
 go_enter Tryz.func85, Tryz.ntmps85
 go_wp2_with (first | (go_at_call 136; refine ca.mono ?_; rintro e w2 ⟨bo, ⟨s2, rfl, h2, hb2⟩, hle, hlt, hcell⟩) | (go_at_call 134; refine (hcc w2 bo s2 h2 hb2 hlt hcell).mono ?_; rintro e w5 ⟨⟨s5, rfl, h5, hb5⟩, hc5⟩))
 go_ret
 exact ⟨bo, ⟨s5, rfl, h5, hb5⟩, hc5⟩
end Go.Proofs.YtpbnpmeigdjfdaaGreatDoor
