import Derived.Test.YtmidaeljeoifdaaGreatDoorKrt2
import Derived.Lib.AppendZeros
import Derived.Deep.DeepAppendWide
namespace Go.Proofs.YtmidaeljeoifdaaGreatDoor
set_option maxRecDepth 100000
set_option maxHeartbeats 16000000
open Go.RowKit
set_option linter.unusedVariables false
theorem info_of {P : Program} {t : TypeId} {z : Option Value} {s b : Nat} (h : (P.info? t).map (fun i => (i.zero, i.size, i.bytes)) = some (z, s, b)) : ∃ i, P.info? t = some i ∧ i.zero = z ∧ i.size = s ∧ i.bytes = b := by
 cases hi : P.info? t with
 | none => rw [hi] at h; cases h
 | some i =>
  rw [hi] at h
  simp at h
  exact ⟨i, rfl, h.1, h.2.1, h.2.2⟩
theorem infoCk : ∃ i, Tryz.prog.info? 254 = some i ∧ i.zero = some (.agg #[.int .i64 0, .nilFunc]) ∧ i.size = 2 ∧ i.bytes = 16 :=
 info_of (show (Tryz.prog.info? 254).map (fun i => (i.zero, i.size, i.bytes)) = some (some (.agg #[.int .i64 0, .nilFunc]), 2, 16) by kernel_rfl)
theorem grow_nil (n : Nat) (h1 : 1 ≤ n) (h2 : n ≤ 1000) (w : World) : Calls Tryz.prog 278 #[.slice none 0 0, I n] w fun e w' => ∃ v, e = .returned v ∧ w'.ownsRow w.heap.size 254 2 v 0 [] ∧ Below w.heap.size w w' := by
 obtain ⟨i0, hi, hz, hs, hby⟩ := infoCk
 have hr := fun ty => Lib.run_append_nil_zeros (P := Tryz.prog) w 197 3 ty 254 i0 _ .i64 .i64 Tryz.underlying197 Tryz.underlying3 hi hz n (by omega) (by omega) (by omega) (by rw [hby]; omega)
 have hG := grownCap_ge w n 0 254
 have hGm := grownCap_le_maxLen w n 0 254 (by unfold maxLen; omega)
 obtain ⟨G, hGe⟩ : ∃ G, G = grownCap w n 0 254 := ⟨_, rfl⟩
 rw [← hGe] at hr hG hGm
 have hsz : (Builtin.zeroCells (Value.agg #[.int .i64 0, .nilFunc]).cells n ++ Builtin.zeroCells (Value.agg #[.int .i64 0, .nilFunc]).cells (G - n)).size = G * 2 := by
  simp only [Array.size_append, size_zeroCells]
  show n * 2 + (G - n) * 2 = G * 2
  omega
 generalize Builtin.zeroCells (Value.agg #[.int .i64 0, .nilFunc]).cells n ++ Builtin.zeroCells (Value.agg #[.int .i64 0, .nilFunc]).cells (G - n) = Z at *
 have hfin : (w.drew.alloc (.cells Z 254)).ownsRow w.heap.size 254 2 (.slice (some ⟨w.heap.size, 0, none⟩) 0 G) 0 [] :=
  ⟨rfl, .inr ⟨w.heap.size, G, Z, rfl, Nat.le_refl _, heap_alloc_new w.drew _, Nat.zero_le _, hGm, hsz, by simp⟩⟩
 have hbl : Below w.heap.size w (w.drew.alloc (.cells Z 254)) := ⟨rfl, rfl, rfl, by simp, fun k hk => heap_alloc_old w.drew _ hk⟩
 have hG63 : (G : Int) ≤ 9223372036854775807 := by unfold maxLen at hGm; omega
 have hn0 : ¬ ((n : Int) < 0) := by omega
 have hn1 : (n : Int) > 0 := by omega
 have hw1 : wrap64 ((n : Int) - 0) = n := by unfold wrap64; omega
 clear hGe hsz hGm
 go_enter Tryz.func278, Tryz.ntmps278
 go_wp2_with (at_builtin; refine Lib.wpList_append_run _ rfl _ _ _ _ rfl _ _ rfl rfl _ _ (hr _) ?_)
 all_goals (go_ret; exact ⟨_, rfl, hfin, hbl⟩)
theorem add_row (b o i : Nat) : (⟨b, o, none⟩ : Addr).add i = ⟨b, o + i, none⟩ := by unfold Addr.add; split <;> simp_all
def CksV (w : World) (l : List Ck) (u : Value) : Prop := ∃ g off c : Nat, u = .slice (some ⟨g, off, none⟩) l.length c ∧ RowsAt w 2 ckP ⟨some ⟨g, off, none⟩, l.length, c⟩ l
theorem cksV_of {w : World} {s : Sl} {l : List Ck} (h : RowsAt w 2 ckP s l) (hne : l ≠ []) : CksV w l (.slice s.a s.n s.c) := by
 obtain ⟨x, t, rfl⟩ := List.exists_cons_of_ne_nil hne
 obtain ⟨g, off, e, _⟩ := h.row 0 x rfl
 obtain ⟨sa, sn, sc⟩ := s
 have hn : sn = _ := h.n
 obtain rfl : sa = _ := e
 subst hn
 exact ⟨g, off, sc, rfl, h⟩
theorem cks_cells {w : World} {g off c : Nat} {l : List Ck} (h : RowsAt w 2 ckP ⟨some ⟨g, off, none⟩, l.length, c⟩ l) : ∀ j u, (l.flatMap ckC)[j]? = some u → w.cell? ((⟨g, off, none⟩ : Addr).add j) = some u := by
 intro j u hj
 have hl : (l.flatMap ckC).length = l.length * 2 := by
  clear h hj
  induction l with
  | nil => rfl
  | cons y r ih => rw [List.flatMap_cons, List.length_append, ih]; simp [ckC]; omega
 have hjl := (List.getElem?_eq_some_iff.1 hj).1
 rw [hl] at hjl
 have hq : j / 2 < l.length := by omega
 obtain ⟨x, hx⟩ : ∃ x, l[j / 2]? = some x := ⟨_, List.getElem?_eq_getElem hq⟩
 obtain ⟨g', off', e', _, hr⟩ := h.row _ x hx
 cases e'
 obtain ⟨y, hy, hp⟩ := hr (j % 2) (by omega)
 have hc := ck_at l (j / 2) x hx (j % 2) (by omega)
 rw [show j / 2 * 2 + j % 2 = j by omega, hj] at hc
 rw [add_row]
 rw [show off + j = off + j / 2 * 2 + j % 2 by omega, hy]
 have h01 : j % 2 = 0 ∨ j % 2 = 1 := by omega
 rcases h01 with e0 | e0
 ·rw [e0] at hp hc
  obtain rfl : y = I x.code := hp
  exact congrArg some (Option.some.inj hc).symm
 ·rw [e0] at hp hc
  obtain rfl : y = .func (.func x.f) #[] x.caps := hp
  exact congrArg some (Option.some.inj hc).symm
theorem cks_len (l : List Ck) : (l.flatMap ckC).length = l.length * 2 := by
 induction l with
 | nil => rfl
 | cons y r ih => rw [List.flatMap_cons, List.length_append, ih]; simp [ckC]; omega
theorem cks_one (l : List Ck) : ∀ u ∈ l.flatMap ckC, u.oneCell' = true := by
 intro u hu
 obtain ⟨x, _, hx⟩ := List.mem_flatMap.1 hu
 simp [ckC] at hx
 rcases hx with rfl | rfl <;> rfl
theorem rows_of_own7 {w : World} {base : Nat} {v : Value} {l : List Ck} (h : w.ownsRow base 254 2 v l.length (l.flatMap ckC)) (hne : l ≠ []) : ∃ s : Sl, v = .slice s.a s.n s.c ∧ RowsAt w 2 ckP s l := by
 obtain ⟨hl, ⟨rfl, h0⟩ | ⟨g, cap, cur, rfl, hb1, hh, hnc, hcm, hcs, htk⟩⟩ := h
 ·exact absurd (List.eq_nil_of_length_eq_zero h0) hne
 ·refine ⟨⟨some ⟨g, 0, none⟩, l.length, cap⟩, rfl, rfl, hnc, hcm, fun j x hj => ⟨g, 0, rfl, heap_lt hh, fun i hi => ?_⟩⟩
  have hc := ck_at l j x hj i hi
  have hjl := (List.getElem?_eq_some_iff.1 hj).1
  rw [← htk, List.getElem?_take, if_pos (by omega), Array.getElem?_toList] at hc
  have h1 : w.cell? ⟨g, 0 + j * 2 + i, none⟩ = (ckC x)[i]? := by rw [Nat.zero_add, cell_of_row w g _ _ _ (0, 0) hh]; exact hc
  have h01 : i = 0 ∨ i = 1 := by omega
  rcases h01 with rfl | rfl
  ·exact ⟨_, h1, rfl⟩
  ·exact ⟨_, h1, rfl⟩
theorem flat_take {l : List (List Ck)} {j : Nat} {x : List Ck} (h : l[j]? = some x) : (l.take (j + 1)).flatten = (l.take j).flatten ++ x := by
 rw [List.take_add_one, h, Option.toList_some, List.flatten_append]
 simp
theorem flat_le (l : List (List Ck)) (j : Nat) : (l.take j).flatten.length ≤ l.flatten.length := by
 have h : l.flatten = (l.take j).flatten ++ (l.drop j).flatten := by rw [← List.flatten_append, List.take_append_drop]
 rw [h, List.length_append]
 omega
theorem concat_any (w : World) (s : Sl) (ls : List (List Ck)) (hS : RowsAt w 1 (fun x _ u => CksV w x u) s ls) (hne : ls.flatten ≠ []) (hlen : ls.flatten.length ≤ 1000) :
  Calls Tryz.prog 238 #[.slice s.a s.n s.c] w fun e w' => ChecksPost w ls.flatten e w' := by
 obtain ⟨sa, sn, sc⟩ := s
 have HN : Hid (sn = ls.length) := hS.n
 have hsc : sn ≤ sc := hS.c
 have hsm : sc ≤ maxLen := hS.m
 unfold maxLen at hsm
 have h1L : 1 ≤ ls.flatten.length := by
  rcases Nat.eq_zero_or_pos ls.flatten.length with h | h
  ·exact absurd (List.eq_nil_of_length_eq_zero h) hne
  ·exact h
 have hg := grow_nil ls.flatten.length h1L hlen w
 have hrow : Hid (∀ (j : Nat) (x : List Ck), ls[j]? = some x → ∃ g off : Nat, sa = some ⟨g, off, none⟩ ∧ g < w.heap.size ∧ ∃ gx ox cx : Nat, w.cell? ⟨g, off + j, none⟩ = some (.slice (some ⟨gx, ox, none⟩) x.length cx) ∧ RowsAt w 2 ckP ⟨some ⟨gx, ox, none⟩, x.length, cx⟩ x) := fun j x hj => by
  obtain ⟨g, off, e, hg, hr⟩ := hS.row j x hj
  obtain ⟨u, hu, gx, ox, cx, rfl, hx⟩ := hr 0 (by omega)
  exact ⟨g, off, e, hg, gx, ox, cx, by simpa using hu, hx⟩
 have hfl : Hid (∀ j, (ls.take j).flatten.length ≤ ls.flatten.length) := flat_le ls
 have HLL : Hid (ls.flatten.length ≤ 1000) := hlen
 have HNE : Hid (ls.flatten ≠ []) := hne
 clear hS
 go_enter Tryz.func238, Tryz.ntmps238
 go_wp2
 go_loopw [3, 5, 11] (fun n _ iv wr => ∃ j : Nat, j ≤ sn ∧ iv = .int .i64 j ∧ Hid (n = I ((ls.take j).flatten.length : Nat)) ∧ wr = w) (fun _ _ iv _ => sn - (intOf iv).toNat)
 case atStart => exact ⟨0, by omega, rfl, rfl, rfl⟩
 case round =>
  obtain ⟨j, hj, rfl, HJ, hww⟩ := hrel
  replace hww := hww.symm
  subst hww
  have hJ := HJ.out
  subst hJ
  by_cases hlt : j < sn
  ·have hlt' : (j : Int) < sn := by omega
   have hjl : j < ls.length := by rw [← HN.out]; exact hlt
   obtain ⟨x, hx⟩ : ∃ x, ls[j]? = some x := ⟨_, List.getElem?_eq_getElem hjl⟩
   obtain ⟨g, off, rfl, hgl, gx, ox, cx, hcell, hxr⟩ := hrow.out j x hx
   have hf := flat_take hx
   have hle := Nat.le_trans (hfl.out (j + 1)) HLL.out
   have hle0 : (ls.take j).flatten.length + x.length = (ls.take (j + 1)).flatten.length := by rw [hf, List.length_append]
   have hxm : cx ≤ maxLen := hxr.m
   have hxc : x.length ≤ cx := hxr.c
   have HQ : Hid (I ((((ls.take j).flatten.length : Nat) : Int) + ((x.length : Nat) : Int)) = I ((ls.take (j + 1)).flatten.length : Nat)) := by show _ = _; rw [← hle0]; simp
   have hq : (ls.take j).flatten.length + x.length ≤ 1000 := by omega
   have hnn : ¬ ((((ls.take j).flatten.length : Nat) : Int) + ((x.length : Nat) : Int) < 0) := by omega
   clear hf hle hle0 hxr hxm hx hrow hg hfl HJ hne hlen h1L hjl hlt hj HN HLL HNE
   generalize (ls.take j).flatten.length = q0 at *
   generalize x.length = q1 at *
   go_wp2
   go_roundw
   case rel => exact ⟨j + 1, by omega, by go_num, HQ.out, by trivial⟩
   case measure => simp [intOf]; omega
  ·obtain rfl : j = sn := by omega
   have hlt' : ¬ ((j : Nat) : Int) < (j : Nat) := by omega
   have htk : (ls.take j).flatten.length = ls.flatten.length := by rw [HN.out, List.take_length]
   rw [htk]
   clear htk HJ hlen hne h1L hj hlt
   generalize hLL : ls.flatten.length = L at hg ⊢
   have HLQ : Hid (ls.flatten.length = L) := hLL
   clear hLL
   go_wp2_with (first | (go_at_call 278; refine hg.mono ?_; rintro e w1 ⟨v0, rfl, hown, hb1⟩))
   clear hg
   go_loopw [6, 8, 27] (fun nv _ iv wr => ∃ i : Nat, i ≤ j ∧ iv = .int .i64 i ∧ Hid (wr.ownsRow w.heap.size 254 2 nv (ls.take i).flatten.length ((ls.take i).flatten.flatMap ckC) ∧ Below w.heap.size w wr)) (fun _ _ iv _ => j - (intOf iv).toNat)
   case atStart => exact ⟨0, by omega, rfl, hown, hb1⟩
   case round =>
    clear hown hb1
    obtain ⟨i, hi, rfl, HI⟩ := hrel
    obtain ⟨hown, hB⟩ := HI.out
    clear HI
    by_cases hlt2 : i < j
    ·have hlt3 : (i : Int) < j := by omega
     have hjl : i < ls.length := by rw [← HN.out]; exact hlt2
     obtain ⟨x, hx⟩ : ∃ x, ls[i]? = some x := ⟨_, List.getElem?_eq_getElem hjl⟩
     obtain ⟨g, off, rfl, hgl, gx, ox, cx, hcell, hxr⟩ := hrow.out i x hx
     have hf := flat_take hx
     have hle := Nat.le_trans (hfl.out (i + 1)) HLL.out
     have hle0 : (ls.take i).flatten.length + x.length = (ls.take (i + 1)).flatten.length := by rw [hf, List.length_append]
     have hcellr : wr.cell? ⟨g, off + i, none⟩ = some (.slice (some ⟨gx, ox, none⟩) x.length cx) := by rw [cell_below hB _ _ hgl]; exact hcell
     have hxw := cks_cells (hxr.below hB (fun _ _ _ _ h => h))
     obtain ⟨i0, hi0, hz, hs, hby⟩ := infoCk
     have HK : Hid (∀ v' w', w'.ownsRow w.heap.size 254 2 v' ((ls.take i).flatten.length + x.length) ((ls.take i).flatten.flatMap ckC ++ x.flatMap ckC) → wr.grownBy w' u6.ownBlock → w'.ownsRow w.heap.size 254 2 v' (ls.take (i + 1)).flatten.length ((ls.take (i + 1)).flatten.flatMap ckC) ∧ Below w.heap.size w w') := fun v' w' ho hg' => by
      refine ⟨?_, hB.grown hg' hB.size (fun k e => (hown.lt k e).1)⟩
      rw [hf, List.length_append, List.flatMap_append]
      exact ho
     have hq1 : (ls.take i).flatten.length + x.length ≤ 1000 := by omega
     have hxl := cks_len x
     have hx1 := cks_one x
     have hBs := hB.size
     have hxc : x.length ≤ cx := hxr.c
     clear hf hle hle0 hxr hrow hfl hcell
     go_wp2_with (at_builtin; refine wpList_append_own_wide _ rfl _ _ 197 rfl w.heap.size 254 i0 _ 2 16 Tryz.underlying197 hi0 hz hs hby rfl (by decide) u6 _ _ rfl hown ⟨gx, ox, none⟩ x.length cx _ rfl hxl hxw hx1 (by unfold maxLen; omega) (by omega) hBs ?_; intro v' w' ho hg' _)
     obtain ⟨ho2, hb2⟩ := HK.out v' w' ho hg'
     go_roundw
     case rel => exact ⟨i + 1, by omega, by go_num, ho2, hb2⟩
     case measure => simp [intOf]; omega
    ·obtain rfl : i = j := by omega
     have hlt3 : ¬ ((i : Nat) : Int) < (i : Nat) := by omega
     rw [HN.out, List.take_length] at hown
     obtain ⟨s', rfl, hs'⟩ := rows_of_own7 hown HNE.out
     have HF : Hid (RowsAt wr 2 ckP s' ls.flatten ∧ Below w.heap.size w wr) := ⟨hs', hB⟩
     clear hown hs' hB hrow hfl
     go_wp2
     go_ret
     exact ⟨s', rfl, HF.out.1, HF.out.2⟩
end Go.Proofs.YtmidaeljeoifdaaGreatDoor
