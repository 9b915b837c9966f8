import Derived.Test.YtpbnpmeigdjfdaaGreatDoorEcn
import Derived.Deep.WholeRow
namespace Go.Proofs.YtpbnpmeigdjfdaaGreatDoor.Ce
open Go.Maps Go.RowKit
set_option linter.unusedSimpArgs false
set_option linter.unusedVariables false
set_option maxHeartbeats 16000000
set_option maxRecDepth 100000
theorem cID_any (v n : Int) (w : World) : Calls Tryz.prog 161 #[I v, I n] w fun e w' => e = .returned (.bool (isId v n)) ∧ w' = w := by
 unfold isId
 by_cases h1 : 0 ≤ v <;> by_cases h2 : v < n <;> (go_enter Tryz.func161, Tryz.ntmps161; go_wp2; go_ret; exact ⟨ret_bool (by simp [h1, h2]), rfl⟩)
theorem crises_any (w : World) (s : Sl) (l : List Int) (h : RowsAt w 1 intP s l) (n : Int) : Calls Tryz.prog 160 #[.slice s.a s.n s.c, I n] w fun e w' => e = .returned (.bool (risF (-1) l n)) ∧ w' = w := by
 obtain ⟨sa, sn, sc⟩ := s
 have hn : sn = l.length := h.n
 have hc : sn ≤ sc := h.c
 have hm : sc ≤ maxLen := h.m
 dsimp only
 unfold maxLen at hm
 have HN : Hid (sn = l.length) := hn
 clear hn
 go_enter Tryz.func160, Tryz.ntmps160
 go_wp2
 go_loop [5, 7, 10] (fun a5 _ i => ∃ (j : Nat) (a : Int), j ≤ sn ∧ i = .int .i64 j ∧ a5 = .int .i64 a ∧ -1 ≤ a ∧ Hid (risF (-1) l n = risF a (l.drop j) n)) (fun _ _ i => sn - (intOf i).toNat)
 case atStart => exact ⟨0, -1, by omega, rfl, rfl, by omega, rfl⟩
 case round =>
  obtain ⟨j, a, hj, rfl, rfl, ha, HR⟩ := hrel
  by_cases hlt : j < sn
  ·have hlt' : (j : Int) < sn := by omega
   have hjl : j < l.length := by rw [← HN.out]; exact hlt
   obtain ⟨x, hx⟩ : ∃ x, l[j]? = some x := ⟨l[j], List.getElem?_eq_getElem hjl⟩
   obtain ⟨g, off, e, hg, hcx⟩ := ints_at h hx
   dsimp only at e
   subst e
   have HD : Hid (l.drop j = x :: l.drop (j + 1)) := by
    show _ = _
    rw [List.drop_eq_getElem_cons hjl]
    rw [List.getElem?_eq_getElem hjl] at hx
    cases hx
    rfl
   have HE : Hid (risF (-1) l n = (isId x n && decide (a < x) && risF x (l.drop (j + 1)) n)) := by show _ = _; rw [HR.out, HD.out, risF]
   clear hx hjl
   by_cases hax : x ≤ a
   ·have HE2 : Hid (risF (-1) l n = false) := by show _ = _; rw [HE.out, decide_eq_false (by omega)]; simp
    go_wp2
    go_ret
    exact ⟨ret_bool HE2.out.symm, rfl⟩
   ·by_cases hxn : x ≥ n
    ·have HE2 : Hid (risF (-1) l n = false) := by show _ = _; rw [HE.out, show isId x n = false by simp [isId]; omega]; rfl
     go_wp2
     go_ret
     exact ⟨ret_bool HE2.out.symm, rfl⟩
    ·have HE2 : Hid (risF (-1) l n = risF x (l.drop (j + 1)) n) := by show _ = _; rw [HE.out, decide_eq_true (by omega), show isId x n = true by simp [isId]; omega]; rfl
     go_wp2
     go_round
     case rel => exact ⟨j + 1, x, by omega, by go_num, rfl, by omega, HE2⟩
     case measure => simp [intOf]; omega
  ·obtain rfl : j = sn := by omega
   have hlt' : ¬ (j : Int) < j := by omega
   have HE2 : Hid (risF (-1) l n = true) := by show _ = _; rw [HR.out, List.drop_eq_nil_of_le (by rw [← HN.out]; exact Nat.le_refl _), risF]
   go_wp2
   go_ret
   exact ⟨ret_bool HE2.out.symm, rfl⟩
def lmB (n : Nat) (x : Rs) : Bool := x.kind == 1 || x.kind == 3 || (x.kind == 2 && isId x.link n)
theorem linksMeet_any (w : World) (c : Cf) (v : Vs) (h : CfAt w c v) : Calls Tryz.prog 99 #[.slice v.r.a v.r.n v.r.c] w fun e w' => Ans w (c.ress.all (lmB c.ress.length)) e w' := by
 have HN : Hid (v.r.n = c.ress.length) := h.r.n
 have HH : Hid (CfAt w c v) := h
 have hc : v.r.n ≤ v.r.c := h.r.c
 have hm : v.r.c ≤ maxLen := h.r.m
 unfold maxLen at hm
 obtain ⟨R, hR⟩ : ∃ R, R = c.ress.all (lmB c.ress.length) := ⟨_, rfl⟩
 rw [← hR]
 have HR : Hid (R = c.ress.all (lmB c.ress.length)) := hR
 clear hR h
 go_enter Tryz.func99, Tryz.ntmps99
 go_wp2
 go_loopw [4, 7] (fun _ iv wr => ∃ j : Nat, j ≤ v.r.n ∧ iv = .int .i64 j ∧ Hid (Below w.heap.size w wr ∧ (c.ress.take j).all (lmB c.ress.length) = true)) (fun _ iv _ => v.r.n - (intOf iv).toNat)
 case atStart => exact ⟨0, by omega, rfl, Below.refl _ _, by simp⟩
 case round =>
  obtain ⟨j, hj, rfl, HJ⟩ := hrel
  have hbr := HJ.out.1
  by_cases hlt : j < v.r.n
  ·have hlt' : (j : Int) < v.r.n := by omega
   obtain ⟨x, hx⟩ : ∃ x, c.ress[j]? = some x := ⟨_, List.getElem?_eq_getElem (by rw [← HN.out]; exact hlt)⟩
   obtain ⟨g, off, e, hg, a0, a1, a2⟩ := rs_at (HH.out.below hbr) hx
   have hng : g ≠ wr.heap.size := Nat.ne_of_lt hg
   have HT : Hid ((c.ress.take (j + 1)).all (lmB c.ress.length) = lmB c.ress.length x) := by show _ = _; rw [all_take _ _ j x hx, HJ.out.2, Bool.true_and]
   have HF : Hid (lmB c.ress.length x = false → R = false) := fun hf => by
    rw [HR.out]
    rw [List.all_eq_false]
    exact ⟨x, List.mem_of_getElem? hx, by rw [hf]; decide⟩
   have HL : Hid (lmB c.ress.length x = (x.kind == 1 || x.kind == 3 || (x.kind == 2 && isId x.link v.r.n))) := by show _ = _; rw [HN.out]; rfl
   have hst : (storeCells ⟨wr.heap.size, 0, none⟩ [S x.name, I x.kind, I x.link] 0).run Tryz.prog (wr.alloc (.cells #[.string ⟨#[]⟩, .int .i64 0, .int .i64 0] 82)) = .ok () (wr.alloc (.cells #[S x.name, I x.kind, I x.link] 82)) :=
    run_storeCells_new (P := Tryz.prog) wr 82 #[.string ⟨#[]⟩, .int .i64 0, .int .i64 0] #[S x.name, I x.kind, I x.link] (by kernel_rfl) rfl (by simp [Value.oneCell'])
   have Hal : Hid (∀ o, Below w.heap.size w (wr.alloc o)) := fun o => hbr.trans ((below_alloc wr o).mono hbr.size)
   rw [e]
   clear hx hbr HR
   generalize lmB c.ress.length x = B at *
   have c1 := cID_any x.link v.r.n
   have hsp : (x.kind == 1) = true ∨ ((x.kind == 1) = false ∧ (x.kind == 3) = true) ∨ ((x.kind == 1) = false ∧ (x.kind == 3) = false ∧ (x.kind == 2) = false) ∨ ((x.kind == 1) = false ∧ (x.kind == 3) = false ∧ (x.kind == 2) = true) := by
    cases x.kind == 1 <;> cases x.kind == 3 <;> cases x.kind == 2 <;> simp
   rcases hsp with k1 | ⟨k1, k3⟩ | ⟨k1, k3, k2⟩ | ⟨k1, k3, k2⟩
   ·have HT2 : Hid ((c.ress.take (j + 1)).all (lmB c.ress.length) = true) := by show _ = _; rw [HT.out, HL.out, k1]; rfl
    clear HT HL HF c1
    go_wp2
    go_roundw
    case rel => exact ⟨j + 1, by omega, by go_num, Hal.out _, HT2.out⟩
    case measure => simp [intOf]; omega
   ·have HT2 : Hid ((c.ress.take (j + 1)).all (lmB c.ress.length) = true) := by show _ = _; rw [HT.out, HL.out, k1, k3]; rfl
    clear HT HL HF c1
    go_wp2
    go_roundw
    case rel => exact ⟨j + 1, by omega, by go_num, Hal.out _, HT2.out⟩
    case measure => simp [intOf]; omega
   ·have HE : Hid (R = false) := HF.out (by rw [HL.out, k1, k3, k2]; rfl)
    clear HT HL HF c1
    go_wp2
    go_ret
    exact ⟨ret_bool HE.out.symm, Hal.out _⟩
   ·have HB : Hid (B = isId x.link v.r.n) := by show _ = _; rw [HL.out, k1, k3, k2]; rfl
    generalize isId x.link v.r.n = bi at *
    cases bi with
    | true =>
     have HT2 : Hid ((c.ress.take (j + 1)).all (lmB c.ress.length) = true) := by show _ = _; rw [HT.out, HB.out]
     clear HT HL HF HB
     go_wp2_with (go_at_call 161; refine (c1 _).mono ?_; clear c1; rintro e w' ⟨rfl, rfl⟩)
     go_roundw
     case rel => exact ⟨j + 1, by omega, by go_num, Hal.out _, HT2.out⟩
     case measure => simp [intOf]; omega
    | false =>
     have HE : Hid (R = false) := HF.out HB.out
     clear HT HL HF HB
     go_wp2_with (go_at_call 161; refine (c1 _).mono ?_; clear c1; rintro e w' ⟨rfl, rfl⟩)
     go_ret
     exact ⟨ret_bool HE.out.symm, Hal.out _⟩
  ·obtain rfl : j = v.r.n := by omega
   have hlt' : ¬ ((v.r.n : Nat) : Int) < (v.r.n : Nat) := by omega
   have HE : Hid (R = true) := by show _ = _; rw [HR.out, ← HJ.out.2, List.take_of_length_le (by rw [HN.out]; exact Nat.le_refl _)]
   clear HR
   go_wp2
   go_ret
   exact ⟨ret_bool HE.out.symm, hbr⟩
def takenL (c : Cf) (l : List Int) : List Int := l.filter (fun x => rkind c x != 3)
theorem takenL_snoc (c : Cf) (l : List Int) (j : Nat) (x : Int) (hx : l[j]? = some x) : takenL c (l.take (j + 1)) = takenL c (l.take j) ++ (if (rkind c x != 3) = true then [x] else []) := by
 unfold takenL
 rw [List.take_add_one, hx, Option.toList_some, List.filter_append]
 congr 1
 simp only [List.filter_cons, List.filter_nil]
def TakPost (w : World) (l : List Int) (e : Ending) (w' : World) : Prop := ∃ u, e = .returned u ∧ w'.ownsRow (w.heap.size + 1) 3 1 u l.length (l.map fun x => I x) ∧ Below w.heap.size w w'
theorem taken_any (w : World) (c : Cf) (v : Vs) (h : CfAt w c v) (s : Sl) (l : List Int) (hl : RowsAt w 1 intP s l) (hid : ∀ x ∈ l, isId x c.ress.length = true) (hlen : l.length ≤ 8796093022208) :
  Calls Tryz.prog 108 #[.agg (cfC c v), .slice s.a s.n s.c] w fun e w' => TakPost w (takenL c l) e w' := by
 obtain ⟨i0, hi0, hz0, hz1, hz2⟩ := info_parts Tryz.infoInt
 have HN : Hid (v.r.n = c.ress.length) := h.r.n
 have HS : Hid (s.n = l.length) := hl.n
 have hsc : s.n ≤ s.c := hl.c
 have hsm : s.c ≤ maxLen := hl.m
 unfold maxLen at hsm
 have hsl : s.n ≤ 8796093022208 := by have := hl.n; omega
 have hb := below_alloc w
 have hV0 := heap_alloc_new w (.cells (cfC c v) 33)
 have hcv : ∀ W : World, W.heap[w.heap.size]? = some (.cells (cfC c v) 33 (0, 0)) → W.cell? ⟨w.heap.size, 12, none⟩ = some (.slice v.r.a v.r.n v.r.c) := fun W hW => by
  obtain ⟨_, h10, h11, h12, h13, h14, h15, h16, h17⟩ := var18_all hW
  exact h12
 have HID : Hid (∀ x ∈ l, isId x c.ress.length = true) := hid
 generalize cfC c v = C at *
 have hs1 : (w.alloc (.cells C 33)).heap.size = w.heap.size + 1 := by simp
 have hbw := hb (.cells C 33)
 have HF : Hid (∀ W, Below (w.heap.size + 1) (w.alloc (.cells C 33)) W → W.cell? ⟨w.heap.size, 12, none⟩ = some (.slice v.r.a v.r.n v.r.c) ∧ CfAt W c v ∧ RowsAt W 1 intP s l ∧ Below w.heap.size w W ∧ w.heap.size + 1 ≤ W.heap.size) := fun W hW => by
  have hs := hW.size
  have hbW := hbw.trans (hW.mono (by omega))
  exact ⟨hcv W ((hW.block _ (by omega)).trans hV0), h.below hbW, hl.below hbW (fun _ _ _ _ h => h), hbW, by omega⟩
 clear hb hV0 hcv h hl hbw hid
 go_enter Tryz.func108, Tryz.ntmps108
 go_wp2
 go_loopw [5, 7, 10] (fun lv _ iv wr => ∃ j : Nat, j ≤ s.n ∧ iv = .int .i64 j ∧ Hid (wr.ownsRow (w.heap.size + 1) 3 1 lv (takenL c (l.take j)).length ((takenL c (l.take j)).map fun x => I x) ∧ Below (w.heap.size + 1) (w.alloc (.cells C 33)) wr)) (fun _ _ iv _ => s.n - (intOf iv).toNat)
 case atStart => exact ⟨0, by omega, rfl, World.ownsRow_nil _ _ _ _, Below.refl _ _⟩
 case round =>
  obtain ⟨j, hj, rfl, HJ⟩ := hrel
  obtain ⟨hO, hB⟩ := HJ.out
  obtain ⟨c12, hCf, hl, hbr, hsw⟩ := HF.out _ hB
  by_cases hlt : j < s.n
  ·have hlt' : (j : Int) < s.n := by omega
   obtain ⟨x, hx⟩ : ∃ x, l[j]? = some x := ⟨_, List.getElem?_eq_getElem (by rw [← HS.out]; exact hlt)⟩
   have hbd : 0 ≤ x ∧ x < v.r.n := by have := HID.out x (List.mem_of_getElem? hx); rw [← HN.out] at this; simpa [isId] using this
   obtain ⟨g5, o5, e5, hg5, b5⟩ := ints_at hl hx
   obtain ⟨rn, rfl⟩ := Int.eq_ofNat_of_zero_le hbd.1
   have hrn : (rn : Int) < v.r.n := hbd.2
   obtain ⟨y, hy⟩ : ∃ y, c.ress[rn]? = some y := ⟨_, List.getElem?_eq_getElem (by have := HN.out; omega)⟩
   obtain ⟨gr, og, er, hgr, d0, d1, d2⟩ := rs_at hCf hy
   have HT : Hid (takenL c (l.take (j + 1)) = takenL c (l.take j) ++ (if (y.kind != 3) = true then [(rn : Int)] else [])) := by show _ = _; rw [takenL_snoc c l j _ hx, rkind_at hy]
   have HTL : Hid ((takenL c (l.take j)).length ≤ j) := Nat.le_trans (List.length_filter_le _ _) (by rw [List.length_take]; omega)
   have hO2 := hO.alloc (.cells #[I (rn : Int)] 3)
   have HB : Hid (Below (w.heap.size + 1) (w.alloc (.cells C 33)) wr) := hB
   rw [e5]
   rw [er] at c12
   have HOj := hO
   clear hx hbd e5 er hy hCf hl hbr hB HJ HF d0 d2
   cases hk : y.kind != 3 with
   | false =>
    have HT2 : Hid (takenL c (l.take (j + 1)) = takenL c (l.take j)) := by show _ = _; rw [HT.out, hk]; simp
    have HO : Hid (wr.ownsRow (w.heap.size + 1) 3 1 u5 (takenL c (l.take (j + 1))).length ((takenL c (l.take (j + 1))).map fun x => I x)) := by rw [HT2.out]; exact HOj
    clear HT HOj hO hO2
    go_wp2
    go_roundw
    case rel => exact ⟨j + 1, by omega, by go_num, HO.out, HB.out⟩
    case measure => simp [intOf]; omega
   | true =>
    have HT2 : Hid (takenL c (l.take (j + 1)) = takenL c (l.take j) ++ [(rn : Int)]) := by show _ = _; rw [HT.out, hk]; simp
    have hlj := HTL.out
    clear HT
    go_wp2_with (at_builtin; refine wpList_append_own _ rfl (.tmp 21) (.tmp 23) 64 rfl (w.heap.size + 1) 3 i0 (.int .i64 0) 1 8 Tryz.underlying64 hi0 hz0 hz1 hz2 rfl (by decide) _ _ _ rfl hO2 ⟨wr.heap.size, 0, none⟩ 1 1 [I (rn : Int)] rfl rfl (cell_one_new _ _ _) (by intro u hu; simp at hu; subst hu; rfl) (by unfold maxLen; omega) (by omega) (by simp; omega) ?_)
    intro v6 w6 ho6 hg6 _
    have HB6 : Hid (Below (w.heap.size + 1) (w.alloc (.cells C 33)) w6) := by
     have b1 := HB.out.trans ((below_alloc wr (.cells #[I (rn : Int)] 3)).mono hsw)
     exact b1.grown hg6 (by simp; omega) (fun k e => (HOj.lt k e).1)
    have HO6 : Hid (w6.ownsRow (w.heap.size + 1) 3 1 v6 (takenL c (l.take (j + 1))).length ((takenL c (l.take (j + 1))).map fun x => I x)) := by
     rw [HT2.out, List.length_append, List.map_append]
     exact ho6
    clear ho6 hg6 hO hO2 HB HOj hlj
    go_wp2
    go_roundw
    case rel => exact ⟨j + 1, by omega, by go_num, HO6.out, HB6.out⟩
    case measure => simp [intOf]; omega
  ·obtain rfl : j = s.n := by omega
   have hlt' : ¬ ((s.n : Nat) : Int) < (s.n : Nat) := by omega
   have HO : Hid (wr.ownsRow (w.heap.size + 1) 3 1 u5 (takenL c l).length ((takenL c l).map fun x => I x)) := by
    have := hO
    rw [List.take_of_length_le (by rw [HS.out]; exact Nat.le_refl _)] at this
    exact this
   clear hO HJ hB hCf hl HF
   go_wp2
   go_ret
   exact ⟨_, rfl, HO.out, hbr⟩
def endsB (c : Cf) : Bool := (List.range c.ress.length).all (fun i => decide (0 ≤ rootN c (i : Int)))
theorem endsB_of {c : Cf} (h : ∀ i, i < c.ress.length → 0 ≤ rootN c (i : Int)) : endsB c = true := by
 unfold endsB
 rw [List.all_eq_true]
 intro i hi
 simpa using h i (List.mem_range.1 hi)
theorem endsB_not {c : Cf} {i : Nat} (hi : i < c.ress.length) (h : rootN c (i : Int) = -1) : endsB c = false := by
 unfold endsB
 rw [List.all_eq_false]
 exact ⟨i, List.mem_range.2 hi, by rw [h]; decide⟩
theorem endsB_at {c : Cf} (h : endsB c = true) {i : Nat} (hi : i < c.ress.length) : 0 ≤ rootN c (i : Int) := by
 unfold endsB at h
 simpa using List.all_eq_true.1 h i (List.mem_range.2 hi)
def EndsAt (w : World) (b : Nat) (c : Cf) : Prop := ∃ ks, MapOf w b c.ress.length ks (fun k => rootN c k) ∧ ∀ i, i < c.ress.length → i ∈ ks
theorem EndsAt.below {w w' : World} {b : Nat} {c : Cf} (h : EndsAt w b c) (hb : Below w.heap.size w w') : EndsAt w' b c := by
 obtain ⟨ks, h1, h2⟩ := h
 exact ⟨ks, h1.below hb, h2⟩
theorem EndsAt.kept {w w' : World} {b : Nat} {c : Cf} {row : Option Nat} (h : EndsAt w b c) (hg : w.grownBy w' row) (hne : some b ≠ row) : EndsAt w' b c := by
 obtain ⟨ks, h1, h2⟩ := h
 exact ⟨ks, h1.kept hg hne, h2⟩
def EndsPost (c : Cf) (w : World) (e : Ending) (w' : World) : Prop := Below w.heap.size w w' ∧ (if endsB c = true then ∃ b, e = .returned (.tuple #[.map (some b), .bool true]) ∧ w.heap.size ≤ b ∧ EndsAt w' b c else e = .returned (.tuple #[.map none, .bool false]))
theorem endsOf_any (w : World) (c : Cf) (v : Vs) (h : CfAt w c v) (hn : c.ress.length ≤ 8796093022208) (hlk : ∀ x ∈ c.ress, x.kind = 2 → isId x.link c.ress.length = true) :
  Calls Tryz.prog 100 #[.slice v.r.a v.r.n v.r.c] w fun e w' => EndsPost c w e w' := by
 have hmm := @run_makeMap Tryz.prog
 have HN : Hid (v.r.n = c.ress.length) := h.r.n
 have HH : Hid (CfAt w c v) := h
 have hc : v.r.n ≤ v.r.c := h.r.c
 have hm : v.r.c ≤ maxLen := h.r.m
 unfold maxLen at hm
 have HM0 : Hid (MapOf (w.alloc (.map #[] 0)) w.heap.size c.ress.length [] (fun k => rootN c k)) := MapOf.made w c.ress.length _
 have HB0 : Hid (Below w.heap.size w (w.alloc (.map #[] 0))) := below_alloc w _
 have HL : Hid (∀ x ∈ c.ress, x.kind = 2 → isId x.link c.ress.length = true) := hlk
 clear h hlk
 go_enter Tryz.func100, Tryz.ntmps100
 go_wp2
 clear hmm
 go_loopw [5, 9] (fun _ iv wr => ∃ (j : Nat) (ks : List Nat), j ≤ v.r.n ∧ iv = .int .i64 j ∧ Hid (MapOf wr w.heap.size c.ress.length ks (fun k => rootN c k) ∧ (∀ k ∈ ks, 0 ≤ rootN c k) ∧ (∀ i, i < j → i ∈ ks) ∧ Below w.heap.size w wr)) (fun _ iv _ => v.r.n - (intOf iv).toNat)
 case atStart => exact ⟨0, [], by omega, rfl, HM0.out, (fun k hk => by cases hk), (fun i hi => absurd hi (Nat.not_lt_zero _)), HB0.out⟩
 case round =>
  clear HM0 HB0
  obtain ⟨j, ks, hj, rfl, HJ⟩ := hrel
  by_cases hlt : j < v.r.n
  ·have hlt' : (j : Int) < v.r.n := by omega
   have hjn : j < c.ress.length := by rw [← HN.out]; exact hlt
   have kf := find_any wr c v (HH.out.below HJ.out.2.2.2) hn HL.out w.heap.size ks HJ.out.1 HJ.out.2.1 j hjn
   obtain ⟨r, hr⟩ : ∃ r, r = rootN c (j : Int) := ⟨_, rfl⟩
   have Hr : Hid (r = rootN c (j : Int)) := hr
   have HK : Hid (∀ w', wr.grownBy w' (some w.heap.size) → Below w.heap.size w w') := fun w' hg => HJ.out.2.2.2.grown hg HJ.out.2.2.2.size (fun k e => by cases e; exact Nat.le_refl _)
   unfold FindPost at kf
   rw [← hr] at kf
   clear hr
   cases h1 : r == -1 with
   | true =>
    have HE : Hid (endsB c = false) := endsB_not hjn (by rw [← Hr.out]; simpa using h1)
    go_wp2_with (go_at_call 162; refine kf.mono ?_; clear kf; rintro e w1 ⟨rfl, hg1, _, _⟩)
    go_ret2
    refine ⟨HK.out _ hg1, ?_⟩
    rw [HE.out, if_neg (by decide)]
    rfl
   | false =>
    have hr0 : 0 ≤ rootN c (j : Int) := by
     rcases root_range c (j : Int) with h2 | h2
     ·rw [← Hr.out] at h2; rw [h2] at h1; cases h1
     ·exact h2.1
    have Hr0 : Hid (0 ≤ rootN c (j : Int)) := hr0
    clear hr0
    go_wp2_with (go_at_call 162; refine kf.mono ?_; clear kf; rintro e w1 ⟨rfl, hg1, _, ks', hm1, hj1, hsub, hnew⟩)
    have HJ2 : Hid (MapOf w1 w.heap.size c.ress.length ks' (fun k => rootN c k) ∧ (∀ k ∈ ks', 0 ≤ rootN c k) ∧ (∀ i, i < j + 1 → i ∈ ks') ∧ Below w.heap.size w w1) := ⟨hm1, fun k hk => by
      rcases hnew k hk with h2 | h2
      ·exact HJ.out.2.1 k h2
      ·rw [h2, Hr.out]; exact Hr0.out, fun i hi => by
      by_cases hij : i = j
      ·rw [hij]; exact hj1
      ·exact hsub i (HJ.out.2.2.1 i (by omega)), HK.out _ hg1⟩
    clear hg1 hm1 hj1 hsub hnew HJ
    go_roundw
    case rel => exact ⟨j + 1, ks', by omega, by go_num, HJ2.out⟩
    case measure => simp [intOf]; omega
  ·obtain rfl : j = v.r.n := by omega
   have hlt' : ¬ ((v.r.n : Nat) : Int) < (v.r.n : Nat) := by omega
   have HE : Hid (endsB c = true) := endsB_of (fun i hi => HJ.out.2.1 i (HJ.out.2.2.1 i (by rw [HN.out]; exact hi)))
   go_wp2
   go_ret2
   refine ⟨HJ.out.2.2.2, ?_⟩
   rw [HE.out, if_pos rfl]
   exact ⟨w.heap.size, rfl, Nat.le_refl _, ks, HJ.out.1, fun i hi => HJ.out.2.2.1 i (by rw [HN.out]; exact hi)⟩
theorem wpList_find_g {w : World} {ops : Array Oper} {rest : List Oper} {o : Oper} {a : Act} {Q : Exit → Act → World → Prop} (m x : Operand) (t : TypeId) (hop : o.op = Op.lookup t m x false) (ht : Tryz.prog.underlying t = some (.map 3 3)) (b : Nat) (c : Cf)
  (hm : a.eval m = .map (some b)) (h : EndsAt w b c) (hn : c.ress.length ≤ 8796093022208) (j : Nat) (hj : j < c.ress.length) (hx : a.eval x = .int .i64 (j : Int)) (hgd : Region.wanted o (yielded ops a.tmps) = true)
  (hK : ∀ e : Int, Hid (e = rootN c (j : Int)) → wpList Tryz.prog ops Q rest (a.put o.dst (.int .i64 e)) w) : wpList Tryz.prog ops Q (o :: rest) a w := by
 obtain ⟨ks, hM, hall⟩ := h
 obtain ⟨D, hD, hs, h2⟩ := hM.ex
 refine wpList_step fun K hKK => ?_
 rw [if_pos hgd]
 obtain ⟨e, hrun, hat, _⟩ := hD.lookup_int keyI ht Tryz.underlying3 (zeroI w) (keyOf_int_mk Tryz.underlying3 (wf_nat (j := j) (by omega)))
 rw [(h2 j).2, if_pos (hall j hj)] at hat
 have he : e = rootN c (j : Int) := by cases hat; rfl
 unfold Oper.wp
 simp [execOp, hop, hm, hx, hrun, Result.andThen]
 exact hKK _ _ (hK e he)
def lfB (c : Cf) (i : Nat) : Bool := !(rkind c (i : Int) == 2 && rkind c (rootN c (i : Int)) == 3)
def linksB (c : Cf) : Bool := (List.range c.ress.length).all (lfB c)
theorem range_take {n j : Nat} (hj : j < n) (p : Nat → Bool) : ((List.range n).take (j + 1)).all p = (((List.range n).take j).all p && p j) := all_take p _ j j (by rw [List.getElem?_range hj])
theorem linksFit_any (w : World) (c : Cf) (v : Vs) (h : CfAt w c v) (hn : c.ress.length ≤ 8796093022208) (b : Nat) (hE : EndsAt w b c) (hends : endsB c = true) :
  Calls Tryz.prog 101 #[.slice v.r.a v.r.n v.r.c, .map (some b)] w fun e w' => Ans w (linksB c) e w' := by
 have HN : Hid (v.r.n = c.ress.length) := h.r.n
 have HH : Hid (CfAt w c v) := h
 have HE : Hid (EndsAt w b c) := hE
 have HNB : Hid (endsB c = true) := hends
 have hc : v.r.n ≤ v.r.c := h.r.c
 have hm : v.r.c ≤ maxLen := h.r.m
 unfold maxLen at hm
 obtain ⟨R, hR⟩ : ∃ R, R = linksB c := ⟨_, rfl⟩
 rw [← hR]
 have HR : Hid (R = linksB c) := hR
 clear hR h hE hends
 go_enter Tryz.func101, Tryz.ntmps101
 go_wp2
 go_loopw [5, 6, 9] (fun _ _ iv wr => ∃ j : Nat, j ≤ v.r.n ∧ iv = .int .i64 j ∧ Hid (Below w.heap.size w wr ∧ ((List.range c.ress.length).take j).all (lfB c) = true)) (fun _ _ iv _ => v.r.n - (intOf iv).toNat)
 case atStart => exact ⟨0, by omega, rfl, Below.refl _ _, by simp⟩
 case round =>
  obtain ⟨j, hj, rfl, HJ⟩ := hrel
  have hbr := HJ.out.1
  by_cases hlt : j < v.r.n
  ·have hlt' : (j : Int) < v.r.n := by omega
   have hjn : j < c.ress.length := by rw [← HN.out]; exact hlt
   obtain ⟨x, hx⟩ : ∃ x, c.ress[j]? = some x := ⟨_, List.getElem?_eq_getElem hjn⟩
   obtain ⟨g, off, e, hg, a0, a1, a2⟩ := rs_at (HH.out.below hbr) hx
   have hng : g ≠ wr.heap.size := Nat.ne_of_lt hg
   have hr0 := endsB_at HNB.out hjn
   have hrl := rootF_lt c c.ress.length (j : Int)
   obtain ⟨q, hq⟩ := Int.eq_ofNat_of_zero_le hr0
   have hqn : (q : Int) < v.r.n := by have : rootN c (j : Int) < c.ress.length := hrl; have := HN.out; omega
   have hql : q < c.ress.length := by have := HN.out; omega
   obtain ⟨y, hy⟩ : ∃ y, c.ress[q]? = some y := ⟨_, List.getElem?_eq_getElem hql⟩
   obtain ⟨g', off', e', hg', b0, b1, b2⟩ := rs_at (HH.out.below hbr) hy
   rw [e] at e'
   obtain ⟨rfl, rfl⟩ : g = g' ∧ off = off' := by cases e'; exact ⟨rfl, rfl⟩
   have HB : Hid (lfB c j = !(x.kind == 2 && y.kind == 3)) := by show _ = _; unfold lfB; rw [rkind_at hx, hq, rkind_at hy]
   have HT : Hid (((List.range c.ress.length).take (j + 1)).all (lfB c) = lfB c j) := by show _ = _; rw [range_take hjn, HJ.out.2, Bool.true_and]
   have HF : Hid (lfB c j = false → R = false) := fun hf => by
    rw [HR.out, linksB, List.all_eq_false]
    exact ⟨j, List.mem_range.2 hjn, by rw [hf]; decide⟩
   have hst : (storeCells ⟨wr.heap.size, 0, none⟩ [S x.name, I x.kind, I x.link] 0).run Tryz.prog (wr.alloc (.cells #[.string ⟨#[]⟩, .int .i64 0, .int .i64 0] 82)) = .ok () (wr.alloc (.cells #[S x.name, I x.kind, I x.link] 82)) :=
    run_storeCells_new (P := Tryz.prog) wr 82 #[.string ⟨#[]⟩, .int .i64 0, .int .i64 0] #[S x.name, I x.kind, I x.link] (by kernel_rfl) rfl (by simp [Value.oneCell'])
   have Hal : Hid (∀ o, Below w.heap.size w (wr.alloc o)) := fun o => hbr.trans ((below_alloc wr o).mono hbr.size)
   have hEn : EndsAt (wr.alloc (.cells #[S x.name, I x.kind, I x.link] 82)) b c := HE.out.below (Hal.out _)
   have Hq : Hid (rootN c (j : Int) = (q : Int)) := hq
   rw [e]
   clear hx hbr HR e' hy hr0 hrl hq b0 b2
   generalize lfB c j = B at *
   cases hk : x.kind == 2 with
   | false =>
    have HT2 : Hid (((List.range c.ress.length).take (j + 1)).all (lfB c) = true) := by show _ = _; rw [HT.out, HB.out, hk]; rfl
    clear HT HB HF
    go_wp2
    go_roundw
    case rel => exact ⟨j + 1, by omega, by go_num, Hal.out _, HT2.out⟩
    case measure => simp [intOf]; omega
   | true =>
    cases hk3 : y.kind == 3 with
    | true =>
     have HE1 : Hid (R = false) := HF.out (by rw [HB.out, hk, hk3]; rfl)
     clear HT HB HF
     go_wp2_with (at_lookup; refine wpList_find_g _ _ 132 rfl Tryz.underlying132 b c rfl hEn hn j hjn rfl (by kernel_rfl) ?_; intro e7 HX7; have h7 := HX7.out; rw [Hq.out] at h7; subst h7)
     go_ret
     exact ⟨ret_bool HE1.out.symm, Hal.out _⟩
    | false =>
     have HT2 : Hid (((List.range c.ress.length).take (j + 1)).all (lfB c) = true) := by show _ = _; rw [HT.out, HB.out, hk, hk3]; rfl
     clear HT HB HF
     go_wp2_with (at_lookup; refine wpList_find_g _ _ 132 rfl Tryz.underlying132 b c rfl hEn hn j hjn rfl (by kernel_rfl) ?_; intro e7 HX7; have h7 := HX7.out; rw [Hq.out] at h7; subst h7)
     go_roundw
     case rel => exact ⟨j + 1, by omega, by go_num, Hal.out _, HT2.out⟩
     case measure => simp [intOf]; omega
  ·obtain rfl : j = v.r.n := by omega
   have hlt' : ¬ ((v.r.n : Nat) : Int) < (v.r.n : Nat) := by omega
   have HE1 : Hid (R = true) := by show _ = _; rw [HR.out, linksB, ← HJ.out.2, List.take_of_length_le (by rw [List.length_range, HN.out]; exact Nat.le_refl _)]
   clear HR
   go_wp2
   go_ret
   exact ⟨ret_bool HE1.out.symm, hbr⟩
end Go.Proofs.YtpbnpmeigdjfdaaGreatDoor.Ce
