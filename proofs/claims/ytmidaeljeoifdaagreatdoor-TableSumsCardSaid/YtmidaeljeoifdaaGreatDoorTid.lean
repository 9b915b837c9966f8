import Derived.Test.YtmidaeljeoifdaaGreatDoorThc
import Derived.Test.YtmidaeljeoifdaaGreatDoorKat
namespace Go.Proofs.YtmidaeljeoifdaaGreatDoor
open Go.RowKit Go.Shelf Go.Sort Go.Maps
set_option linter.unusedVariables false
set_option linter.unusedSimpArgs false
set_option maxHeartbeats 8000000
set_option maxRecDepth 100000
theorem or_u32 (a b : Nat) (ha : a < 4294967296) (hb : b < 4294967296) : bits .or .u32 (a : Int) (b : Int) = ((a ||| b : Nat) : Int) := by
 have h1 : a ||| b < 4294967296 := Nat.or_lt_two_pow (n := 32) ha hb
 show IntKind.u32.wrap ((BitVec.ofInt 32 (a : Int) ||| BitVec.ofInt 32 (b : Int)).toNat : Int) = _
 have e1 : (BitVec.ofInt 32 (a : Int) ||| BitVec.ofInt 32 (b : Int)).toNat = a ||| b := by
  rw [BitVec.toNat_or, BitVec.ofInt_natCast, BitVec.ofInt_natCast, BitVec.toNat_ofNat, BitVec.toNat_ofNat, Nat.mod_eq_of_lt (by omega), Nat.mod_eq_of_lt (by omega)]
 rw [e1]
 generalize a ||| b = y at *
 rw [IntKind.wrap_u32]
 omega
def evM (c : Cf) (id : Int) : Nat := match c.evs[id.toNat]? with | some x => x.mask | none => 0
def maskN (c : Cf) (l : List Int) : Nat := l.foldl (fun m id => m ||| evM c id) 0
theorem maskN_snoc (c : Cf) (l : List Int) (x : Int) : maskN c (l ++ [x]) = maskN c l ||| evM c x := by simp [maskN]
theorem evM_lt {c : Cf} (hM : ∀ x ∈ c.evs, x.mask < 4294967296) (id : Int) : evM c id < 4294967296 := by
 unfold evM
 split
 ·rename_i x hx
  exact hM x (List.mem_of_getElem? hx)
 ·decide
theorem maskN_lt {c : Cf} (hM : ∀ x ∈ c.evs, x.mask < 4294967296) (l : List Int) : maskN c l < 4294967296 := by
 unfold maskN
 suffices h : ∀ (l : List Int) (a : Nat), a < 4294967296 → l.foldl (fun m id => m ||| evM c id) a < 4294967296 from h l 0 (by decide)
 intro l
 induction l with
 | nil => intro a ha; exact ha
 | cons x r ih => intro a ha; exact ih _ (Nat.or_lt_two_pow (n := 32) ha (evM_lt hM x))
theorem mask_any (w : World) (c : Cf) (v : Vs) (h : CfAt w c v) (hM : ∀ x ∈ c.evs, x.mask < 4294967296) (s : Sl) (l : List Int) (hl : RowsAt w 1 intP s l) (hll : l.length ≤ 1048576) (hid : ∀ x ∈ l, 0 ≤ x ∧ x < c.evs.length) : Calls Tryz.prog 149 #[.agg (cfC c v), .slice s.a s.n s.c] w fun e w' => e = .returned (.int .u32 ((maskN c l : Nat) : Int)) ∧ Below w.heap.size w w' := by
 have hb := below_alloc w (.cells (cfC c v) 47)
 have hV := heap_alloc_new w (.cells (cfC c v) 47)
 have q13 : (w.alloc (.cells (cfC c v) 47)).cell? ⟨w.heap.size, 13, none⟩ = some (.slice v.e.a v.e.n v.e.c) := by rw [cell_of_row _ _ 13 _ _ (0, 0) hV]; rfl
 have H1 : Hid (CfAt (w.alloc (.cells (cfC c v) 47)) c v ∧ RowsAt (w.alloc (.cells (cfC c v) 47)) 1 intP s l) := ⟨h.below hb, hl.below hb (fun _ _ _ _ h => h)⟩
 have HS : Hid (s.n = l.length) := hl.n
 have hsn : s.n ≤ 1048576 := by have := hl.n; omega
 have hsc : s.n ≤ s.c := hl.c
 have hsm : s.c ≤ maxLen := hl.m
 unfold maxLen at hsm
 have HE : Hid (v.e.n = c.evs.length ∧ v.e.n ≤ v.e.c ∧ v.e.c ≤ maxLen) := ⟨h.e.n, h.e.c, h.e.m⟩
 have HID : Hid (∀ x ∈ l, 0 ≤ x ∧ x < c.evs.length) := hid
 have HM : Hid (∀ x ∈ c.evs, x.mask < 4294967296) := hM
 have HB : Hid (Below w.heap.size w (w.alloc (.cells (cfC c v) 47))) := hb
 clear hl hll hid hM hV h hb
 generalize hCC : cfC c v = C at *
 clear hCC
 go_enter Tryz.func149, Tryz.ntmps149
 go_upto_region 1 with fail
 generalize hW : w.alloc (.cells C 47) = W1 at *
 clear hW
 go_wp2
 go_loopw [5, 7, 10] (fun ov _ iv wr => ∃ j : Nat, j ≤ s.n ∧ iv = .int .i64 j ∧ ov = .int .u32 ((maskN c (l.take j) : Nat) : Int) ∧ W1 = wr) (fun _ _ iv _ => s.n - (intOf iv).toNat)
 case atStart => exact ⟨0, by omega, rfl, rfl, rfl⟩
 case round =>
  obtain ⟨j, hj, rfl, rfl, rfl⟩ := hrel
  by_cases hlt : j < s.n
  ·have hlt' : (j : Int) < s.n := by omega
   obtain ⟨x, hx⟩ : ∃ x, l[j]? = some x := ⟨_, List.getElem?_eq_getElem (by rw [← HS.out]; exact hlt)⟩
   obtain ⟨g5, o5, e5, hg5, b5⟩ := ints_at9 H1.out.2 hx
   have hi := HID.out x (List.mem_of_getElem? hx)
   obtain ⟨k, rfl⟩ := Int.eq_ofNat_of_zero_le hi.1
   have hk : k < c.evs.length := by omega
   obtain ⟨y, hy⟩ : ∃ y, c.evs[k]? = some y := ⟨_, List.getElem?_eq_getElem hk⟩
   obtain ⟨g6, o6, e6, hg6, -, b6, -⟩ := ev_at H1.out.1 hy
   have hkI : (k : Int) < v.e.n := by have := HE.out.1; omega
   have HT : Hid (maskN c (l.take (j + 1)) = maskN c (l.take j) ||| y.mask) := by
    show _ = _
    rw [List.take_add_one, hx]
    show maskN c (l.take j ++ [(k : Int)]) = _
    rw [maskN_snoc]
    congr 1
    unfold evM
    rw [Int.toNat_natCast, hy]
   have hor := or_u32 (maskN c (l.take j)) y.mask (maskN_lt HM.out _) (HM.out y (List.mem_of_getElem? hy))
   have hec := HE.out.2.1
   have hem := HE.out.2.2
   unfold maxLen at hem
   rw [e6] at q13
   rw [e5]
   clear hx hy hi e5 e6 hg5 hg6 hk
   generalize maskN c (l.take j) = m0 at *
   generalize y.mask = my at *
   go_wp2
   go_roundw
   case rel => exact ⟨j + 1, by omega, by go_num, by rw [HT.out, ← hor], by first | exact trivial | exact rfl⟩
   case measure => simp [intOf]; omega
  ·obtain rfl : j = s.n := by omega
   have hlt' : ¬ ((s.n : Nat) : Int) < (s.n : Nat) := by omega
   have HE9 : Hid (l.take s.n = l) := by show _ = _; rw [HS.out]; exact List.take_length
   go_wp2
   go_ret
   rw [HE9.out]
   exact ⟨rfl, HB.out⟩
end Go.Proofs.YtmidaeljeoifdaaGreatDoor
