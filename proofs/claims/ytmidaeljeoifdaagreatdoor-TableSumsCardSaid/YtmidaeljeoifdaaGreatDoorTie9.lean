import Derived.Test.YtmidaeljeoifdaaGreatDoorTid
namespace Go.Proofs.YtmidaeljeoifdaaGreatDoor
open Go.RowKit Go.Shelf Go.Sort Go.Maps
set_option linter.unusedVariables false
set_option linter.unusedSimpArgs false
set_option maxHeartbeats 8000000
set_option maxRecDepth 100000
def bitN (l : List Int) : Nat := l.foldl (fun m p => m ||| 2 ^ p.toNat) 0
theorem bitN_snoc (l : List Int) (x : Int) : bitN (l ++ [x]) = bitN l ||| 2 ^ x.toNat := by simp [bitN]
theorem bitN_lt {l : List Int} (h : ∀ x ∈ l, 0 ≤ x ∧ x < 32) : bitN l < 4294967296 := by
 unfold bitN
 suffices H : ∀ (l : List Int) (a : Nat), (∀ x ∈ l, 0 ≤ x ∧ x < 32) → a < 4294967296 → l.foldl (fun m p => m ||| 2 ^ p.toNat) a < 4294967296 from H l 0 h (by decide)
 intro l
 induction l with
 | nil => intro a _ ha; exact ha
 | cons x r ih =>
  intro a hx ha
  refine ih _ (fun y hy => hx y (List.mem_cons_of_mem _ hy)) (Nat.or_lt_two_pow (n := 32) ha ?_)
  have := hx x (List.mem_cons_self ..)
  exact Nat.pow_lt_pow_right (by decide) (by omega)
theorem shl_u32 {p : Nat} (hp : p < 32) : IntKind.u32.wrap ((2 : Int) ^ p) = ((2 ^ p : Nat) : Int) := by
 have h2 : (2 ^ p : Nat) < 2 ^ 32 := Nat.pow_lt_pow_right (by decide) hp
 have : (2 : Int) ^ p = ((2 ^ p : Nat) : Int) := by norm_cast
 rw [this]
 generalize 2 ^ p = y at *
 rw [IntKind.wrap_u32]
 omega
theorem bits_any (w : World) (s : Sl) (l : List Int) (hl : RowsAt w 1 intP s l) (hll : l.length ≤ 1048576) (hid : ∀ x ∈ l, 0 ≤ x ∧ x < 32) : Calls Tryz.prog 152 #[.slice s.a s.n s.c] w fun e w' => e = .returned (.int .u32 ((bitN l : Nat) : Int)) ∧ w = w' := by
 have H1 : Hid (RowsAt w 1 intP s l) := hl
 have HS : Hid (s.n = l.length) := hl.n
 have hsn : s.n ≤ 1048576 := by have := hl.n; omega
 have hsc : s.n ≤ s.c := hl.c
 have hsm : s.c ≤ maxLen := hl.m
 unfold maxLen at hsm
 have HID : Hid (∀ x ∈ l, 0 ≤ x ∧ x < 32) := hid
 clear hl hll hid
 go_enter Tryz.func152, Tryz.ntmps152
 go_wp2
 go_loopw [3, 5, 8] (fun ov _ iv wr => ∃ j : Nat, j ≤ s.n ∧ iv = .int .i64 j ∧ ov = .int .u32 ((bitN (l.take j) : Nat) : Int) ∧ w = wr) (fun _ _ iv _ => s.n - (intOf iv).toNat)
 case atStart => exact ⟨0, by omega, rfl, rfl, rfl⟩
 case round =>
  obtain ⟨j, hj, rfl, rfl, rfl⟩ := hrel
  by_cases hlt : j < s.n
  ·have hlt' : (j : Int) < s.n := by omega
   obtain ⟨x, hx⟩ : ∃ x, l[j]? = some x := ⟨_, List.getElem?_eq_getElem (by rw [← HS.out]; exact hlt)⟩
   obtain ⟨g5, o5, e5, hg5, b5⟩ := ints_at9 H1.out hx
   have hi := HID.out x (List.mem_of_getElem? hx)
   obtain ⟨k, rfl⟩ := Int.eq_ofNat_of_zero_le hi.1
   have hk : k < 32 := by omega
   have hk0 : ¬ ((k : Int) < 0) := by omega
   have HT : Hid (bitN (l.take (j + 1)) = bitN (l.take j) ||| 2 ^ k) := by
    show _ = _
    rw [List.take_add_one, hx]
    show bitN (l.take j ++ [(k : Int)]) = _
    rw [bitN_snoc, Int.toNat_natCast]
   have h2 : (2 ^ k : Nat) < 4294967296 := Nat.lt_of_lt_of_eq (show (2 ^ k : Nat) < 2 ^ 32 from Nat.pow_lt_pow_right (by decide) hk) (by decide)
   have hor := or_u32 (bitN (l.take j)) (2 ^ k) (bitN_lt (fun y hy => HID.out y (List.mem_of_mem_take hy))) h2
   have hsh := shl_u32 hk
   rw [e5]
   have HOR : Hid _ := hor
   have HSH : Hid _ := hsh
   clear hx hi e5 hg5 hor hsh h2
   generalize bitN (l.take j) = m0 at *
   go_wp2
   go_roundw
   case rel => exact ⟨j + 1, by omega, by go_num, by rw [HT.out, ← HOR.out, ← HSH.out]; first | rfl | simp, by first | exact trivial | exact rfl⟩
   case measure => simp [intOf]; omega
  ·obtain rfl : j = s.n := by omega
   have hlt' : ¬ ((s.n : Nat) : Int) < (s.n : Nat) := by omega
   have HE9 : Hid (l.take s.n = l) := by show _ = _; rw [HS.out]; exact List.take_length
   go_wp2
   go_ret
   rw [HE9.out]
   exact ⟨rfl, rfl⟩
def fidF (p : Int → Bool) : Nat → List Int → Int
 | _, [] => -1
 | i, x :: r => if p x = true then (i : Int) else fidF p (i + 1) r
theorem fidF_at (p : Int → Bool) : ∀ (l : List Int) (i k : Nat) (x : Int), l[k]? = some x → p x = true → (∀ j y, j < k → l[j]? = some y → p y = false) → fidF p i l = ((i + k : Nat) : Int)
 | [], _, _, _, h, _, _ => by simp at h
 | y :: r, i, 0, x, h, h0, _ => by simp at h; subst h; simp [fidF, h0]
 | y :: r, i, k + 1, x, h, h0, hn => by
  have hy := hn 0 y (by omega) (by simp)
  rw [fidF, if_neg (by rw [hy]; decide), fidF_at p r (i + 1) k x (by simpa using h) h0 (fun j z hj hz => hn (j + 1) z (by omega) (by simpa using hz))]
  congr 1
  omega
theorem fidF_no (p : Int → Bool) : ∀ (l : List Int) (i : Nat), (∀ (j : Nat) (y : Int), l[j]? = some y → p y = false) → fidF p i l = -1
 | [], _, _ => rfl
 | y :: r, i, hn => by
  rw [fidF, if_neg (by rw [hn 0 y (by simp)]; decide)]
  exact fidF_no p r (i + 1) (fun j z hz => hn (j + 1) z (by simpa using hz))
theorem fidF_cases (p : Int → Bool) (l : List Int) : (fidF p 0 l = -1 ∧ ∀ x ∈ l, p x = false) ∨ ∃ (k : Nat) (x : Int), fidF p 0 l = (k : Int) ∧ l[k]? = some x ∧ p x = true := by
 suffices H : ∀ (l : List Int) (i : Nat), (fidF p i l = -1 ∧ ∀ x ∈ l, p x = false) ∨ ∃ (k : Nat) (x : Int), fidF p i l = ((i + k : Nat) : Int) ∧ l[k]? = some x ∧ p x = true by
  rcases H l 0 with h | ⟨k, x, h1, h2, h3⟩
  ·exact .inl h
  ·exact .inr ⟨k, x, by rw [h1]; simp, h2, h3⟩
 intro l
 induction l with
 | nil => intro i; exact .inl ⟨rfl, fun x hx => by simp at hx⟩
 | cons y r ih =>
  intro i
  by_cases hy : p y = true
  ·exact .inr ⟨0, y, by simp [fidF, hy], by simp, hy⟩
  ·rcases ih (i + 1) with ⟨h1, h2⟩ | ⟨k, x, h1, h2, h3⟩
   ·exact .inl ⟨by rw [fidF, if_neg hy]; exact h1, fun x hx => by
     rcases List.mem_cons.1 hx with rfl | hx
     ·simpa using hy
     ·exact h2 x hx⟩
   ·exact .inr ⟨k + 1, x, by rw [fidF, if_neg hy, h1]; congr 1; omega, by simpa using h2, h3⟩
theorem indexf_any (w : World) (s : Sl) (l : List Int) (hl : RowsAt w 1 intP s l) (hll : l.length ≤ 1048576) (f : Nat) (caps : Array Value) (eg : ∀ args W, (callFunc f args).run Tryz.prog W = .ok (.enter f args) W) (p : Int → Bool)
  (hf : ∀ W, Below w.heap.size w W → ∀ x ∈ l, Calls Tryz.prog f (#[I x] ++ caps) W fun e w' => e = .returned (.bool (p x)) ∧ Below W.heap.size W w') :
  Calls Tryz.prog 205 #[.slice s.a s.n s.c, .func (.func f) #[] caps] w fun e w' => e = .returned (I (fidF p 0 l)) ∧ Below w.heap.size w w' := by
 have HS : Hid (s.n = l.length) := hl.n
 have hsn : s.n ≤ 1048576 := by have := hl.n; omega
 have hsc : s.n ≤ s.c := hl.c
 have hsm : s.c ≤ maxLen := hl.m
 unfold maxLen at hsm
 have HH : Hid (∀ W, Below w.heap.size w W → RowsAt W 1 intP s l) := fun W hW => hl.below hW (fun _ _ _ _ h => h)
 have HFF : Hid (∀ W, Below w.heap.size w W → ∀ x ∈ l, Calls Tryz.prog f (#[I x] ++ caps) W fun e w' => e = .returned (.bool (p x)) ∧ Below W.heap.size W w') := hf
 clear hl hf hll
 go_enter Tryz.func205, Tryz.ntmps205
 go_wp2
 go_loopw [5, 8] (fun _ iv wr => ∃ j : Nat, j ≤ s.n ∧ iv = .int .i64 j ∧ Hid (Below w.heap.size w wr ∧ ∀ i y, i < j → l[i]? = some y → p y = false)) (fun _ iv _ => s.n - (intOf iv).toNat)
 case atStart => exact ⟨0, by omega, rfl, Below.refl _ _, fun i y hi => absurd hi (by omega)⟩
 case round =>
  obtain ⟨j, hj, rfl, HJ⟩ := hrel
  by_cases hlt : j < s.n
  ·have hlt' : (j : Int) < s.n := by omega
   obtain ⟨x, hx⟩ : ∃ x, l[j]? = some x := ⟨_, List.getElem?_eq_getElem (by rw [← HS.out]; exact hlt)⟩
   obtain ⟨g5, o5, e5, hg5, b5⟩ := ints_at9 (HH.out _ HJ.out.1) hx
   have cx := HFF.out _ HJ.out.1 x (List.mem_of_getElem? hx)
   rw [e5]
   clear e5 hg5
   cases hpx : p x with
   | false =>
    rw [hpx] at cx
    have HN : Hid (∀ i y, i < j + 1 → l[i]? = some y → p y = false) := fun i y hi hy => by
     by_cases e : i = j
     ·subst e; rw [hx] at hy; cases hy; exact hpx
     ·exact HJ.out.2 i y (by omega) hy
    have HB : Hid (Below w.heap.size w wr) := HJ.out.1
    clear HJ hx hpx
    go_wp2_with (first | fail)
    refine cx.mono ?_
    clear cx
    rintro e7 w7 ⟨rfl, hb7⟩
    have H9 : Hid (Below w.heap.size w w7) := HB.out.trans (hb7.mono HB.out.size)
    clear hb7
    go_wp2
    go_roundw
    case rel => exact ⟨j + 1, by omega, by go_num, H9.out, HN.out⟩
    case measure => simp [intOf]; omega
   | true =>
    rw [hpx] at cx
    have HR : Hid (fidF p 0 l = (j : Int)) := by
     have := fidF_at p l 0 j x hx hpx HJ.out.2
     show _ = _
     rw [this]
     simp
    have HB : Hid (Below w.heap.size w wr) := HJ.out.1
    clear HJ hx hpx
    go_wp2_with (first | fail)
    refine cx.mono ?_
    clear cx
    rintro e7 w7 ⟨rfl, hb7⟩
    have H9 : Hid (Below w.heap.size w w7) := HB.out.trans (hb7.mono HB.out.size)
    clear hb7
    go_wp2
    go_ret
    rw [HR.out]
    exact ⟨rfl, H9.out⟩
  ·obtain rfl : j = s.n := by omega
   have hlt' : ¬ ((s.n : Nat) : Int) < (s.n : Nat) := by omega
   have HR : Hid (fidF p 0 l = -1) := fidF_no p l 0 (fun i y hy => HJ.out.2 i y (by rw [HS.out]; exact (List.getElem?_eq_some_iff.1 hy).1) hy)
   go_wp2
   go_ret
   rw [HR.out]
   exact ⟨rfl, HJ.out.1⟩
end Go.Proofs.YtmidaeljeoifdaaGreatDoor
