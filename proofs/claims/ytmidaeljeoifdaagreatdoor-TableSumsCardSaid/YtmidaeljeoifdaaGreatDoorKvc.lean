import Derived.Test.YtmidaeljeoifdaaGreatDoorKvb
namespace Go.Proofs.YtmidaeljeoifdaaGreatDoor
set_option maxRecDepth 100000
set_option maxHeartbeats 16000000
open Go.RowKit
set_option linter.unusedVariables false
structure Kd where
 word : List UInt8
 lo : Int
 hi : Int
 fN : Nat
 s : Sl
def kdL (x : Kd) : List Value := [S x.word, I x.lo, I x.hi, .func (.func x.fN) #[] #[], .slice x.s.a x.s.n x.s.c]
def kdP (x : Kd) (i : Nat) (u : Value) : Prop := (kdL x)[i]? = some u
theorem kd_at (l : List Kd) (j : Nat) (x : Kd) (hj : l[j]? = some x) (i : Nat) (hi : i < 5) : (l.flatMap kdL)[j * 5 + i]? = (kdL x)[i]? := by
 induction l generalizing j with
 | nil => simp at hj
 | cons y r ih =>
  have e1 : (y :: r).flatMap kdL = kdL y ++ r.flatMap kdL := rfl
  have h2 : (kdL y).length = 5 := rfl
  rw [e1]
  cases j with
  | zero =>
   obtain rfl : y = x := by simpa using hj
   rw [List.getElem?_append_left (by omega)]
   simp
  | succ j =>
   rw [List.getElem?_append_right (by omega), h2, show (j + 1) * 5 + i - 5 = j * 5 + i by omega]
   exact ih j (by simpa using hj)
theorem rows_kd {w : World} {b : Nat} {vs : Array Value} (h : w.heap[b]? = some (.cells vs 199 (0, 0))) (l : List Kd) (hv : vs.toList = l.flatMap kdL) {n : Nat} (hn : n = l.length) (hm : n ≤ maxLen) : RowsAt w 5 kdP ⟨some ⟨b, 0, none⟩, n, n⟩ l := by
 refine ⟨hn, Nat.le_refl _, hm, fun j x hj => ⟨b, 0, rfl, heap_lt h, fun i hi => ?_⟩⟩
 have hc := kd_at l j x hj i hi
 rw [← hv, Array.getElem?_toList] at hc
 have h1 : w.cell? ⟨b, 0 + j * 5 + i, none⟩ = (kdL x)[i]? := by rw [Nat.zero_add, cell_of_row w b _ _ _ (0, 0) h]; exact hc
 have h5 : i < (kdL x).length := hi
 exact ⟨(kdL x)[i], by rw [h1]; exact List.getElem?_eq_getElem h5, List.getElem?_eq_getElem h5⟩
def noS : Sl := ⟨none, 0, 0⟩
def tenK (s3 s4 s5 s6 s7 s8 s9 : Sl) : List Kd := [⟨[67, 80, 85], 1, 1, 176, noS⟩, ⟨[79, 83], 1, 1, 177, noS⟩, ⟨[65, 80, 80, 77, 79, 68, 69], 1, 8, 178, noS⟩, ⟨[82, 69, 83, 79, 85, 82, 67, 69], 0, 64, 179, s3⟩, ⟨[69, 86, 69, 78, 84], 0, 256, 181, s4⟩, ⟨[84, 65, 83, 75], 1, 256, 183, s5⟩, ⟨[67, 79, 85, 78, 84, 69, 82], 0, 16, 185, s6⟩, ⟨[65, 76, 65, 82, 77], 0, 64, 187, s7⟩, ⟨[73, 83, 82], 0, 32, 189, s8⟩, ⟨[77, 69, 83, 83, 65, 71, 69], 0, 64, 191, s9⟩]
structure TenAt (w : World) (s3 s4 s5 s6 s7 s8 s9 : Sl) (ba bm : Nat) : Prop where
 r3 : RowsAt w 2 ckP s3 resourceChecksL
 r4 : RowsAt w 2 ckP s4 eventChecksL
 r5 : RowsAt w 2 ckP s5 taskChecksL
 r6 : RowsAt w 2 ckP s6 counterChecksL
 r7 : RowsAt w 2 ckP s7 (alarmChecksL ba)
 r8 : RowsAt w 2 ckP s8 isrChecksL
 r9 : RowsAt w 2 ckP s9 (messageChecksL bm)
 ca : w.cell? ⟨ba, 0, none⟩ = some (.func (.func 241) #[] #[])
 cm : w.cell? ⟨bm, 0, none⟩ = some (.func (.func 256) #[] #[])
theorem TenAt.below {w w' : World} {s3 s4 s5 s6 s7 s8 s9 : Sl} {ba bm : Nat} (h : TenAt w s3 s4 s5 s6 s7 s8 s9 ba bm) (hb : Below w.heap.size w w') : TenAt w' s3 s4 s5 s6 s7 s8 s9 ba bm :=
 ⟨h.r3.below hb (fun _ _ _ _ h => h), h.r4.below hb (fun _ _ _ _ h => h), h.r5.below hb (fun _ _ _ _ h => h), h.r6.below hb (fun _ _ _ _ h => h), h.r7.below hb (fun _ _ _ _ h => h), h.r8.below hb (fun _ _ _ _ h => h), h.r9.below hb (fun _ _ _ _ h => h), by rw [cell_below hb _ _ (World.block_lt_of_cell? w _ h.ca)]; exact h.ca, by rw [cell_below hb _ _ (World.block_lt_of_cell? w _ h.cm)]; exact h.cm⟩
theorem kinds_any (w : World) : Calls Tryz.prog 123 #[] w fun e w' => ∃ (s s3 s4 s5 s6 s7 s8 s9 : Sl) (ba bm : Nat), e = .returned (.slice s.a s.n s.c) ∧ RowsAt w' 5 kdP s (tenK s3 s4 s5 s6 s7 s8 s9) ∧ TenAt w' s3 s4 s5 s6 s7 s8 s9 ba bm ∧ Below w.heap.size w w' := by
 go_enter Tryz.func123, Tryz.ntmps123
 go_wp2_with (first | (go_at_call 180; refine (resourceChecks_any _).mono ?_; rintro e w3 ⟨s3, rfl, h3, hb3⟩) | (go_at_call 182; refine (eventChecks_any _).mono ?_; rintro e w4 ⟨s4, rfl, h4, hb4⟩) | (go_at_call 184; refine (taskChecks_any _).mono ?_; rintro e w5 ⟨s5, rfl, h5, hb5⟩) | (go_at_call 186; refine (counterChecks_any _).mono ?_; rintro e w6 ⟨s6, rfl, h6, hb6⟩) | (go_at_call 188; refine (alarmChecks_any _).mono ?_; rintro e w7 ⟨ba, ⟨s7, rfl, h7, hb7⟩, hc7⟩) | (go_at_call 190; refine (isrChecks_any _).mono ?_; rintro e w8 ⟨s8, rfl, h8, hb8⟩) | (go_at_call 192; refine (messageChecks_any _).mono ?_; rintro e w9 ⟨bm, ⟨s9, rfl, h9, hb9⟩, hc9⟩))
 go_ret
 have hz := below_alloc w9
 have hh := heap_alloc_new w9
 have b8 : Below w8.heap.size w8 w9 := hb9
 have b7 : Below w7.heap.size w7 w9 := hb8.trans (b8.mono hb8.size)
 have b6 : Below w6.heap.size w6 w9 := hb7.trans (b7.mono hb7.size)
 have b5 : Below w5.heap.size w5 w9 := hb6.trans (b6.mono hb6.size)
 have b4 : Below w4.heap.size w4 w9 := hb5.trans (b5.mono hb5.size)
 have b3 : Below w3.heap.size w3 w9 := hb4.trans (b4.mono hb4.size)
 have b2 : Below w.heap.size w w9 := hb3.trans (b3.mono hb3.size)
 have ht : TenAt w9 s3 s4 s5 s6 s7 s8 s9 ba bm := ⟨h3.below b3 (fun _ _ _ _ h => h), h4.below b4 (fun _ _ _ _ h => h), h5.below b5 (fun _ _ _ _ h => h), h6.below b6 (fun _ _ _ _ h => h), h7.below b7 (fun _ _ _ _ h => h), h8.below b8 (fun _ _ _ _ h => h), h9, by rw [cell_below b7 _ _ (World.block_lt_of_cell? w7 _ hc7)]; exact hc7, hc9⟩
 refine ⟨⟨some ⟨w9.heap.size, 0, none⟩, 10, 10⟩, s3, s4, s5, s6, s7, s8, s9, ba, bm, rfl, ?_, ht.below (hz _), b2.trans ((hz _).mono b2.size)⟩
 apply rows_kd (hh _)
 ·rfl
 ·rfl
 ·unfold maxLen; omega
end Go.Proofs.YtmidaeljeoifdaaGreatDoor
