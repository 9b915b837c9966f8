import Derived.Test.YtpbnpmeigdjfdaaGreatDoorXKvb
namespace Go.Proofs.YtpbnpmeigdjfdaaGreatDoor
open Go.RowKit
set_option linter.unusedSimpArgs false
set_option linter.unusedVariables false
set_option maxHeartbeats 16000000
set_option maxRecDepth 100000
structure Kd where
 word : List UInt8
 lo : Int
 hi : Int
 fN : Nat
 s : Sl
def kdL (x : Kd) : List Value := [S x.word, I x.lo, I x.hi, .func (.func x.fN) #[] #[], .slice x.s.a x.s.n x.s.c]
def kdP (x : Kd) (i : Nat) (u : Value) : Prop := (kdL x)[i]? = some u
theorem kd_at (l : List Kd) (j : Nat) (x : Kd) (hj : l[j]? = some x) (i : Nat) (hi : i < 5) : (l.flatMap kdL)[j * 5 + i]? = (kdL x)[i]? := by
 induction l generalizing j with
 | nil => simp at hj
 | cons y r ih =>
  have e1 : (y :: r).flatMap kdL = kdL y ++ r.flatMap kdL := rfl
  have h2 : (kdL y).length = 5 := rfl
  rw [e1]
  cases j with
  | zero =>
   obtain rfl : y = x := by simpa using hj
   rw [List.getElem?_append_left (by omega)]
   simp
  | succ j =>
   rw [List.getElem?_append_right (by omega), h2, show (j + 1) * 5 + i - 5 = j * 5 + i by omega]
   exact ih j (by simpa using hj)
theorem rows_kd {w : World} {b : Nat} {vs : Array Value} (h : w.heap[b]? = some (.cells vs 127 (0, 0))) (l : List Kd) (hv : vs.toList = l.flatMap kdL) {n : Nat} (hn : n = l.length) (hm : n ≤ maxLen) : RowsAt w 5 kdP ⟨some ⟨b, 0, none⟩, n, n⟩ l := by
 refine ⟨hn, Nat.le_refl _, hm, fun j x hj => ⟨b, 0, rfl, heap_lt h, fun i hi => ?_⟩⟩
 have hc := kd_at l j x hj i hi
 rw [← hv, Array.getElem?_toList] at hc
 have h1 : w.cell? ⟨b, 0 + j * 5 + i, none⟩ = (kdL x)[i]? := by rw [Nat.zero_add, cell_of_row w b _ _ _ (0, 0) h]; exact hc
 have h5 : i < (kdL x).length := hi
 exact ⟨(kdL x)[i], by rw [h1]; exact List.getElem?_eq_getElem h5, List.getElem?_eq_getElem h5⟩
def noS : Sl := ⟨none, 0, 0⟩
def tenK (s3 s4 s5 s6 s7 s8 s9 : Sl) : List Kd := [⟨[67, 80, 85], 1, 1, 69, noS⟩, ⟨[79, 83], 1, 1, 70, noS⟩, ⟨[65, 80, 80, 77, 79, 68, 69], 1, 8, 71, noS⟩, ⟨[82, 69, 83, 79, 85, 82, 67, 69], 0, 64, 72, s3⟩, ⟨[69, 86, 69, 78, 84], 0, 256, 74, s4⟩, ⟨[84, 65, 83, 75], 1, 256, 76, s5⟩, ⟨[67, 79, 85, 78, 84, 69, 82], 0, 16, 78, s6⟩, ⟨[65, 76, 65, 82, 77], 0, 64, 80, s7⟩, ⟨[73, 83, 82], 0, 32, 82, s8⟩, ⟨[77, 69, 83, 83, 65, 71, 69], 0, 64, 84, s9⟩]
structure TenAt (w : World) (s3 s4 s5 s6 s7 s8 s9 : Sl) (ba bm : Nat) : Prop where
 r3 : RowsAt w 2 ckP s3 resourceChecksL
 r4 : RowsAt w 2 ckP s4 eventChecksL
 r5 : RowsAt w 2 ckP s5 taskChecksL
 r6 : RowsAt w 2 ckP s6 counterChecksL
 r7 : RowsAt w 2 ckP s7 (alarmChecksL ba)
 r8 : RowsAt w 2 ckP s8 isrChecksL
 r9 : RowsAt w 2 ckP s9 (messageChecksL bm)
 ca : w.cell? ⟨ba, 0, none⟩ = some (.func (.func 137) #[] #[])
 cm : w.cell? ⟨bm, 0, none⟩ = some (.func (.func 152) #[] #[])
theorem TenAt.below {w w' : World} {s3 s4 s5 s6 s7 s8 s9 : Sl} {ba bm : Nat} (h : TenAt w s3 s4 s5 s6 s7 s8 s9 ba bm) (hb : Below w.heap.size w w') : TenAt w' s3 s4 s5 s6 s7 s8 s9 ba bm :=
 ⟨h.r3.below hb (fun _ _ _ _ h => h), h.r4.below hb (fun _ _ _ _ h => h), h.r5.below hb (fun _ _ _ _ h => h), h.r6.below hb (fun _ _ _ _ h => h), h.r7.below hb (fun _ _ _ _ h => h), h.r8.below hb (fun _ _ _ _ h => h), h.r9.below hb (fun _ _ _ _ h => h), by rw [cell_below hb _ _ (World.block_lt_of_cell? w _ h.ca)]; exact h.ca, by rw [cell_below hb _ _ (World.block_lt_of_cell? w _ h.cm)]; exact h.cm⟩
theorem kinds_any (w : World) : Calls Tryz.prog 52 #[] w fun e w' => ∃ (s s3 s4 s5 s6 s7 s8 s9 : Sl) (ba bm : Nat), e = .returned (.slice s.a s.n s.c) ∧ RowsAt w' 5 kdP s (tenK s3 s4 s5 s6 s7 s8 s9) ∧ TenAt w' s3 s4 s5 s6 s7 s8 s9 ba bm ∧ Below w.heap.size w w' := by
 go_enter Tryz.func52, Tryz.ntmps52
 go_wp2_with (first | (go_at_call 73; refine (resourceChecks_any _).mono ?_; rintro e w3 ⟨s3, rfl, h3, hb3⟩) | (go_at_call 75; refine (eventChecks_any _).mono ?_; rintro e w4 ⟨s4, rfl, h4, hb4⟩) | (go_at_call 77; refine (taskChecks_any _).mono ?_; rintro e w5 ⟨s5, rfl, h5, hb5⟩) | (go_at_call 79; refine (counterChecks_any _).mono ?_; rintro e w6 ⟨s6, rfl, h6, hb6⟩) | (go_at_call 81; refine (alarmChecks_any _).mono ?_; rintro e w7 ⟨ba, ⟨s7, rfl, h7, hb7⟩, hc7⟩) | (go_at_call 83; refine (isrChecks_any _).mono ?_; rintro e w8 ⟨s8, rfl, h8, hb8⟩) | (go_at_call 85; refine (messageChecks_any _).mono ?_; rintro e w9 ⟨bm, ⟨s9, rfl, h9, hb9⟩, hc9⟩))
 go_ret
 have hz := below_alloc w9
 have hh := heap_alloc_new w9
 have b8 : Below w8.heap.size w8 w9 := hb9
 have b7 : Below w7.heap.size w7 w9 := hb8.trans (b8.mono hb8.size)
 have b6 : Below w6.heap.size w6 w9 := hb7.trans (b7.mono hb7.size)
 have b5 : Below w5.heap.size w5 w9 := hb6.trans (b6.mono hb6.size)
 have b4 : Below w4.heap.size w4 w9 := hb5.trans (b5.mono hb5.size)
 have b3 : Below w3.heap.size w3 w9 := hb4.trans (b4.mono hb4.size)
 have b2 : Below w.heap.size w w9 := hb3.trans (b3.mono hb3.size)
 have ht : TenAt w9 s3 s4 s5 s6 s7 s8 s9 ba bm := ⟨h3.below b3 (fun _ _ _ _ h => h), h4.below b4 (fun _ _ _ _ h => h), h5.below b5 (fun _ _ _ _ h => h), h6.below b6 (fun _ _ _ _ h => h), h7.below b7 (fun _ _ _ _ h => h), h8.below b8 (fun _ _ _ _ h => h), h9, by rw [cell_below b7 _ _ (World.block_lt_of_cell? w7 _ hc7)]; exact hc7, hc9⟩
 refine ⟨⟨some ⟨w9.heap.size, 0, none⟩, 10, 10⟩, s3, s4, s5, s6, s7, s8, s9, ba, bm, rfl, ?_, ht.below (hz _), b2.trans ((hz _).mono b2.size)⟩
 apply rows_kd (hh _)
 ·rfl
 ·rfl
 ·unfold maxLen; omega
def pickR (wd : List UInt8) (r : Option (Int × List UInt8 × Int)) : Option (Int × Int) → Option (Int × List UInt8 × Int)
 | some (c, i) => some (c, wd, i)
 | none => r
def lookAll : List (List UInt8 × Option (Int × Int)) → Option (Int × List UInt8 × Int)
 | [] => none
 | (wd, o) :: r => pickR wd (lookAll r) o
def noB (_ _ : Nat) : Bool := true
def tenR (c : Cf) (ba bm : Nat) : List (List UInt8 × Option (Int × Int)) := [
 ([67, 80, 85], lookL [c.cpu] 1 1 [] noB), ([79, 83], lookL [c.osn] 1 1 [] noB), ([65, 80, 80, 77, 79, 68, 69], lookL c.modes 1 8 [] noB),
 ([82, 69, 83, 79, 85, 82, 67, 69], lookL (c.ress.map fun x => x.name) 0 64 resourceChecksL (byB c.ress (resQ c))),
 ([69, 86, 69, 78, 84], lookL (c.evs.map fun x => x.name) 0 256 eventChecksL (byB c.evs (evQ c))),
 ([84, 65, 83, 75], lookL (c.tasks.map fun x => x.name) 1 256 taskChecksL (byB c.tasks (tkQ c))),
 ([67, 79, 85, 78, 84, 69, 82], lookL (c.ctrs.map fun x => x.name) 0 16 counterChecksL (byB c.ctrs (ctQ c))),
 ([65, 76, 65, 82, 77], lookL (c.als.map fun x => x.name) 0 64 (alarmChecksL ba) (byB c.als (alQ c))),
 ([73, 83, 82], lookL (c.isrs.map fun x => x.name) 0 32 isrChecksL (byB c.isrs (isQ c))),
 ([77, 69, 83, 83, 65, 71, 69], lookL (c.msgs.map fun x => x.name) 0 64 (messageChecksL bm) (byB c.msgs (msQ c)))]
structure LensOK (c : Cf) : Prop where
 t : c.tasks.length ≤ 8796093022208
 r : c.ress.length ≤ 8796093022208
 e : c.evs.length ≤ 8796093022208
 k : c.ctrs.length ≤ 8796093022208
 a : c.als.length ≤ 8796093022208
 i : c.isrs.length ≤ 8796093022208
 s : c.msgs.length ≤ 8796093022208
theorem look_bare (w : World) (c : Cf) (v : Vs) (h : CfAt w c v) (word : List UInt8) (lo hi : Int) (fN : Nat) (names : List (List UInt8))
  (egN : ∀ args W, (callFunc fN args).run Tryz.prog W = .ok (.enter fN args) W) (cN : ∀ W, Below w.heap.size w W → Calls Tryz.prog fN #[.agg (cfC c v)] W fun e w' => NamesPost W names e w') :
  Calls Tryz.prog 53 #[.agg (kdC word lo hi fN noS), .agg (cfC c v)] w fun e w' => LookPost w word (lookL names lo hi [] noB) e w' :=
 look_any w c v h word lo hi fN noS [] ⟨rfl, Nat.le_refl _, by show 0 ≤ maxLen; exact Nat.zero_le _, fun j x hj => by simp at hj⟩ names egN cN noB (fun x hx => by cases hx) (fun j k x _ hk => by simp at hk)
theorem ten_looks (w : World) (c : Cf) (v : Vs) (h : CfAt w c v) (hl : LensOK c) (s3 s4 s5 s6 s7 s8 s9 : Sl) (ba bm : Nat) (ht : TenAt w s3 s4 s5 s6 s7 s8 s9 ba bm) (j : Nat) (x : Kd) (hj : (tenK s3 s4 s5 s6 s7 s8 s9)[j]? = some x) :
  ∃ o, (tenR c ba bm)[j]? = some (x.word, o) ∧ ∀ W, Below w.heap.size w W → Calls Tryz.prog 53 #[.agg (kdC x.word x.lo x.hi x.fN x.s), .agg (cfC c v)] W fun e w' => LookPost W x.word o e w' := by
 rcases j with _ | _ | _ | _ | _ | _ | _ | _ | _ | _ | j
 ·obtain rfl := Option.some.inj hj
  exact ⟨_, rfl, fun W hW => look_bare W c v (h.below hW) _ _ _ _ _ (enters_of Tryz.func69 (by kernel_rfl) rfl) (fun W2 _ => cpuNames_any W2 c v)⟩
 ·obtain rfl := Option.some.inj hj
  exact ⟨_, rfl, fun W hW => look_bare W c v (h.below hW) _ _ _ _ _ (enters_of Tryz.func70 (by kernel_rfl) rfl) (fun W2 _ => osNames_any W2 c v)⟩
 ·obtain rfl := Option.some.inj hj
  exact ⟨_, rfl, fun W hW => look_bare W c v (h.below hW) _ _ _ _ _ (enters_of Tryz.func71 (by kernel_rfl) rfl) (fun W2 h2 => modeNames_any W2 c v ((h.below hW).below h2))⟩
 ·obtain rfl := Option.some.inj hj
  exact ⟨_, rfl, fun W hW => look_res W c v (h.below hW) hl.r _ _ _ _ (ht.below hW).r3⟩
 ·obtain rfl := Option.some.inj hj
  exact ⟨_, rfl, fun W hW => look_ev W c v (h.below hW) hl.e _ _ _ _ (ht.below hW).r4⟩
 ·obtain rfl := Option.some.inj hj
  exact ⟨_, rfl, fun W hW => look_tk W c v (h.below hW) hl.t _ _ _ _ (ht.below hW).r5⟩
 ·obtain rfl := Option.some.inj hj
  exact ⟨_, rfl, fun W hW => look_ct W c v (h.below hW) hl.k _ _ _ _ (ht.below hW).r6⟩
 ·obtain rfl := Option.some.inj hj
  exact ⟨_, rfl, fun W hW => look_al W c v (h.below hW) hl.a _ _ _ _ ba (ht.below hW).ca (ht.below hW).r7⟩
 ·obtain rfl := Option.some.inj hj
  exact ⟨_, rfl, fun W hW => look_is W c v (h.below hW) hl.i _ _ _ _ (ht.below hW).r8⟩
 ·obtain rfl := Option.some.inj hj
  exact ⟨_, rfl, fun W hW => look_ms W c v (h.below hW) hl.s _ _ _ _ bm (ht.below hW).cm (ht.below hW).r9⟩
 ·simp [tenK] at hj
def AllPost (w : World) (o : Option (Int × List UInt8 × Int)) (e : Ending) (w' : World) : Prop := match o with
 | none => e = .returned .nilIface ∧ Below w.heap.size w w'
 | some (c, word, id) => RefPost w c word id e w'
theorem lookL_codes (names : List (List UInt8)) (lo hi : Int) (a b : List Ck) (B : Nat → Nat → Bool) (h : ∀ Q, firstF a 0 Q = firstF b 0 Q) : lookL names lo hi a B = lookL names lo hi b B := by
 have e : objF names a B = objF names b B := by
  funext j
  unfold objF
  cases names[j]? with
  | none => rfl
  | some nm => simp only [h]
 unfold lookL
 rw [e]
theorem tenR_any (c : Cf) (ba bm : Nat) : tenR c ba bm = tenR c 0 0 := by
 unfold tenR
 rw [lookL_codes _ 0 64 (alarmChecksL ba) (alarmChecksL 0) _ (fun _ => rfl), lookL_codes _ 0 64 (messageChecksL bm) (messageChecksL 0) _ (fun _ => rfl)]
def allF (c : Cf) : Option (Int × List UInt8 × Int) := lookAll (tenR c 0 0)
theorem lookAll_drop {l : List (List UInt8 × Option (Int × Int))} {j : Nat} {wd : List UInt8} {o : Option (Int × Int)} (h : l[j]? = some (wd, o)) : lookAll (l.drop j) = pickR wd (lookAll (l.drop (j + 1))) o := by
 obtain ⟨hj, e⟩ := List.getElem?_eq_some_iff.1 h
 rw [List.drop_eq_getElem_cons hj, e]
 rfl
theorem cells5 {w : World} {g off : Nat} {x : Kd} (h : ∀ i, i < 5 → ∃ u, w.cell? ⟨g, off + i, none⟩ = some u ∧ kdP x i u) :
  w.cell? ⟨g, off, none⟩ = some (S x.word) ∧ w.cell? ⟨g, off + 1, none⟩ = some (I x.lo) ∧ w.cell? ⟨g, off + 2, none⟩ = some (I x.hi) ∧ w.cell? ⟨g, off + 3, none⟩ = some (.func (.func x.fN) #[] #[]) ∧ w.cell? ⟨g, off + 4, none⟩ = some (.slice x.s.a x.s.n x.s.c) := by
 have f : ∀ i, i < 5 → w.cell? ⟨g, off + i, none⟩ = (kdL x)[i]? := fun i hi => by
  obtain ⟨u, h1, h2⟩ := h i hi
  rw [h1]
  exact h2.symm
 exact ⟨f 0 (by omega), f 1 (by omega), f 2 (by omega), f 3 (by omega), f 4 (by omega)⟩
theorem look_all (w : World) (c : Cf) (v : Vs) (h : CfAt w c v) (hl : LensOK c) : Calls Tryz.prog 41 #[.agg (cfC c v)] w fun e w' => AllPost w (allF c) e w' := by
 have hi18 : (Tryz.prog.info? 33).map (·.size) = some (cfC c v).size := by rw [show (cfC c v).size = 18 from rfl]; kernel_rfl
 have hV0 := heap_alloc_new w (.cells (cfC c v) 33)
 have hbw := below_alloc w (.cells (cfC c v) 33)
 have hk0 := kinds_any (w.alloc (.cells (cfC c v) 33))
 have hten := fun W (hW : Below w.heap.size w W) => ten_looks W c v (h.below hW) hl
 obtain ⟨R, hR⟩ : ∃ R, R = allF c := ⟨_, rfl⟩
 rw [← hR]
 unfold allF at hR
 generalize cfC c v = C at *
 go_enter Tryz.func41, Tryz.ntmps41
 go_wp2_with (first | (go_at_call 52; refine hk0.mono ?_; rintro e w1 ⟨s, s3, s4, s5, s6, s7, s8, s9, ba, bm, rfl, hks, ht, hb1⟩))
 have hbw1 := hbw.trans (hb1.mono hbw.size)
 have hlook := hten w1 hbw1 s3 s4 s5 s6 s7 s8 s9 ba bm ht
 rw [← tenR_any c ba bm] at hR
 have hlen : (tenR c ba bm).length = 10 := rfl
 have hlenK : (tenK s3 s4 s5 s6 s7 s8 s9).length = 10 := rfl
 have HN : Hid (s.n = 10) := hks.n
 have hsc : s.n ≤ s.c := hks.c
 have hsm : s.c ≤ maxLen := hks.m
 have hV1 := (hb1.block _ (heap_lt hV0)).trans hV0
 have hgr : w.heap.size < w1.heap.size := Nat.lt_of_lt_of_le (heap_lt hV0) hb1.size
 unfold maxLen at hsm
 clear hten hk0 ht hbw hb1 hV0
 generalize tenR c ba bm = O at *
 generalize tenK s3 s4 s5 s6 s7 s8 s9 = Ks at *
 have HL : Hid (∀ (j : Nat) (x : Kd), Ks[j]? = some x → ∃ o, O[j]? = some (x.word, o) ∧ ∀ W, Below w1.heap.size w1 W → Calls Tryz.prog 53 #[.agg (kdC x.word x.lo x.hi x.fN x.s), .agg C] W fun e w' => LookPost W x.word o e w') := hlook
 have HK : Hid (Ks.length = 10 ∧ O.length = 10) := ⟨hlenK, hlen⟩
 have HR : Hid (R = lookAll O) := hR
 have HS : Hid (RowsAt w1 5 kdP s Ks) := hks
 clear hlook hlen hlenK hR hks h hl
 go_loopw [4, 5, 8] (fun _ _ iv wr => ∃ j : Nat, j ≤ s.n ∧ iv = .int .i64 j ∧ Hid (Below w1.heap.size w1 wr ∧ R = lookAll (O.drop j))) (fun _ _ iv _ => s.n - (intOf iv).toNat)
 case atStart => exact ⟨0, by omega, rfl, Below.refl _ _, HR.out⟩
 case round =>
  obtain ⟨j, hj, rfl, HJ⟩ := hrel
  obtain ⟨hB, hRj⟩ := HJ.out
  have HRj : Hid (R = lookAll (O.drop j)) := hRj
  clear HJ hRj HR
  have hbwr := hbw1.trans (hB.mono hbw1.size)
  by_cases hlt : j < s.n
  ·have hlt' : (j : Int) < s.n := by omega
   obtain ⟨x, hx⟩ : ∃ x, Ks[j]? = some x := ⟨_, List.getElem?_eq_getElem (by rw [HK.out.1, ← HN.out]; exact hlt)⟩
   obtain ⟨o, ho, hcall⟩ := HL.out j x hx
   obtain ⟨g, off, e, hg, hrow⟩ := HS.out.row j x hx
   obtain ⟨a0, a1, a2, a3, a4⟩ := cells5 (x := x) (fun i hi => (by obtain ⟨u, h1, h2⟩ := hrow i hi; exact ⟨u, by rw [cell_below hB _ _ hg]; exact h1, h2⟩ : ∃ u, wr.cell? ⟨g, off + j * 5 + i, none⟩ = some u ∧ kdP x i u))
   have HD : Hid (R = pickR x.word (lookAll (O.drop (j + 1))) o) := by show _ = _; rw [HRj.out]; exact lookAll_drop ho
   have hst : (storeCells ⟨wr.heap.size, 0, none⟩ [S x.word, I x.lo, I x.hi, .func (.func x.fN) #[] #[], .slice x.s.a x.s.n x.s.c] 0).run Tryz.prog (wr.alloc (.cells #[.string ⟨#[]⟩, .int .i64 0, .int .i64 0, .nilFunc, .slice none 0 0] 127)) = .ok () (wr.alloc (.cells #[S x.word, I x.lo, I x.hi, .func (.func x.fN) #[] #[], .slice x.s.a x.s.n x.s.c] 127)) :=
    run_storeCells_new (P := Tryz.prog) wr 127 #[.string ⟨#[]⟩, .int .i64 0, .int .i64 0, .nilFunc, .slice none 0 0] #[S x.word, I x.lo, I x.hi, .func (.func x.fN) #[] #[], .slice x.s.a x.s.n x.s.c] (by kernel_rfl) rfl (by simp [Value.oneCell'])
   have hal := below_alloc wr (.cells #[S x.word, I x.lo, I x.hi, .func (.func x.fN) #[] #[], .slice x.s.a x.s.n x.s.c] 127)
   have hVx := (hal.block _ (heap_lt ((hB.block _ (heap_lt hV1)).trans hV1))).trans ((hB.block _ (heap_lt hV1)).trans hV1)
   have cx := hcall _ (hB.trans (hal.mono hB.size))
   unfold kdC at cx
   have hngw : g ≠ wr.heap.size := by have := hB.size; omega
   have HB2 : Hid (Below w1.heap.size w1 (wr.alloc (.cells #[S x.word, I x.lo, I x.hi, .func (.func x.fN) #[] #[], .slice x.s.a x.s.n x.s.c] 127))) := hB.trans (hal.mono hB.size)
   have hbw2 : Hid (Below w.heap.size w (wr.alloc (.cells #[S x.word, I x.lo, I x.hi, .func (.func x.fN) #[] #[], .slice x.s.a x.s.n x.s.c] 127))) := hbwr.trans (hal.mono hbwr.size)
   rw [e] at *
   clear hcall hrow ho HRj hal hx hB hbwr HL HS
   cases o with
   | none =>
    go_wp2_with (first | (refine wpList_load_row rfl 33 _ rfl w.heap.size rfl 33 _ (0, 0) _ hVx Tryz.underlying33 rfl hi18 ?_) | (go_at_call 53; refine cx.mono ?_; rintro e5 w5 ⟨rfl, hb5⟩))
    have HB5 : Hid (Below w1.heap.size w1 w5) := HB2.out.trans (hb5.mono HB2.out.size)
    go_roundw
    case rel => exact ⟨j + 1, by omega, by go_num, HB5.out, HD.out⟩
    case measure => simp [intOf]; omega
   | some ci =>
    obtain ⟨cd, ix⟩ := ci
    go_wp2_with (first | (refine wpList_load_row rfl 33 _ rfl w.heap.size rfl 33 _ (0, 0) _ hVx Tryz.underlying33 rfl hi18 ?_) | (go_at_call 53; refine cx.mono ?_; rintro e5 w5 ⟨b5, rfl, hb51, hb52, hb53⟩))
    go_ret
    show AllPost w R _ _
    rw [HD.out]
    exact refPost_back ⟨b5, rfl, hb51, hb52, hb53⟩ hbw2.out
  ·obtain rfl : j = s.n := by omega
   have hlt' : ¬ ((s.n : Nat) : Int) < (s.n : Nat) := by omega
   have HE : Hid (R = none) := by show _ = _; rw [HRj.out, List.drop_eq_nil_of_le (by rw [HK.out.2, HN.out]; exact Nat.le_refl _)]; rfl
   go_wp2
   go_ret
   show AllPost w R _ _
   rw [HE.out]
   exact ⟨rfl, hbwr⟩
end Go.Proofs.YtpbnpmeigdjfdaaGreatDoor
