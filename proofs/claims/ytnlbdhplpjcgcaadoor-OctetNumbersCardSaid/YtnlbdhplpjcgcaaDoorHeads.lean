import Derived.Test.YtnlbdhplpjcgcaaDoorReadB
import Derived.Lib.SlBytesConst
namespace Go.Proofs.YtnlbdhplpjcgcaaDoor
open Go.RowKit
set_option linter.unusedVariables false

theorem number_258 (w : World) : Calls Tryd.prog 12 #[.int .u64 258, .int .i64 2] w fun e w' => e = .returned (.tuple #[.slice (some ⟨w.heap.size, 0, none⟩) 2 2, .int .i64 0]) ∧ Rd w' (some ⟨w.heap.size, 0, none⟩) 2 2 [2, 1] ∧ Below w.heap.size w w' := by
  refine (number_yes 258 2 w (by omega) (by omega) (by omega) (by omega)).mono ?_
  rintro e w' ⟨he, ho, hb⟩
  exact ⟨he, rd_of_owns (l := [2, 1]) ho (by omega), hb⟩
theorem text_ab (w : World) : Calls Tryd.prog 13 #[.string { data := #[97, 98] }] w fun e w' => ∃ a cap, e = .returned (.tuple #[.slice a 3 cap, .int .i64 0]) ∧ Rd w' a 3 cap [2, 97, 98] ∧ Below w.heap.size w w' := by
  refine (text_yes { data := #[97, 98] } w (by decide) (by decide)).mono ?_
  rintro e w' ⟨a, cap, he, ho, hb⟩
  exact ⟨a, cap, he, rd_of_owns (l := [2, 97, 98]) ho (by omega), hb⟩
theorem rnumber_two {w : World} {base r : Nat} {a : Option Addr} {cap : Nat} (h : IsR w base r a 3 cap [1, 2, 0]) : Calls Tryd.prog 15 #[.pointer (some ⟨r, 0, none⟩), .int .i64 2] w fun e w' => e = .returned (.tuple #[.int .u64 513, .int .i64 0]) ∧ Rdr w' base r [0] ∧ w.grownBy w' (some r) :=
  rnumber_made h 2 (by omega) (by omega) (by omega)
theorem rnumber_two_short {w : World} {base r : Nat} (h : Rdr w base r [0]) : Calls Tryd.prog 15 #[.pointer (some ⟨r, 0, none⟩), .int .i64 2] w fun e w' => e = .returned (.tuple #[.int .u64 0, .int .i64 10]) ∧ w = w' := by
  obtain ⟨a, cap, h⟩ := h
  exact rnumber_short h 2 (by omega) (by omega) (by simp)
theorem rleft_one {w : World} {base r : Nat} (h : Rdr w base r [0]) : Calls Tryd.prog 17 #[.pointer (some ⟨r, 0, none⟩)] w fun e w' => e = .returned (.int .i64 1) ∧ w = w' := by
  obtain ⟨a, cap, h⟩ := h
  exact rleft_made h
theorem rd_lit (w : World) (l : List UInt8) (cs : Array Value) (n : Nat) (hn : l.length = n) (hc : cs.toList = l.map B) (hs : n ≤ 1000) : Rd (w.alloc (.cells cs 5)) (some ⟨w.heap.size, 0, none⟩) n n l := by
  refine rd_of_owns (base := w.heap.size) ?_ (by omega)
  rw [← hc]
  exact World.ownsRow_lit w cs n (Nat.le_refl _) (by unfold maxLen; omega) (by rw [← Array.length_toList, hc]; simp [hn])

theorem Rdr.below {w w' : World} {base r : Nat} {l : List UInt8} (h : Rdr w base r l) (hb : Below w.heap.size w w') : Rdr w' base r l := by
  obtain ⟨a, cap, h⟩ := h
  exact ⟨a, cap, h.below hb⟩
theorem rd_grown {w w' : World} {a : Option Addr} {n cap : Nat} {l : List UInt8} {r : Nat} (h : Rd w a n cap l) (hg : w.grownBy w' (some r)) (hne : ∀ b off, a = some ⟨b, off, none⟩ → 0 < n → b ≠ r) : Rd w' a n cap l := by
  refine ⟨h.hlen, h.hle, h.hsmall, h.hnil, fun hp => ?_⟩
  obtain ⟨b, off, e, hb, hc⟩ := h.hcell hp
  have hbr := hne b off e hp
  exact ⟨b, off, e, Nat.lt_of_lt_of_le hb hg.size, fun i x hx => hg.cell (hc i x hx) (by simp; omega)⟩
theorem Rd.blt {w : World} {a : Option Addr} {n cap : Nat} {l : List UInt8} (h : Rd w a n cap l) : ∀ b off, a = some ⟨b, off, none⟩ → 0 < n → b < w.heap.size := by
  intro b off e hp
  obtain ⟨b', off', e', hb, _⟩ := h.hcell hp
  rw [e] at e'
  simp only [Option.some.injEq, Addr.mk.injEq] at e'
  omega

/-- What stands ahead of the last line of heads. -/
structure HeadsAt (w w5 : World) (a2 : Option Addr) (cap2 r base : Nat) : Prop where
  r1 : Rd w5 (some ⟨w.heap.size, 0, none⟩) 2 2 [2, 1]
  r2 : Rd w5 a2 3 cap2 [2, 97, 98]
  rr : Rdr w5 base r [0]
  hb : Below w.heap.size w w5

theorem heads_at {w w1 w2 w4 w5 : World} {a2 : Option Addr} {cap2 r : Nat} {o : Obj} (r1 : Rd w1 (some ⟨w.heap.size, 0, none⟩) 2 2 [2, 1]) (hb1 : Below w.heap.size w w1)
    (r2 : Rd w2 a2 3 cap2 [2, 97, 98]) (hb2 : Below w1.heap.size w1 w2) (hb4 : Below (w2.alloc o).heap.size (w2.alloc o) w4) (hr : (w2.alloc o).heap.size ≤ r) (rr : Rdr w5 (w2.alloc o).heap.size r [0]) (hg : w4.grownBy w5 (some r)) : HeadsAt w w5 a2 cap2 r (w2.alloc o).heap.size := by
  have hb3 : Below w2.heap.size w2 (w2.alloc o) := (Below.refl _ _).alloc (Nat.le_refl _) o
  have hb3s : (w2.alloc o).heap.size = w2.heap.size + 1 := by simp
  have e1 := hb1.size
  have e2 := hb2.size
  have e4 := hb4.size
  have r1b := ((r1.below hb2).below hb3).below hb4
  have r2b := (r2.below hb3).below hb4
  refine ⟨rd_grown r1b hg (fun b off e hp => by have := r1.blt b off e hp; omega), rd_grown r2b hg (fun b off e hp => by have := r2.blt b off e hp; omega), rr, ?_⟩
  exact (((hb1.trans (hb2.mono (by omega))).trans (hb3.mono (by omega))).trans (hb4.mono (by omega))).grown hg (by omega) (fun k h => by simp at h; omega)

theorem same_yes (a b : Option Addr) (n m c d : Nat) (l : List UInt8) (w : World) (ha : Rd w a n c l) (hb : Rd w b m d l) :
    Calls Tryd.prog 16 #[.slice a n c, .slice b m d] w fun e w' => e = .returned (.bool true) ∧ Below w.heap.size w w' := by
  refine (same_any a b n m c d l l w ha hb).mono ?_
  rintro e w' ⟨rfl, q, rfl⟩
  exact ⟨ret_bool (by simp), drewN_below (Below.refl _ _) q⟩
theorem rd_convert {w : World} {a : Option Addr} {n cap : Nat} {l : List UInt8} (h : Rd w a n cap l) (hp : 0 < n) : (convert 35 9 (.slice a n cap)).run Tryd.prog w = .ok (.string ⟨l.toArray⟩) w := by
  obtain ⟨b, off, rfl, _, hc⟩ := h.hcell hp
  have := h.hlen
  subst this
  refine run_convert_bytes_back w 35 9 5 ⟨b, off, none⟩ cap l Tryd.underlying35 Tryd.underlying5 Tryd.underlying9 (fun j hj => ?_)
  have := hc j l[j] (List.getElem?_eq_getElem hj)
  by_cases h0 : j = 0
  · subst h0; simpa [Addr.add] using this
  · simpa [Addr.add, h0] using this
theorem heap_alloc_old (w : World) (o : Obj) (k : Nat) (h : k < w.heap.size) : (w.alloc o).heap[k]? = w.heap[k]? := Below.heap_alloc w o k h
theorem crc_heads (w : World) : RdAll ((w.alloc (.cells #[.int .u8 49, .int .u8 50, .int .u8 51, .int .u8 52, .int .u8 53, .int .u8 54, .int .u8 55, .int .u8 56, .int .u8 57] 5 (9, 10))).alloc (.cells #[.slice (some ⟨w.heap.size, 0, none⟩) 9 9] 35)) (some ⟨w.heap.size + 1, 0, none⟩) 1 1 [[49, 50, 51, 52, 53, 54, 55, 56, 57]] := by
  generalize hW : (w.alloc (.cells #[.int .u8 49, .int .u8 50, .int .u8 51, .int .u8 52, .int .u8 53, .int .u8 54, .int .u8 55, .int .u8 56, .int .u8 57] 5 (9, 10))) = W
  have hsz : W.heap.size = w.heap.size + 1 := by rw [← hW]; simp
  have h0 : W.heap[w.heap.size]? = some (.cells #[.int .u8 49, .int .u8 50, .int .u8 51, .int .u8 52, .int .u8 53, .int .u8 54, .int .u8 55, .int .u8 56, .int .u8 57] 5 (9, 10)) := by
    rw [← hW]; exact heap_alloc_new w _
  generalize hV : (W.alloc (.cells #[.slice (some ⟨w.heap.size, 0, none⟩) 9 9] 35)) = V
  have hsz2 : V.heap.size = w.heap.size + 2 := by rw [← hV]; simp [hsz]
  have h1 : V.heap[w.heap.size]? = W.heap[w.heap.size]? := by rw [← hV]; exact heap_alloc_old W _ _ (by omega)
  have h2 : V.heap[w.heap.size + 1]? = some (.cells #[.slice (some ⟨w.heap.size, 0, none⟩) 9 9] 35) := by
    rw [← hV, ← hsz]; exact heap_alloc_new W _
  refine ⟨rfl, by omega, fun _ => ⟨w.heap.size + 1, 0, rfl, fun i l hl => ?_⟩⟩
  match i, hl with
  | 0, hl =>
    simp only [List.getElem?_cons_zero, Option.some.injEq] at hl
    subst hl
    refine ⟨some ⟨w.heap.size, 0, none⟩, 9, 9, ?_, rfl, by omega, by omega, (fun e => by cases e), fun _ => ⟨w.heap.size, 0, rfl, by omega, fun i x hx => ?_⟩⟩
    · rw [cell_of_row V _ _ _ 35 (0, 0) h2]; rfl
    · rw [cell_of_row V _ _ _ 5 (9, 10) (h1.trans h0), Nat.zero_add]
      match i, hx with
      | 0, hx => simp at hx; subst hx; rfl
      | 1, hx => simp at hx; subst hx; rfl
      | 2, hx => simp at hx; subst hx; rfl
      | 3, hx => simp at hx; subst hx; rfl
      | 4, hx => simp at hx; subst hx; rfl
      | 5, hx => simp at hx; subst hx; rfl
      | 6, hx => simp at hx; subst hx; rfl
      | 7, hx => simp at hx; subst hx; rfl
      | 8, hx => simp at hx; subst hx; rfl
      | k + 9, hx => simp at hx
theorem crc_check : crcs 65535 [[49, 50, 51, 52, 53, 54, 55, 56, 57]] = 10673 := by decide +kernel

set_option maxHeartbeats 1000000 in
theorem heads_any (w : World) : Calls Tryd.prog 8 #[] w fun e w' => e = .returned (.bool true) ∧ Below w.heap.size w w' := by
  go_enter Tryd.func8, Tryd.ntmps8
  go_wp2_with fail
  refine (number_258 _).mono ?_
  rintro e w1 ⟨rfl, r1, hb1⟩
  go_wp2_with fail
  refine (text_ab _).mono ?_
  rintro e w2 ⟨a2, cap2, rfl, r2, hb2⟩
  go_wp2_with fail
  refine (newReader_any _ 3 3 [1, 2, 0] _ (rd_lit w2 [1, 2, 0] _ 3 rfl rfl (by omega))).mono ?_
  rintro e w4 ⟨r, a4, cap4, rfl, r4, hb4⟩
  have hr4 := r4.hbase
  go_wp2_with fail
  refine (rnumber_two r4).mono ?_
  rintro e w5 ⟨rfl, r5, hg5⟩
  have H := heads_at r1 hb1 r2 hb2 hb4 hr4 r5 hg5
  clear r1 hb1 r2 hb2 hb4 hr4 hg5 r4
  go_wp2_with fail
  refine (rnumber_two_short r5).mono ?_
  rintro e w6 ⟨rfl, rfl⟩
  clear r5
  go_wp2_with fail
  have hb6 : Below w5.heap.size w5 (w5.alloc (Obj.cells #[Value.int IntKind.u8 2, Value.int IntKind.u8 1] 5)) := (Below.refl _ _).alloc (Nat.le_refl _) _
  refine (same_yes _ _ 2 2 2 2 [2, 1] _ (H.r1.below hb6) (rd_lit w5 [2, 1] _ 2 rfl rfl (by omega))).mono ?_
  rintro e w7 ⟨rfl, hb7⟩
  have r7 := ((H.rr.below hb6).below hb7)
  have hcv := rd_convert ((H.r2.below hb6).below hb7) (by omega)
  have hbel := (H.hb.trans (hb6.mono H.hb.size)).trans (hb7.mono (by have := H.hb.size; simp; omega))
  clear H hb6 hb7
  have kc := fun (w : World) (C : Array Value) (n c : Nat) => Lib.run_convert_bytes_const (P := Tryd.prog) w 35 5 C n c Tryd.underlying35 Tryd.underlying5
  go_wp2_with fail
  refine (rleft_one r7).mono ?_
  rintro e w8 ⟨rfl, rfl⟩
  clear r7 hcv
  go_wp2_with fail
  refine (crc_any _ 1 1 _ _ (crc_heads w7)).mono ?_
  rintro e w9 ⟨rfl, rfl⟩
  rw [crc_check]
  go_wp2
  go_ret
  exact ⟨rfl, (hbel.alloc hbel.size _).alloc (by have := hbel.size; simp; omega) _⟩
end Go.Proofs.YtnlbdhplpjcgcaaDoor
