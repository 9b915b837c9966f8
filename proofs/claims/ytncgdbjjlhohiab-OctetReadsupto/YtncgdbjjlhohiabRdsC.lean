import Derived.Test.YtncgdbjjlhohiabRdsA
namespace Go.Proofs.Ytncgdbjjlhohiab
open Go.RowKit
set_option linter.unusedVariables false

theorem slice_mid (b o n cap k m : Nat) (z hi : Int) (ez : z = k) (ehi : hi = (k : Int) + m) (h : k + m ≤ cap) (hk : k < cap) (wx : World) :
    (Instr.slice 30 (.slice (some ⟨b, o, none⟩) n cap) (some (.int .i64 z)) (some (.int .i64 hi)) none).run Try.prog wx = .ok (.slice (some ⟨b, o + k, none⟩) m (cap - k)) wx := by
  subst ez ehi
  have ht : Try.prog.underlying 30 = some (.slice (Try.prog.elem 30)) := by kernel_rfl
  have hs : ∀ w, (sizeOf (Try.prog.elem 30)).run Try.prog w = .ok 1 w := fun w => by
    obtain ⟨i0, hi, hz0, hz1, hz2⟩ := info_parts Try.info5
    have : Try.prog.elem 30 = 5 := by kernel_rfl
    rw [this]
    simp [sizeOf, typeInfo, hi, hz1]
  rw [run_slice_lh wx 30 _ n cap ht .i64 .i64 (k : Int) ((k : Int) + m) (by omega) (by omega) (by omega), hs]
  have e1 : ((k : Int)).toNat = k := by omega
  have e2 : ((k : Int) + m).toNat = k + m := by omega
  have e3 : ¬ cap = k := by omega
  simp only [Result.andThen, sliced, e1, e2, if_neg e3, Option.map_some, Nat.mul_one, Nat.add_sub_cancel_left]
  congr 1
  unfold Addr.add
  by_cases h0 : k = 0
  · subst h0; simp
  · simp [h0]

/-- The plain reader at block p, at its place k. -/
structure IsP (w : World) (base p : Nat) (a : Option Addr) (n cap k : Nat) (l : List UInt8) : Prop where
  hheap : w.heap[p]? = some (.cells #[.slice a n cap, .int .i64 (k : Int)] 58 (0, 0))
  hbase : base ≤ p
  hrd : Rd w a n cap l
  hlt : ∀ b off, a = some ⟨b, off, none⟩ → 0 < n → b < p
  hk : k ≤ n
theorem IsP.c0 {w : World} {base p : Nat} {a : Option Addr} {n cap k : Nat} {l : List UInt8} (h : IsP w base p a n cap k l) : w.cell? ⟨p, 0, none⟩ = some (.slice a n cap) := by
  rw [cell_of_row w p 0 _ 58 (0, 0) h.hheap]; rfl
theorem IsP.c1 {w : World} {base p : Nat} {a : Option Addr} {n cap k : Nat} {l : List UInt8} (h : IsP w base p a n cap k l) : w.cell? ⟨p, 1, none⟩ = some (.int .i64 (k : Int)) := by
  rw [cell_of_row w p 1 _ 58 (0, 0) h.hheap]; rfl
theorem IsP.f1 {w : World} {base p : Nat} {a : Option Addr} {n cap k : Nat} {l : List UInt8} (h : IsP w base p a n cap k l) : w.frozen? ⟨p, 1, none⟩ = false :=
  frozen_of_row w p 1 _ 58 h.hheap
theorem IsP.plt {w : World} {base p : Nat} {a : Option Addr} {n cap k : Nat} {l : List UInt8} (h : IsP w base p a n cap k l) : p < w.heap.size := by
  rcases Nat.lt_or_ge p w.heap.size with h' | h'
  · exact h'
  · have := h.hheap; rw [Array.getElem?_eq_none h'] at this; cases this
theorem IsP.below {w w' : World} {base p : Nat} {a : Option Addr} {n cap k : Nat} {l : List UInt8} (h : IsP w base p a n cap k l) (hb : Below w.heap.size w w') : IsP w' base p a n cap k l :=
  ⟨(hb.block p h.plt).trans h.hheap, h.hbase, h.hrd.below hb, h.hlt, h.hk⟩
theorem isP_store {w : World} {base p : Nat} {a : Option Addr} {n cap k : Nat} {l : List UInt8} (h : IsP w base p a n cap k l) (k' : Nat) (hk : k' ≤ n) :
    IsP (w.setCell ⟨p, 1, none⟩ (.int .i64 (k' : Int))) base p a n cap k' l ∧ w.grownBy (w.setCell ⟨p, 1, none⟩ (.int .i64 (k' : Int))) (some p) := by
  refine ⟨⟨heap_setCell_same w p 1 _ 58 _ h.hheap, h.hbase, ⟨h.hrd.hlen, h.hrd.hle, h.hrd.hsmall, h.hrd.hnil, fun hp => ?_⟩, h.hlt, hk⟩, rfl, rfl, rfl, by simp, fun k _ hk => heap_setCell_other w ⟨p, 1, none⟩ k _ (fun e => hk (by simp [e]))⟩
  obtain ⟨b, off, e, hb, hc⟩ := h.hrd.hcell hp
  have hbr := h.hlt b off e hp
  refine ⟨b, off, e, by simpa using hb, fun i x hx => ?_⟩
  rw [World.cell?_of_block (w := w) (heap_setCell_other w ⟨p, 1, none⟩ b _ (by simp; omega))]
  exact hc i x hx

set_option maxHeartbeats 1000000 in
theorem new_any (a : Option Addr) (n c : Nat) (l : List UInt8) (w : World) (ha : Rd w a n c l) :
    Calls Try.prog 19 #[.slice a n c] w fun e w' => ∃ p, e = .returned (.pointer (some ⟨p, 0, none⟩)) ∧ IsP w' w.heap.size p (some ⟨w.heap.size, 0, none⟩) n n 0 l ∧ w.heap.size < p ∧ Below w.heap.size w w' := by
  have hs1 := ha.hsmall
  go_enter Try.func19, Try.ntmps19
  go_wp2_with (go_at_call 17; refine (copy_any _ _ _ _ _ ha).mono ?_; rintro e w2 ⟨rfl, ho2, hb2⟩)
  have hrd := rd_of_owns ho2 hs1
  have hsz := hb2.size
  have hwp := (ho2.lt w.heap.size rfl).2
  have hba : Below w2.heap.size w2 (w2.alloc (.cells #[.slice (some ⟨w.heap.size, 0, none⟩) n n, .int .i64 0] 58)) := (Below.refl _ _).alloc (Nat.le_refl _) _
  have HI : Hid (IsP (w2.alloc (.cells #[.slice (some ⟨w.heap.size, 0, none⟩) n n, .int .i64 0] 58)) w.heap.size w2.heap.size (some ⟨w.heap.size, 0, none⟩) n n 0 l) := by
    refine ⟨heap_alloc_new w2 _, hsz, hrd.below hba, fun b off e hp => ?_, Nat.zero_le _⟩
    obtain ⟨b', off', e', hlt', _⟩ := hrd.hcell hp
    rw [e] at e'
    simp only [Option.some.injEq, Addr.mk.injEq] at e'
    omega
  have hb3 : Below w.heap.size w (w2.alloc (.cells #[.slice (some ⟨w.heap.size, 0, none⟩) n n, .int .i64 0] 58)) := hb2.alloc hsz _
  clear ho2 hb2 hrd hba
  go_wp2
  go_ret
  exact ⟨_, rfl, HI.out, hwp, hb3⟩

theorem shl_or (v x : Nat) (hv : v < 256 ^ 7) (hx : x < 256) : bits .or .u64 ((v : Int) * 256) (x : Int) = ((x + 256 * v : Nat) : Int) := by
  have e : ((v : Int) * 256) = ((v * 256 : Nat) : Int) := by omega
  rw [e, bits_or_u64_nat _ _ (by omega) (by omega)]
  have := Nat.two_pow_add_eq_or_of_lt (i := 8) hx v
  rw [Nat.mul_comm v 256, show (256 : Nat) = 2 ^ 8 from rfl, ← this, Nat.add_comm]
theorem leV_drop (l : List UInt8) (j : Nat) (x : UInt8) (h : l[j]? = some x) : leV (l.drop j) = x.toNat + 256 * leV (l.drop (j + 1)) := by
  have hj := (List.getElem?_eq_some_iff.mp h).1
  have hx := (List.getElem?_eq_some_iff.mp h).2
  rw [List.drop_eq_getElem_cons hj, hx]; rfl
set_option maxHeartbeats 1000000 in
theorem value_of (a : Option Addr) (n c : Nat) (l : List UInt8) (w : World) (ha : Rd w a n c l) (h8 : n ≤ 8) :
    Calls Try.prog 39 #[.slice a n c] w fun e w' => e = .returned (.int .u64 (leV l : Nat)) ∧ w = w' := by
  have HL : Hid (_ = _) := ha.hlen
  have hs1 := ha.hsmall
  go_enter Try.func39, Try.ntmps39
  go_wp2
  go_loop [3, 4] (fun v i => ∃ j : Nat, j ≤ n ∧ i = .int .i64 ((j : Int) - 1) ∧ v = .int .u64 ((leV (l.drop j) : Nat) : Int)) (fun _ i => (intOf i + 1).toNat)
  case atStart => exact ⟨n, Nat.le_refl _, rfl, by rw [List.drop_of_length_le (by rw [HL.out]; exact Nat.le_refl _)]; rfl⟩
  case round =>
    obtain ⟨j, hj, rfl, rfl⟩ := hrel
    by_cases h0 : j = 0
    · subst h0
      go_wp2
      go_ret
      exact ⟨ret_int (by simp), rfl⟩
    · obtain ⟨i, rfl⟩ : ∃ i, j = i + 1 := ⟨j - 1, by omega⟩
      obtain ⟨b, off, rfl, hbw, hc⟩ := ha.hcell (by omega)
      obtain ⟨x, hx⟩ : ∃ x, l[i]? = some x := ⟨l[i]'(by rw [HL.out]; omega), List.getElem?_eq_getElem _⟩
      have hcx := hc i x hx
      have hx8 := x.toNat_lt
      have HN : Hid (_ = _) := leV_drop l i x hx
      have hv := leV_lt (l.drop (i + 1))
      have hv7 : leV (l.drop (i + 1)) < 256 ^ 7 := by
        refine Nat.lt_of_lt_of_le hv (Nat.pow_le_pow_right (by decide) ?_)
        rw [List.length_drop, HL.out]; omega
      have HO : Hid (_ = _) := shl_or _ x.toNat hv7 (by omega)
      have e1 : ((i + 1 : Nat) : Int) - 1 = (i : Int) := by omega
      rw [e1]
      generalize leV (l.drop (i + 1)) = v at *
      have hv9 : (v : Int) * 256 < 18446744073709551616 := by omega
      clear hx hc hv
      go_wp2
      go_round
      case rel => exact ⟨i, by omega, by go_num, by rw [HN.out, ← HO.out]⟩
      case measure => simp [intOf]
theorem value_q (a : Option Addr) (n c : Nat) (l : List UInt8) (w : World) (ha : Rd w a n c l) (h8 : n ≤ 8) :
    Calls Try.prog 39 #[.slice a n c] w fun e w' => e = .returned (.int .u64 (leV l : Nat)) ∧ w' = w :=
  (value_of a n c l w ha h8).mono fun e w' ⟨h1, h2⟩ => ⟨h1, h2.symm⟩
/-- m bytes from the place k on. -/
theorem rd_mid {w : World} {b o n cap : Nat} {l : List UInt8} (h : Rd w (some ⟨b, o, none⟩) n cap l) (k m : Nat) (hm : k + m ≤ n) : Rd w (some ⟨b, o + k, none⟩) m (cap - k) ((l.drop k).take m) := by
  have hl := h.hlen
  have hle := h.hle
  have hs := h.hsmall
  refine ⟨by simp; omega, by omega, by omega, (fun e => by cases e), fun hp => ?_⟩
  obtain ⟨b', o', e', hb, hc⟩ := h.hcell (by omega)
  simp only [Option.some.injEq, Addr.mk.injEq, and_true] at e'
  obtain ⟨rfl, rfl⟩ := e'
  refine ⟨b, o + k, rfl, hb, fun i x hx => ?_⟩
  have hi := (List.getElem?_eq_some_iff.mp hx).1
  simp at hi
  rw [List.getElem?_take_of_lt (by omega), List.getElem?_drop] at hx
  rw [Nat.add_assoc]
  exact hc _ x hx
theorem IsP.drew {w : World} {base p : Nat} {a : Option Addr} {n cap k : Nat} {l : List UInt8} (h : IsP w base p a n cap k l) (q : Nat) : IsP (w.drewN q) base p a n cap k l := h.below (drewN_below (Below.refl _ _) q)
theorem grown_trans {w w1 w2 : World} {k : Nat} (h1 : w.grownBy w1 (some k)) (h2 : w1.grownBy w2 (some k)) : w.grownBy w2 (some k) :=
  ⟨h2.os.trans h1.os, h2.tape.trans h1.tape, h2.output.trans h1.output, Nat.le_trans h1.size h2.size, fun j hj hne => (h2.block j (Nat.lt_of_lt_of_le hj h1.size) hne).trans (h1.block j hj hne)⟩
theorem grown_drewN {w : World} (q k : Nat) : w.grownBy (w.drewN q) (some k) :=
  have b := drewN_below (Below.refl w.heap.size w) q
  ⟨b.os, b.tape, b.output, b.size, fun j hj _ => b.block j hj⟩
set_option maxHeartbeats 1000000 in
theorem pnumber_arg {w : World} {base p : Nat} {a : Option Addr} {n cap k : Nat} {l : List UInt8} (h : IsP w base p a n cap k l) (m : Int) (hm : m < 1 ∨ 8 < m) : Calls Try.prog 21 #[.pointer (some ⟨p, 0, none⟩), .int .i64 m] w fun e w' => e = .returned (.tuple #[.int .u64 0, .int .i64 2]) ∧ IsP w' base p a n cap k l ∧ w.grownBy w' (some p) := by
  have hq : IsP w base p a n cap k l ∧ w.grownBy w (some p) := ⟨h, rfl, rfl, rfl, Nat.le_refl _, fun _ _ _ => rfl⟩
  by_cases h1 : m < 1
  · clear hm
    go_enter Try.func21, Try.ntmps21
    go_wp2
    go_ret2
    exact ⟨rfl, hq⟩
  · have h1' : 1 ≤ m := by omega
    have h8 : 8 < m := by omega
    clear hm
    go_enter Try.func21, Try.ntmps21
    go_wp2
    go_ret2
    exact ⟨rfl, hq⟩
set_option maxHeartbeats 1000000 in
theorem pnumber_short {w : World} {base p : Nat} {a : Option Addr} {n cap k : Nat} {l : List UInt8} (h : IsP w base p a n cap k l) (m : Int) (h1 : 1 ≤ m) (h2 : m ≤ 8) (hm : (n : Int) - k < m) : Calls Try.prog 21 #[.pointer (some ⟨p, 0, none⟩), .int .i64 m] w fun e w' => e = .returned (.tuple #[.int .u64 0, .int .i64 10]) ∧ IsP w' base p a n cap k l ∧ w.grownBy w' (some p) := by
  have c0 := h.c0
  have c1 := h.c1
  have hk := h.hk
  have hs := h.hrd.hsmall
  go_enter Try.func21, Try.ntmps21
  go_wp2
  go_quiet (fail)
  go_wp2
  go_ret2
  exact ⟨rfl, h.drew _, grown_drewN _ _⟩
set_option maxHeartbeats 1000000 in
theorem pnumber_made {w : World} {base p : Nat} {a : Option Addr} {n cap k : Nat} {l : List UInt8} (h : IsP w base p a n cap k l) (m : Nat) (h1 : 1 ≤ m) (h2 : m ≤ 8) (hm : k + m ≤ n) : Calls Try.prog 21 #[.pointer (some ⟨p, 0, none⟩), .int .i64 m] w fun e w' => e = .returned (.tuple #[.int .u64 (leV ((l.drop k).take m) : Nat), .int .i64 0]) ∧ IsP w' base p a n cap (k + m) l ∧ w.grownBy w' (some p) := by
  have c0 := h.c0
  have c1 := h.c1
  have f1 := h.f1
  have hk := h.hk
  have hs := h.hrd.hsmall
  have hle := h.hrd.hle
  obtain ⟨b1, o1, rfl, hb1, hc1⟩ := h.hrd.hcell (by omega)
  clear hc1
  have hnm : ¬ (n : Int) - k < m := by omega
  go_enter Try.func21, Try.ntmps21
  go_wp2
  go_quiet (fail)
  have R := isP_store (h.drew nq) (k + m) hm
  have f2 := (h.drew nq).f1
  have e0 : ((k + m : Nat) : Int) = (k : Int) + m := by omega
  rw [e0] at R
  obtain ⟨W, hW⟩ : ∃ W, (w.drewN nq).setCell ⟨p, 1, none⟩ (.int .i64 ((k : Int) + m)) = W := ⟨_, rfl⟩
  rw [hW] at R
  have d0 := R.1.c0
  have d1 := R.1.c1
  rw [e0] at d1
  have HG := (show Hid (IsP W base p (some ⟨b1, o1, none⟩) n cap (k + m) l ∧ w.grownBy W (some p)) from ⟨R.1, grown_two (drewN_below (Below.refl _ _) nq) R.2⟩)
  have hrm := rd_mid R.1.hrd k m hm
  have HV : Hid (∀ q, Calls Try.prog 39 #[.slice (some ⟨b1, o1 + k, none⟩) m (cap - k)] (W.drewN q) fun e w' => e = .returned (.int .u64 (leV ((l.drop k).take m) : Nat)) ∧ w' = W.drewN q) := fun q => value_q _ _ _ _ _ (hrm.below (drewN_below (Below.refl _ _) q)) h2
  have hsl := fun wx => slice_mid b1 o1 n cap k m (k : Int) ((k : Int) + m) rfl rfl (by omega) (by omega) wx
  have hwk : IntKind.i64.wrap (k : Int) = k := by rw [IntKind.wrap_i64]; omega
  clear R hrm e0
  go_wp2
  clear hW c0 c1 f1 f2
  go_quiet ((go_at_call 39; exact Calls.quiet_of_same (HV.out _)))
  go_wp2
  go_ret2
  exact ⟨rfl, HG.out.1.drew _, grown_trans HG.out.2 (grown_drewN _ _)⟩
end Go.Proofs.Ytncgdbjjlhohiab
