import Derived.Test.YtnlbdhplpjcgcaaDoorFmt
import Derived.Test.YtnlbdhplpjcgcaaDoorHeads
namespace Go.Proofs.YtnlbdhplpjcgcaaDoor
open Go.RowKit
set_option linter.unusedVariables false

def digs10 : List UInt8 := [48, 49, 50, 51, 52, 53, 54, 55, 56, 57]
def digS10 : ByteArray := { data := #[48, 49, 50, 51, 52, 53, 54, 55, 56, 57] }
def nib10 (c : UInt8) : Nat := digs10.idxOf c
theorem nib10_le (c : UInt8) : nib10 c ≤ 10 := List.idxOf_le_length
theorem nib10_ne (c : UInt8) (p : Nat) (h : p < nib10 c) : digs10[p]'(Nat.lt_of_lt_of_le h (nib10_le c)) ≠ c := by
  have := List.not_of_lt_findIdx (p := fun x => x == c) (xs := digs10) (show p < digs10.findIdx (fun x => x == c) from h)
  intro e
  rw [beq_eq_false_iff_ne] at this
  exact this e
theorem nib10_eq (c : UInt8) (h : nib10 c < 10) : digs10[nib10 c]'h = c := List.getElem_idxOf (show digs10.idxOf c < digs10.length from h)
theorem digs10_ascii : ∀ p (h : p < 10), (digs10[p]'h).toNat < 128 := by decide
theorem digS10_cut : ({ data := #[48, 49, 50, 51, 52, 53, 54, 55, 56, 57, 97, 98, 99, 100, 101, 102] } : ByteArray).extract 0 10 = digS10 := by decide +kernel
theorem nib10_all : ∀ n, n < 256 → (isD (UInt8.ofNat n) = decide (nib10 (UInt8.ofNat n) < 10) ∧ (isD (UInt8.ofNat n) = true → nib10 (UInt8.ofNat n) = dV (UInt8.ofNat n))) := by decide +kernel
theorem nib10_isD (c : UInt8) : isD c = decide (nib10 c < 10) := by
  have := (nib10_all c.toNat c.toNat_lt).1
  rwa [UInt8.ofNat_toNat] at this
theorem nib10_dV (c : UInt8) (h : isD c = true) : nib10 c = dV c := by
  have := (nib10_all c.toNat c.toNat_lt).2
  rw [UInt8.ofNat_toNat] at this
  exact this h
def vO (c : UInt8) : Int := if isD c = true then (dV c : Int) else 0

set_option maxHeartbeats 1000000 in
theorem value10 (c : UInt8) (w : World) :
    Calls Tryd.prog 9 #[.int .u8 c.toNat, .int .i64 10] w fun e w' => e = .returned (.tuple #[.int .i64 (vO c), .bool (isD c)]) ∧ Below w.heap.size w w' := by
  have hn := nib10_le c
  have hc8 := c.toNat_lt
  have HV : Hid (nib10 c < 10 → vO c = (nib10 c : Int) ∧ isD c = true) := fun h => by
    have e : isD c = true := by rw [nib10_isD]; exact decide_eq_true h
    exact ⟨by unfold vO; rw [if_pos e, nib10_dV c e], e⟩
  have HN : Hid (¬ nib10 c < 10 → vO c = 0 ∧ isD c = false) := fun h => by
    have e : isD c = false := by rw [nib10_isD]; exact decide_eq_false h
    exact ⟨by unfold vO; rw [if_neg (by rw [e]; decide)], e⟩
  go_enter Tryd.func9, Tryd.ntmps9
  go_wp2
  rw [digS10_cut]
  go_loopw [6] (fun _ wr => ∃ pos : Nat, pos ≤ nib10 c ∧ wr = w.iter digS10 pos) (fun _ wr => 10 - wr.iterPos w.heap.size)
  case atStart => exact ⟨0, Nat.zero_le _, rfl⟩
  case round =>
    obtain ⟨pos, hp, rfl⟩ := hrel
    have hbel : ∀ q, Below w.heap.size w (w.iter digS10 q) := fun q => (Below.refl _ _).alloc (Nat.le_refl _) _
    have hpos : ∀ q, (w.iter digS10 q).iterPos w.heap.size = q := fun q => by unfold World.iterPos; rw [World.iter_heap]
    by_cases hlt : pos < 10
    · have hnx : ∀ ty, (Instr.next (.pointer (some ⟨w.heap.size, 0, none⟩)) true ty).run Tryd.prog (w.iter digS10 pos) = .ok (.tuple #[.bool true, .int .i64 pos, .int .i32 (digs10[pos]'hlt).toNat]) (w.iter digS10 (pos + 1)) := fun ty => run_next_ascii w digS10 pos ty hlt (digs10_ascii pos hlt)
      by_cases he : pos < nib10 c
      · have hne := nib10_ne c pos he
        have hb : ((((digs10[pos]'hlt).toNat : Nat) : Int) == (c.toNat : Int)) = false := by
          rw [beq_eq_false_iff_ne]; intro e; exact hne (UInt8.toNat_inj.mp (by omega))
        generalize digs10[pos]'hlt = d at *
        clear hne
        go_wp2
        go_roundw
        case rel => exact ⟨pos + 1, by omega, rfl⟩
        case measure => rw [hpos, hpos]; omega
      · have hpe : pos = nib10 c := by omega
        have hd : digs10[pos]'hlt = c := by subst hpe; exact nib10_eq c hlt
        rw [hd] at hnx
        have HP : Hid (pos = nib10 c) := hpe
        clear hd hpe
        go_wp2
        go_ret2
        obtain ⟨e1, e2⟩ := HV.out (by rw [← HP.out]; exact hlt)
        refine ⟨tup2 ?_ ?_, hbel _⟩
        · rw [e1, HP.out]; rfl
        · rw [e2]; rfl
    · have hp16 : pos = 10 := by omega
      subst hp16
      have hnx : ∀ ty, (Instr.next (.pointer (some ⟨w.heap.size, 0, none⟩)) true ty).run Tryd.prog (w.iter digS10 10) = _ := fun ty => run_next_end w digS10 10 ty (by decide)
      go_wp2
      go_ret2
      obtain ⟨e1, e2⟩ := HN.out (by omega)
      refine ⟨tup2 ?_ ?_, hbel _⟩
      · rw [e1]; rfl
      · rw [e2]; rfl

set_option maxHeartbeats 1000000 in
theorem room_any (v d m : Nat) (hm : m < 18446744073709551616) (hd : d < 10) (w : World) :
    Calls Tryd.prog 10 #[.int .u64 v, .int .u64 d, .int .u64 m] w fun e w' => e = .returned (.bool (decide (10 * v + d ≤ m))) ∧ w = w' := by
  by_cases h : d ≤ m
  · have h' : (d : Int) ≤ (m : Int) := by omega
    have hw : IntKind.u64.wrap ((m : Int) - (d : Int)) = (m : Int) - (d : Int) := by rw [IntKind.wrap_u64]; omega
    go_enter Tryd.func10, Tryd.ntmps10
    go_wp2
    go_ret
    refine ⟨ret_bool ?_, rfl⟩
    simp
    omega
  · have h' : ¬ (d : Int) ≤ (m : Int) := by omega
    go_enter Tryd.func10, Tryd.ntmps10
    go_wp2
    go_ret
    refine ⟨ret_bool ?_, rfl⟩
    simp
    omega
end Go.Proofs.YtnlbdhplpjcgcaaDoor
