import Derived.Test.YtncgdbjjlhohiabWrites
namespace Go.Proofs.Ytncgdbjjlhohiab
open Go.RowKit
set_option linter.unusedVariables false

/-- The digits. -/
def digs : List UInt8 := [48, 49, 50, 51, 52, 53, 54, 55, 56, 57, 97, 98, 99, 100, 101, 102]
def digS : ByteArray := { data := #[48, 49, 50, 51, 52, 53, 54, 55, 56, 57, 97, 98, 99, 100, 101, 102] }
/-- What a digit is worth; 16: none. -/
def nib (c : UInt8) : Nat := digs.idxOf c
theorem nib_le (c : UInt8) : nib c ≤ 16 := List.idxOf_le_length
theorem dig_get (p : Nat) (h : p < 16) : digS[p]'h = digs[p]'h := rfl
theorem nib_ne (c : UInt8) (p : Nat) (h : p < nib c) : digs[p]'(Nat.lt_of_lt_of_le h (nib_le c)) ≠ c := by
  have := List.not_of_lt_findIdx (p := fun x => x == c) (xs := digs) (show p < digs.findIdx (fun x => x == c) from h)
  intro e
  rw [beq_eq_false_iff_ne] at this
  exact this e
theorem nib_eq (c : UInt8) (h : nib c < 16) : digs[nib c]'h = c := List.getElem_idxOf (show digs.idxOf c < digs.length from h)
theorem nib_dig (x : Nat) (h : x < 16) : nib (digs.getD x 0) = x := by
  match x, h with
  | 0, _ => rfl
  | 1, _ => rfl
  | 2, _ => rfl
  | 3, _ => rfl
  | 4, _ => rfl
  | 5, _ => rfl
  | 6, _ => rfl
  | 7, _ => rfl
  | 8, _ => rfl
  | 9, _ => rfl
  | 10, _ => rfl
  | 11, _ => rfl
  | 12, _ => rfl
  | 13, _ => rfl
  | 14, _ => rfl
  | 15, _ => rfl
  | k + 16, h => omega
theorem dig_of_nib (c : UInt8) (h : nib c < 16) : digs.getD (nib c) 0 = c := by
  rw [List.getD_eq_getElem?_getD, List.getElem?_eq_getElem (show nib c < digs.length from h)]
  exact nib_eq c h
theorem digs_ascii : ∀ p (h : p < 16), (digs[p]'h).toNat < 128 := by decide
theorem digS_cut : ({ data := #[48, 49, 50, 51, 52, 53, 54, 55, 56, 57, 97, 98, 99, 100, 101, 102] } : ByteArray).extract 0 16 = digS := by decide +kernel

def vOf (c : UInt8) : Int := if nib c < 16 then (nib c : Int) else 0
def okV (c : UInt8) : Bool := decide (nib c < 16)

set_option maxHeartbeats 1000000 in
theorem value_any (c : UInt8) (w : World) :
    Calls Try.prog 47 #[.int .u8 c.toNat, .int .i64 16] w fun e w' => e = .returned (.tuple #[.int .i64 (vOf c), .bool (okV c)]) ∧ Below w.heap.size w w' := by
  have hn := nib_le c
  have hc8 := c.toNat_lt
  go_enter Try.func47, Try.ntmps47
  go_wp2
  rw [digS_cut]
  go_loopw [6] (fun _ wr => ∃ pos : Nat, pos ≤ nib c ∧ wr = w.iter digS pos) (fun _ wr => 16 - wr.iterPos w.heap.size)
  case atStart => exact ⟨0, Nat.zero_le _, rfl⟩
  case round =>
    obtain ⟨pos, hp, rfl⟩ := hrel
    have hbel : ∀ q, Below w.heap.size w (w.iter digS q) := fun q => (Below.refl _ _).alloc (Nat.le_refl _) _
    have hpos : ∀ q, (w.iter digS q).iterPos w.heap.size = q := fun q => by unfold World.iterPos; rw [World.iter_heap]
    by_cases hlt : pos < 16
    · have hnx : ∀ ty, (Instr.next (.pointer (some ⟨w.heap.size, 0, none⟩)) true ty).run Try.prog (w.iter digS pos) = .ok (.tuple #[.bool true, .int .i64 pos, .int .i32 (digs[pos]'hlt).toNat]) (w.iter digS (pos + 1)) := fun ty => run_next_ascii w digS pos ty hlt (digs_ascii pos hlt)
      by_cases he : pos < nib c
      · have hne := nib_ne c pos he
        have hb : ((((digs[pos]'hlt).toNat : Nat) : Int) == (c.toNat : Int)) = false := by
          rw [beq_eq_false_iff_ne]; intro e; exact hne (UInt8.toNat_inj.mp (by omega))
        generalize digs[pos]'hlt = d at *
        clear hne
        go_wp2
        go_roundw
        case rel => exact ⟨pos + 1, by omega, rfl⟩
        case measure => rw [hpos, hpos]; omega
      · have hpe : pos = nib c := by omega
        have hd : digs[pos]'hlt = c := by subst hpe; exact nib_eq c hlt
        rw [hd] at hnx
        have HP : Hid (pos = nib c) := hpe
        clear hd hpe
        go_wp2
        go_ret2
        refine ⟨tup2 ?_ ?_, hbel _⟩
        · unfold vOf; rw [if_pos (by rw [← HP.out]; exact hlt), HP.out]; rfl
        · unfold okV; rw [decide_eq_true (by rw [← HP.out]; exact hlt)]; rfl
    · have hp16 : pos = 16 := by omega
      subst hp16
      have hnx : ∀ ty, (Instr.next (.pointer (some ⟨w.heap.size, 0, none⟩)) true ty).run Try.prog (w.iter digS 16) = _ := fun ty => run_next_end w digS 16 ty (by decide)
      go_wp2
      go_ret2
      refine ⟨tup2 ?_ ?_, hbel _⟩
      · unfold vOf; rw [if_neg (by omega)]; rfl
      · unfold okV; rw [decide_eq_false (by omega)]; rfl
set_option maxHeartbeats 1000000 in
theorem digit_any (x : Nat) (w : World) (hx : x < 16) :
    Calls Try.prog 31 #[.int .u8 x] w fun e w' => e = .returned (.int .u8 ((digs.getD x 0).toNat : Int)) ∧ w = w' := by
  have hd : ((digs.getD x 0).toNat : Int) = if x < 10 then 48 + (x : Int) else 97 + (x : Int) - 10 := by
    match x, hx with
    | 0, _ => rfl
    | 1, _ => rfl
    | 2, _ => rfl
    | 3, _ => rfl
    | 4, _ => rfl
    | 5, _ => rfl
    | 6, _ => rfl
    | 7, _ => rfl
    | 8, _ => rfl
    | 9, _ => rfl
    | 10, _ => rfl
    | 11, _ => rfl
    | 12, _ => rfl
    | 13, _ => rfl
    | 14, _ => rfl
    | 15, _ => rfl
    | k + 16, h => omega
  have HD : Hid (_ = _) := hd
  clear hd
  by_cases h : x < 10
  · go_enter Try.func31, Try.ntmps31
    go_wp2
    go_ret
    exact ⟨ret_int (by rw [HD.out, if_pos h]), rfl⟩
  · go_enter Try.func31, Try.ntmps31
    go_wp2
    go_ret
    exact ⟨ret_int (by rw [HD.out, if_neg h]), rfl⟩
set_option maxHeartbeats 1000000 in
theorem nibble_any (c : UInt8) (w : World) :
    Calls Try.prog 29 #[.int .u8 c.toNat] w fun e w' => e = .returned (.int .u8 (nib c : Int)) ∧ w = w' := by
  have hn := nib_le c
  go_enter Try.func29, Try.ntmps29
  go_wp2
  go_loop [3] (fun v => ∃ p : Nat, p ≤ nib c ∧ v = .int .u8 p) (fun v => 16 - (intOf v).toNat)
  case atStart => exact ⟨0, Nat.zero_le _, rfl⟩
  case round =>
    obtain ⟨p, hp, rfl⟩ := hrel
    by_cases hlt : p < 16
    · have hgd : digs.getD p 0 = digs[p]'hlt := by rw [List.getD_eq_getElem?_getD, List.getElem?_eq_getElem (show p < digs.length from hlt)]; rfl
      by_cases he : p < nib c
      · have hne := nib_ne c p he
        rw [← hgd] at hne
        have hb : ((((digs.getD p 0).toNat : Nat) : Int) == (c.toNat : Int)) = false := by
          rw [beq_eq_false_iff_ne]; intro e; exact hne (UInt8.toNat_inj.mp (by omega))
        have HC : Hid (∀ w, _) := fun w => digit_any p w hlt
        generalize digs.getD p 0 = d at *
        clear hne hgd
        go_wp2_with (go_at_call 31; refine (HC.out _).mono ?_; rintro e w' ⟨rfl, rfl⟩)
        go_round
        case rel => exact ⟨p + 1, by omega, by go_num⟩
        case measure => simp [intOf]; omega
      · have hpe : p = nib c := by omega
        have hd : digs.getD p 0 = c := by rw [hpe]; exact dig_of_nib c (by omega)
        have C := digit_any p
        rw [hd] at C
        have HC : Hid (∀ w, p < 16 → _) := fun w h => C w h
        have HP : Hid (p = nib c) := hpe
        clear hd hpe hgd C
        go_wp2_with (go_at_call 31; refine (HC.out _ hlt).mono ?_; rintro e w' ⟨rfl, rfl⟩)
        go_ret
        exact ⟨ret_int (by rw [HP.out]), rfl⟩
    · have hp16 : nib c = 16 := by omega
      have HP : Hid (nib c = 16) := hp16
      go_wp2
      go_ret
      exact ⟨rfl, rfl⟩
end Go.Proofs.Ytncgdbjjlhohiab
