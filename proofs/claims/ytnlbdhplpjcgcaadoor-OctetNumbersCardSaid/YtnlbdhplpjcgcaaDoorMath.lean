import Derived.Laws.BitsAllLaws
namespace Go.Proofs.YtnlbdhplpjcgcaaDoor

/-- One step of the register. -/
def stp (r : Nat) : Nat := if r / 32768 = 1 then (r * 2 % 65536) ^^^ 4129 else r * 2 % 65536
def stps : Nat → Nat → Nat
  | 0, r => r
  | k + 1, r => stp (stps k r)
def sumB (s c : Nat) : Nat := stps 8 (s ^^^ (c * 256))
def crc (s : Nat) (l : List UInt8) : Nat := l.foldl (fun s c => sumB s c.toNat) s
def crcs (s : Nat) (ls : List (List UInt8)) : Nat := ls.foldl crc s

theorem xor_lt16 (a b : Nat) (ha : a < 65536) (hb : b < 65536) : a ^^^ b < 65536 := Nat.xor_lt_two_pow (n := 16) ha hb
theorem stp_lt (r : Nat) : stp r < 65536 := by
  unfold stp
  split
  · exact xor_lt16 _ _ (Nat.mod_lt _ (by decide)) (by decide)
  · exact Nat.mod_lt _ (by decide)
theorem stps_lt (k r : Nat) (h : r < 65536) : stps k r < 65536 := by
  cases k with
  | zero => exact h
  | succ k => exact stp_lt _
theorem sumB_lt (s c : Nat) : sumB s c < 65536 := stp_lt _
theorem crc_lt (s : Nat) (l : List UInt8) (h : s < 65536) : crc s l < 65536 := by
  unfold crc
  induction l generalizing s with
  | nil => exact h
  | cons a l ih => exact ih _ (sumB_lt _ _)
theorem crcs_lt (s : Nat) (ls : List (List UInt8)) (h : s < 65536) : crcs s ls < 65536 := by
  unfold crcs
  induction ls generalizing s with
  | nil => exact h
  | cons a l ih => exact ih _ (crc_lt _ _ h)
theorem crc_snoc (s : Nat) (l : List UInt8) (c : UInt8) : crc s (l ++ [c]) = sumB (crc s l) c.toNat := by simp [crc]
theorem crcs_snoc (s : Nat) (ls : List (List UInt8)) (l : List UInt8) : crcs s (ls ++ [l]) = crc (crcs s ls) l := by simp [crcs]
theorem crc_append (s : Nat) (l m : List UInt8) : crc s (l ++ m) = crc (crc s l) m := by simp [crc]
theorem crcs_flatten (s : Nat) (ls : List (List UInt8)) : crcs s ls = crc s ls.flatten := by
  induction ls generalizing s with
  | nil => rfl
  | cons a l ih => simp only [List.flatten_cons, crc_append]; exact ih _
theorem take_succ' {α : Type} (l : List α) (k : Nat) (x : α) (h : l[k]? = some x) : l.take (k + 1) = l.take k ++ [x] := by
  rw [List.take_add_one, h]; rfl

end Go.Proofs.YtnlbdhplpjcgcaaDoor
