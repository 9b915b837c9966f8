import Derived.Test.YtnmknnkpkkefoaaGreatDoorSca
import Derived.Test.YtnmknnkpkkefoaaGreatDoorShelf
namespace Go.Proofs.YtnmknnkpkkefoaaGreatDoor
open Go.RowKit
set_option linter.unusedVariables false

set_option maxHeartbeats 1000000 in
theorem comes_any (r off line beg : Nat) (s p : ByteArray) (w : World) (h : Sc4 w r s off line beg) (ho : off ≤ s.size) (hs : s.size < 4294967281) :
    Calls Tryz.prog 34 #[.pointer (some ⟨r, 0, none⟩), .string p] w fun e w' => e = .returned (.bool (Lib.hasPrefix (s.data.toList.drop off) p.data.toList)) ∧ Below w.heap.size w w' := by
  have c := Tryz.strings_HasPrefix (rst s off) p
  rw [rst_list] at c
  go_enter Tryz.func34, Tryz.ntmps34
  go_wp2_with (first
    | (go_at_call 33; refine (rest_any r off line beg s _ h ho hs).mono ?_; rintro e w' ⟨rfl, hb⟩)
    | (go_at_call 55; refine (c _).mono ?_; rintro e w' ⟨rfl, rfl⟩))
  go_ret
  exact ⟨rfl, hb⟩
theorem blkA : (⟨#[32, 9, 10, 13]⟩ : ByteArray).data.toList = blkL := rfl
theorem trim_any (s : ByteArray) (w : World) : Calls Tryz.prog 54 #[.string s, .string ⟨#[32, 9, 10, 13]⟩] w fun e w' => e = .returned (.string ⟨(Lib.trimLeftS s.data.toList blkL).toArray⟩) ∧ Below w.heap.size w w' :=
  Any.strings_TrimLeft_laid Tryz.lays161 (by kernel_rfl) s ⟨#[32, 9, 10, 13]⟩ w (by decide) (ascii_of_all (by decide))
set_option maxHeartbeats 1000000 in
theorem blanks_any (s : ByteArray) (w : World) (hs : s.size < 4294967281) : Calls Tryz.prog 32 #[.string s] w fun e w' => e = .returned (.int .i64 (blen s.data.toList)) ∧ Below w.heap.size w w' := by
  have c := trim_any s
  have hl : (⟨(Lib.trimLeftS s.data.toList blkL).toArray⟩ : ByteArray).size + blen s.data.toList = s.size := by
    show (Lib.trimLeftS s.data.toList blkL).toArray.size + _ = _
    rw [List.size_toArray, ← len_all s, ← tw_len isB s.data.toList, Nat.add_comm]
    rfl
  generalize (⟨(Lib.trimLeftS s.data.toList blkL).toArray⟩ : ByteArray) = x at *
  generalize blen s.data.toList = n at *
  have hx : (s.size : Int) - x.size = n := by omega
  have HX : Hid ((s.size : Int) - x.size = n) := hx
  have hw : (x.size : Int) ≤ s.size := by omega
  clear hl hx
  go_enter Tryz.func32, Tryz.ntmps32
  go_wp2_with (go_at_call 54; refine (c _).mono ?_; rintro e w' ⟨rfl, hb⟩)
  go_ret
  exact ⟨ret_int HX.out, hb⟩

/-- What stands in the package's variables. -/
structure Env (B : Nat) (p : Nat → Addr) (w : World) : Prop where
  size : B ≤ w.heap.size
  globs : 16 ≤ B
  long : w.cell? ⟨0, 0, none⟩ = some (.iface 192 (.pointer (some (p 24))))
  comment : w.cell? ⟨1, 0, none⟩ = some (.iface 192 (.pointer (some (p 23))))
  string : w.cell? ⟨4, 0, none⟩ = some (.iface 192 (.pointer (some (p 22))))
  number : w.cell? ⟨3, 0, none⟩ = some (.iface 192 (.pointer (some (p 21))))
  byte : w.cell? ⟨6, 0, none⟩ = some (.iface 192 (.pointer (some (p 20))))
  maxlen : ∃ m, w.cell? ⟨7, 0, none⟩ = some (.int .i64 m)
  synt : ∃ t q, w.cell? ⟨12, 0, none⟩ = some (.iface t q)
  rang : ∃ t q, w.cell? ⟨13, 0, none⟩ = some (.iface t q)
  m0 : w.cell? ⟨5, 0, none⟩ = some (.int .u8 123)
  m1 : w.cell? ⟨5, 1, none⟩ = some (.int .i64 4)
  m2 : w.cell? ⟨5, 2, none⟩ = some (.int .u8 125)
  m3 : w.cell? ⟨5, 3, none⟩ = some (.int .i64 5)
  m4 : w.cell? ⟨5, 4, none⟩ = some (.int .u8 61)
  m5 : w.cell? ⟨5, 5, none⟩ = some (.int .i64 6)
  m6 : w.cell? ⟨5, 6, none⟩ = some (.int .u8 59)
  m7 : w.cell? ⟨5, 7, none⟩ = some (.int .i64 7)
  m8 : w.cell? ⟨5, 8, none⟩ = some (.int .u8 58)
  m9 : w.cell? ⟨5, 9, none⟩ = some (.int .i64 8)
  kept : ∀ c, (p c).block < B
  apart : ∀ c d, 20 ≤ c → c ≤ 24 → 20 ≤ d → d ≤ 24 → p c = p d → c = d
theorem cell_below {B : Nat} {w w' : World} (hb : Below B w w') (g i : Nat) (h : g < B) : w'.cell? ⟨g, i, none⟩ = w.cell? ⟨g, i, none⟩ :=
  World.cell?_of_block (hb.block g h)
theorem Env.below {B : Nat} {p : Nat → Addr} {w w' : World} (h : Env B p w) (hb : Below B w w') : Env B p w' := by
  have g := h.globs
  refine ⟨Nat.le_trans h.size hb.size, g, ?_, ?_, ?_, ?_, ?_, ?_, ?_, ?_, ?_, ?_, ?_, ?_, ?_, ?_, ?_, ?_, ?_, ?_, h.kept, h.apart⟩ <;> rw [cell_below hb _ _ (by omega)]
  · exact h.long
  · exact h.comment
  · exact h.string
  · exact h.number
  · exact h.byte
  · exact h.maxlen
  · exact h.synt
  · exact h.rang
  · exact h.m0
  · exact h.m1
  · exact h.m2
  · exact h.m3
  · exact h.m4
  · exact h.m5
  · exact h.m6
  · exact h.m7
  · exact h.m8
  · exact h.m9

def cV (l : List UInt8) : Int := match clen l with | some n => (n : Int) | none => 0
def cO (l : List UInt8) : Bool := (clen l).isSome
set_option maxHeartbeats 1000000 in
theorem commentLength_any (B : Nat) (p : Nat → Addr) (s : ByteArray) (w : World) (hE : Env B p w) (hs : s.size < 4294967281) (hc : isC s.data.toList = true) :
    Calls Tryz.prog 35 #[.string s] w fun e w' => e = .returned (.tuple #[.int .i64 (cV s.data.toList), .bool (cO s.data.toList)]) ∧ w' = w := by
  obtain ⟨m, hm⟩ := hE.maxlen
  have HL : Hid (s.data.toList.length = s.size) := len_all s
  obtain ⟨t, ht⟩ := isC_shape hc
  have h2 : 2 ≤ s.size := by rw [← len_all s]; rcases ht with h | h <;> rw [h] <;> simp
  have h2' : (1 : Int) < s.size := by omega
  rcases ht with ht | ht
  · have hx : s[1] = 47 := by
      have := snoc_all s 1 (by omega)
      rw [ht] at this
      exact (Option.some.inj this).symm
    have hix : ∀ w, (Instr.index 9 (.string s) (.int .i64 1)).run Tryz.prog w = .ok (.int .u8 47) w := fun w => by
      have := index_at s 1 1 w (by omega) rfl
      rw [hx] at this; exact this
    have hcl := clen_line t
    rw [← ht] at hcl
    have c := Tryz.strings_IndexByte s 10
    have hten : ((10 : Int).toNat.toUInt8) = 10 := rfl
    rw [hten] at c
    have hib := ib_le s.data.toList 10
    have hge := Lib.indexByte_ge s.data.toList 10
    have HO : Hid (cO s.data.toList = true) := by show (clen _).isSome = true; rw [hcl]; rfl
    have HV : Hid (cV s.data.toList = if Lib.indexByte s.data.toList 10 < 0 then (s.size : Int) else Lib.indexByte s.data.toList 10) := by
      show (match clen s.data.toList with | some n => (n : Int) | none => 0) = _
      rw [hcl]
      show ((if _ then _ else _ : Nat) : Int) = _
      split
      · rw [HL.out]
      · next hn => exact Int.toNat_of_nonneg (Int.not_lt.1 hn)
    clear hx hc ht hcl
    generalize Lib.indexByte s.data.toList 10 = k at *
    by_cases hk : k < 0
    · have hk' : ¬ 0 ≤ k := by omega
      go_enter Tryz.func35, Tryz.ntmps35
      go_wp2_with (go_at_call 56; refine (c _).mono ?_; rintro e w' ⟨rfl, rfl⟩)
      go_ret2
      exact ⟨tup2 (by rw [HV.out, if_pos hk]; rfl) (by rw [HO.out]; rfl), rfl⟩
    · have hk' : 0 ≤ k := by omega
      go_enter Tryz.func35, Tryz.ntmps35
      go_wp2_with (go_at_call 56; refine (c _).mono ?_; rintro e w' ⟨rfl, rfl⟩)
      go_ret2
      exact ⟨tup2 (by rw [HV.out, if_neg (Int.not_lt.2 hk')]; rfl) (by rw [HO.out]; rfl), rfl⟩
  · have hx : s[1] = 42 := by
      have := snoc_all s 1 (by omega)
      rw [ht] at this
      exact (Option.some.inj this).symm
    have hix : ∀ w, (Instr.index 9 (.string s) (.int .i64 1)).run Tryz.prog w = .ok (.int .u8 42) w := fun w => by
      have := index_at s 1 1 w (by omega) rfl
      rw [hx] at this; exact this
    have hcl := clen_star t
    rw [← ht] at hcl
    have hsl : ∀ w, (Instr.slice 9 (.string s) (some (.int .i64 2)) none none).run Tryz.prog w = .ok (.string (rst s 2)) w := fun w => by
      have h1 : (0 : Int) ≤ 2 ∧ (2 : Int) ≤ s.size := by omega
      rw [run_slice_string_from_if w _ _ _ _ Tryz.underlying9, if_pos h1]
      rfl
    have c := Tryz.strings_Index (rst s 2) ⟨#[42, 47]⟩ m w (by rw [rst_size]; omega) hm
    rw [rst_list, ht] at c
    have hil := ix_le t 42 47
    have htl : t.length + 2 = s.size := by rw [← HL.out, ht]; simp
    have hge := Lib.index_ge t [42, 47]
    change Calls _ _ _ _ (fun e w' => e = .returned (.int .i64 (Lib.index t [42, 47])) ∧ w' = w) at c
    by_cases hk : Lib.index t [42, 47] < 0
    · have HO : Hid (cO s.data.toList = false) := by show (clen _).isSome = false; rw [hcl, if_pos hk]; rfl
      have HV : Hid (cV s.data.toList = 0) := by show (match clen s.data.toList with | some n => (n : Int) | none => 0) = _; rw [hcl, if_pos hk]
      clear hx hc ht hcl hm
      generalize Lib.index t [42, 47] = k at *
      go_enter Tryz.func35, Tryz.ntmps35
      go_wp2_with (go_at_call 57; refine c.mono ?_; rintro e w' ⟨rfl, rfl⟩)
      go_ret2
      exact ⟨tup2 (by rw [HV.out]; rfl) (by rw [HO.out]; rfl), rfl⟩
    · have HO : Hid (cO s.data.toList = true) := by show (clen _).isSome = true; rw [hcl, if_neg hk]; rfl
      have HV : Hid (cV s.data.toList = Lib.index t [42, 47] + 4) := by
        show (match clen s.data.toList with | some n => (n : Int) | none => 0) = _
        rw [hcl, if_neg hk]
        show (((Lib.index t [42, 47]).toNat + 4 : Nat) : Int) = _
        omega
      clear hx hc ht hcl hm
      generalize Lib.index t [42, 47] = k at *
      have hw1 : IntKind.i64.wrap (2 + k) = 2 + k := by rw [IntKind.wrap_i64]; omega
      have hw2 : IntKind.i64.wrap (2 + k + 2) = 2 + k + 2 := by rw [IntKind.wrap_i64]; omega
      go_enter Tryz.func35, Tryz.ntmps35
      go_wp2_with (go_at_call 57; refine c.mono ?_; rintro e w' ⟨rfl, rfl⟩)
      go_ret2
      exact ⟨tup2 (by rw [HV.out]; show Value.int .i64 _ = _; congr 1; omega) (by rw [HO.out]; rfl), rfl⟩
end Go.Proofs.YtnmknnkpkkefoaaGreatDoor
