import Derived.Test.YtnlbdhplpjcgcaaDoorNumB
namespace Go.Proofs.YtnlbdhplpjcgcaaDoor
open Go.RowKit
set_option linter.unusedVariables false

theorem isE_yes (s : ByteArray) (h : s.size = 0) : s.toList.isEmpty = true := by
  rw [ByteArray.toList_eq, str_nil s h]; rfl
theorem isE_no (s : ByteArray) (h : 0 < s.size) : s.toList.isEmpty = false := by
  rw [ByteArray.toList_eq, List.isEmpty_eq_false_iff]
  intro e
  have : s.data.toList.length = 0 := by rw [e]; rfl
  have e2 : s.data.toList.length = s.size := by simp
  omega
theorem canon_no (s : ByteArray) (h0 : 0 < s.size) (hc : canonD s.data.toList = false) : 1 < s.size ∧ s[0].toNat = 48 := by
  have := of_decide_eq_false hc
  have e2 : s.data.toList.length = s.size := by simp
  have hne : s.data.toList ≠ [] := fun e => by rw [e] at e2; simp at e2; omega
  have h3 : 1 < s.data.toList.length ∧ s.data.toList.head? = some 48 := by
    by_cases h : 1 < s.data.toList.length ∧ s.data.toList.head? = some 48
    · exact h
    · exact absurd ⟨hne, h⟩ this
  obtain ⟨h4, h5⟩ := h3
  rw [List.head?_eq_getElem?, snoc_all s 0 h0] at h5
  exact ⟨by omega, by rw [Option.some.inj h5]; rfl⟩

set_option maxHeartbeats 1000000 in
theorem digits_any (s : ByteArray) (m : Nat) (hm : m < 18446744073709551616) (w : World) (hs' : s.size < 9223372036854775807) :
    Calls Tryd.prog 4 #[.string s, .int .u64 m] w fun e w' => e = .returned (.tuple #[.int .u64 (dgV s.data.toList m), .int .i64 (dgE s.data.toList m)]) ∧ Below w.heap.size w w' := by
  by_cases h0 : 0 < s.size
  · by_cases hc : canonD s.data.toList = true
    · exact digits_loop s m hm w hs' h0 hc
    · have hc' : canonD s.data.toList = false := by simpa using hc
      obtain ⟨h1, hx⟩ := canon_no s h0 hc'
      obtain ⟨e1, e2⟩ := dg_no (no_canon (m := m) hc')
      have hnt := isE_no s h0
      have h1' : (1 : Int) < s.size := by omega
      have hi0 : ∀ w, (Instr.index 9 (.string s) (.int .i64 0)).run Tryd.prog w = .ok (.int .u8 48) w := fun w => by
        have := index_at s 0 0 w h0 rfl
        rw [hx] at this
        exact this
      clear hx hc hc'
      go_enter Tryd.func4, Tryd.ntmps4
      go_wp2
      go_ret2
      exact ⟨tup2 (by rw [e1]; rfl) (by rw [e2]; rfl), Below.refl _ _⟩
  · have hnt := isE_yes s (by omega)
    obtain ⟨e1, e2⟩ := dg_no (no_canon (m := m) (l := s.data.toList) (by rw [str_nil s (by omega)]; rfl))
    go_enter Tryd.func4, Tryd.ntmps4
    go_wp2
    go_ret2
    exact ⟨tup2 (by rw [e1]; rfl) (by rw [e2]; rfl), Below.refl _ _⟩

theorem dec_len (u : Nat) (hu : u < 18446744073709551616) : (Lib.decDigits u).length ≤ 20 := by
  by_cases h : u < 10
  · rw [Lib.decDigits_one h]; simp
  · rw [Lib.decDigits_length]
    have := Lib.numDigits_eq u (by omega) hu
    split at this <;> omega
set_option maxHeartbeats 1000000 in
theorem refdec_any (u : Nat) (hu : u < 18446744073709551616) (w : World) :
    Calls Tryd.prog 7 #[.int .u64 u] w fun e w' => e = .returned (.string ⟨(Lib.decDigits u).toArray⟩) ∧ Below w.heap.size w w' := by
  go_enter Tryd.func7, Tryd.ntmps7
  go_wp2
  go_loopw [0, 3] (fun a b wr => ∃ (v : Nat) (t : List UInt8), a = .int .u64 (v : Int) ∧ b = .string ⟨t.toArray⟩ ∧ v < 18446744073709551616 ∧ Lib.decDigits u = Lib.decDigits v ++ t ∧ Below w.heap.size w wr) (fun a _ _ => (intOf a).toNat)
  case atStart => exact ⟨u, [], rfl, rfl, hu, by simp, Below.refl _ _⟩
  case round =>
    obtain ⟨v, t, rfl, rfl, hv, he, hb⟩ := hrel
    have hsz := hb.size
    have hm0 : IntKind.u8.wrap ((v : Int) % 10) = (v : Int) % 10 := by rw [IntKind.wrap_u8]; omega
    have hm1 : IntKind.u8.wrap (48 + (v : Int) % 10) = ((UInt8.ofNat (48 + v % 10)).toNat : Int) := by
      rw [IntKind.wrap_u8, UInt8.toNat_ofNat']
      omega
    have ht : ¬ 9223372036854775807 < 1 + t.length := by
      have h1 : (Lib.decDigits u).length = (Lib.decDigits v).length + t.length := by rw [he, List.length_append]
      have h2 := dec_len u hu
      omega
    have HE : Hid (Lib.decDigits u = Lib.decDigits v ++ t) := he
    clear he
    have HD : Hid (¬ v < 10 → Lib.decDigits v = Lib.decDigits (v / 10) ++ [UInt8.ofNat (48 + v % 10)]) := fun h => by rw [Lib.decDigits, dif_neg h]
    have HS : Hid (v < 10 → Lib.decDigits v = [UInt8.ofNat (48 + v % 10)]) := fun h => by rw [Lib.decDigits_one h, show v % 10 = v by omega]
    generalize UInt8.ofNat (48 + v % 10) = x at *
    have hcv : (convert 35 9 (.slice (some ⟨wr.heap.size, 0, none⟩) 1 1)).run Tryd.prog (wr.alloc (.cells #[.int .u8 (x.toNat : Int)] 5)) = .ok (.string ⟨#[x]⟩) (wr.alloc (.cells #[.int .u8 (x.toNat : Int)] 5)) := run_convert_bytes_back (P := Tryd.prog) (wr.alloc (.cells #[.int .u8 (x.toNat : Int)] 5)) 35 9 5 ⟨wr.heap.size, 0, none⟩ 1 [x] Tryd.underlying35 Tryd.underlying5 Tryd.underlying9 (fun j hj => by
      have : j = 0 := by simpa using hj
      subst this
      rw [Lib.add_plain, World.cell?_alloc_new]
      rfl)
    by_cases h10 : v < 10
    · have hz : ((v : Int) / 10 == 0) = true := by rw [beq_iff_eq]; omega
      go_wp2
      go_ret
      refine ⟨?_, hb.alloc hsz _⟩
      rw [HE.out, HS.out h10]
      rfl
    · have hz : ((v : Int) / 10 == 0) = false := by rw [beq_eq_false_iff_ne]; omega
      have hb2 := hb.alloc hsz (.cells #[.int .u8 (x.toNat : Int)] 5)
      go_wp2
      go_roundw
      case rel => exact ⟨v / 10, x :: t, by rw [Int.natCast_ediv]; rfl, rfl, by omega, by rw [HE.out, HD.out h10, List.append_assoc]; rfl, hb2⟩
      case measure => simp [intOf]; omega
end Go.Proofs.YtnlbdhplpjcgcaaDoor
