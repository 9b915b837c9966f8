import Derived.Test.YtiggbnkmggbpiaaGreatDoorJoi
namespace Go.Proofs.YtiggbnkmggbpiaaGreatDoor
open Go.RowKit
set_option linter.unusedVariables false

theorem conv_one (w : World) (c : Nat) (hc : c < 256) (k : Nat) (h : w.cell? ⟨k, 0, none⟩ = some (.int .u8 (c : Int))) : (convert 43 9 (.slice (some ⟨k, 0, none⟩) 1 1)).run Tryz.prog w = .ok (.string ⟨#[UInt8.ofNat c]⟩) w := by
  have := run_convert_bytes_back (P := Tryz.prog) w 43 9 5 ⟨k, 0, none⟩ 1 [UInt8.ofNat c] Tryz.underlying43 Tryz.underlying5 Tryz.underlying9 (fun j hj => by
    have : j = 0 := by simpa using hj
    subst this
    rw [Lib.add_plain]
    simp only [Nat.add_zero, List.getElem_cons_zero]
    rw [h]
    have : (UInt8.ofNat c).toNat = c := by simp; omega
    rw [this])
  exact this
theorem app1 (c : UInt8) (l : List UInt8) : (⟨#[c]⟩ : ByteArray) ++ ⟨l.toArray⟩ = ⟨(c :: l).toArray⟩ := (same_bytes _ _ (by simp [ByteArray.data_append])).symm
theorem dec_step (v : Nat) (h : 10 ≤ v) : Lib.decDigits v = Lib.decDigits (v / 10) ++ [UInt8.ofNat (48 + v % 10)] := by rw [Lib.decDigits, dif_neg (by omega)]
set_option maxHeartbeats 2000000 in
set_option maxRecDepth 100000 in
theorem rdec_any (v0 : Nat) (hv : v0 < 4294967296) (w : World) : Calls Tryz.prog 32 #[.int .u32 (v0 : Int)] w fun e w' => e = .returned (.string ⟨(Lib.decDigits v0).toArray⟩) ∧ Below w.heap.size w w' := by
  go_enter Tryz.func32, Tryz.ntmps32
  go_wp2
  go_loopw [0, 3] (fun v s wr => ∃ (k : Nat) (l : List UInt8), v = .int .u32 (k : Int) ∧ s = .string ⟨l.toArray⟩ ∧ k < 4294967296 ∧ l.length ≤ 4294967296 - k ∧ Hid (Lib.decDigits v0 = Lib.decDigits k ++ l) ∧ Below w.heap.size w wr) (fun v _ _ => (intOf v).toNat)
  case atStart => exact ⟨v0, [], rfl, rfl, hv, by simp, (by show _ = _; simp), Below.refl _ _⟩
  case round =>
    obtain ⟨k, l, rfl, rfl, hk, hl, hh, hb⟩ := hrel
    have hd : (k : Int) % 10 = ((k % 10 : Nat) : Int) := by omega
    have hq : (k : Int) / 10 = ((k / 10 : Nat) : Int) := by omega
    have HL : Hid (l.length ≤ 4294967296 - k) := hl
    have HS : Hid (10 ≤ k → Lib.decDigits k = Lib.decDigits (k / 10) ++ [UInt8.ofNat (48 + k % 10)]) := fun h => dec_step k h
    have HB1 : Hid (k % 10 < 10 ∧ k / 10 ≤ k ∧ (10 ≤ k → k / 10 < k)) := ⟨by omega, by omega, fun h => by omega⟩
    have HO : Hid (k < 10 → Lib.decDigits k = [UInt8.ofNat (48 + k)]) := fun h => Lib.decDigits_one h
    clear hl
    by_cases h10 : 10 ≤ k
    · have h10' : (10 : Int) ≤ k := by omega
      obtain ⟨c, hc⟩ : ∃ c, c = 48 + k % 10 := ⟨_, rfl⟩
      have hc8 : c < 256 := by have := HB1.out.1; omega
      have hci : 48 + ((k % 10 : Nat) : Int) = (c : Int) := by omega
      have hcv := conv_one (wr.alloc (.cells #[.int .u8 (c : Int)] 5)) c hc8 wr.heap.size (by simp)
      have hll : ¬ 9223372036854775807 < 1 + l.length := by have := HL.out; omega
      have HC : Hid (c = 48 + k % 10) := hc
      have happ := app1 (UInt8.ofNat c) l
      clear hc h10
      generalize k % 10 = d at *
      generalize hqq : k / 10 = q at *
      have HQ : Hid (k / 10 = q) := hqq
      clear hqq
      go_wp2
      refine ⟨⟨q, UInt8.ofNat c :: l, rfl, rfl, by have := HB1.out.2.1; omega, ?_, ?_, hb.alloc hb.size _⟩, ?_⟩
      · have := HB1.out.2.2 (by omega)
        have := HL.out
        simp
        omega
      · show _ = _
        rw [hh.out, HS.out (by omega), HC.out]
        simp
      · have := HB1.out.2.2 (by omega)
        simp [intOf]
        omega
    · have h10' : ¬ (10 : Int) ≤ k := by omega
      obtain ⟨c, hc⟩ : ∃ c, c = 48 + k := ⟨_, rfl⟩
      have hc8 : c < 256 := by omega
      have hci : 48 + (k : Int) = (c : Int) := by omega
      have hcv := conv_one (wr.alloc (.cells #[.int .u8 (c : Int)] 5)) c hc8 wr.heap.size (by simp)
      have hll : ¬ 9223372036854775807 < 1 + l.length := by have := HL.out; omega
      have happ := app1 (UInt8.ofNat c) l
      have HF : Hid (Lib.decDigits v0 = UInt8.ofNat c :: l) := by
        show _ = _
        rw [hh.out, HO.out (by omega), hc]
        rfl
      have hbz := hb.alloc hb.size (.cells #[.int .u8 (c : Int)] 5)
      clear hc h10 hd hq HS HB1 HO hh
      go_wp2
      go_ret
      exact ⟨by rw [HF.out]; rfl, hbz⟩
abbrev hexS : ByteArray := ⟨#[48, 49, 50, 51, 52, 53, 54, 55, 56, 57, 65, 66, 67, 68, 69, 70]⟩
theorem hex_cut (d : Nat) (hd : d < 16) (w : World) : (Instr.slice 9 (.string hexS) (some (.int .u32 (d : Int))) (some (.int .u32 ((d : Int) + 1))) none).run Tryz.prog w = .ok (.string ⟨#[hexD d]⟩) w := by
  have h2 : ∀ k, k < 16 → (hexS.data.toList.drop k).take 1 = [hexD k] := by decide
  have h1 : hexS.extract d (d + 1) = ⟨#[hexD d]⟩ := (same_bytes [hexD d] _ (by rw [Lib.extract_data, ← h2 d hd]; congr 1; omega)).symm
  have h3 : (0 : Int) ≤ d ∧ (d : Int) ≤ (d : Int) + 1 ∧ (d : Int) + 1 ≤ hexS.size := by have : hexS.size = 16 := rfl; omega
  have h4 : ((d : Int) + 1).toNat = d + 1 := by omega
  simp [go_sem, h3, h4, h1]
  omega
def hexR (v : Nat) : List UInt8 := if v = 0 then [] else hexU v
theorem hex_step (v : Nat) : hexU v = hexR (v / 16) ++ [hexD (v % 16)] := by
  unfold hexR hexU
  by_cases h : v < 16
  · have h0 : v / 16 = 0 := by omega
    rw [h0, if_pos rfl, hexG, dif_pos h, show v % 16 = v by omega]
    rfl
  · rw [if_neg (by omega), hexG, dif_neg h]
set_option maxHeartbeats 2000000 in
set_option maxRecDepth 100000 in
theorem rhex_any (v0 : Nat) (hv : v0 < 4294967296) (w : World) : Calls Tryz.prog 31 #[.int .u32 (v0 : Int)] w fun e w' => e = .returned (.string ⟨(48 :: 120 :: hexU v0).toArray⟩) ∧ Below w.heap.size w w' := by
  go_enter Tryz.func31, Tryz.ntmps31
  go_wp2
  go_loopw [0, 3, 4] (fun v s i wr => ∃ (k : Nat) (l : List UInt8) (j : Nat), v = .int .u32 (k : Int) ∧ s = .string ⟨l.toArray⟩ ∧ i = .int .i64 (j : Int) ∧ k < 4294967296 ∧ l.length ≤ 4294967297 - k ∧ j = l.length ∧ Hid ((j = 0 → k = v0) ∧ (j ≠ 0 → hexU v0 = hexR k ++ l)) ∧ Below w.heap.size w wr) (fun v _ i _ => 2 * (intOf v).toNat + (1 - (intOf i).toNat))
  case atStart => exact ⟨v0, [], 0, rfl, rfl, rfl, hv, by simp, rfl, ⟨fun _ => rfl, fun h => absurd rfl h⟩, Below.refl _ _⟩
  case round =>
    obtain ⟨k, l, j, rfl, rfl, rfl, hk, hl, hjl, hh, hb⟩ := hrel
    have hd : (k : Int) % 16 = ((k % 16 : Nat) : Int) := by omega
    have hq : (k : Int) / 16 = ((k / 16 : Nat) : Int) := by omega
    have HL : Hid (l.length ≤ 4294967297 - k ∧ j = l.length) := ⟨hl, hjl⟩
    have HS : Hid (hexU k = hexR (k / 16) ++ [hexD (k % 16)]) := hex_step k
    have HB1 : Hid (k / 16 ≤ k ∧ (0 < k → k / 16 < k)) := ⟨by omega, fun h => by omega⟩
    clear hl hjl
    by_cases hj0 : j = 0
    · have hj0' : ((j : Int) == 0) = true := by rw [hj0]; rfl
      have HJ0 : Hid (j = 0) := hj0
      have hl0 : l = [] := List.eq_nil_of_length_eq_zero (by have := HL.out.2; omega)
      have HL0 : Hid (l = []) := hl0
      clear hj0 hl0
      have hcut := hex_cut (k % 16) (by omega)
      have hll : ¬ 9223372036854775807 < 1 + l.length := by have := HL.out.1; omega
      have happ := app1 (hexD (k % 16)) l
      have hjb : (j : Int) < 4294967298 := by have := HL.out; omega
      have HN : Hid (hexU v0 = hexR (k / 16) ++ hexD (k % 16) :: l) := by
        show _ = _
        rw [HL0.out, ← hh.out.1 HJ0.out]; exact HS.out
      clear hh HS
      generalize k % 16 = d at *
      generalize k / 16 = q at *
      go_wp2
      refine ⟨⟨q, hexD d :: l, j + 1, rfl, rfl, by go_num, by have := HB1.out.1; omega, ?_, by have := HL.out.2; simp; omega, ⟨fun h => absurd h (by omega), fun _ => HN.out⟩, hb⟩, ?_⟩
      · have h1 := HL.out
        have h2 := HB1.out
        have h3 := HJ0.out
        simp
        omega
      · have h2 := HB1.out
        have h3 := HJ0.out
        simp [intOf]
        omega
    · have hj0' : ((j : Int) == 0) = false := by rw [beq_eq_false_iff_ne]; omega
      by_cases hk0 : 0 < k
      · have hk0' : (0 : Int) < k := by omega
        have hcut := hex_cut (k % 16) (by omega)
        have hll : ¬ 9223372036854775807 < 1 + l.length := by have := HL.out.1; omega
        have happ := app1 (hexD (k % 16)) l
        have hjb : (j : Int) < 4294967298 := by have := HL.out; omega
        have HN : Hid (hexU v0 = hexR (k / 16) ++ hexD (k % 16) :: l) := by
          show _ = _
          rw [hh.out.2 hj0, hexR, if_neg (by omega), HS.out]; simp
        clear hh HS
        generalize k % 16 = d at *
        generalize k / 16 = q at *
        go_wp2
        refine ⟨⟨q, hexD d :: l, j + 1, rfl, rfl, by go_num, by have := HB1.out.1; omega, ?_, by have := HL.out.2; simp; omega, ⟨fun h => absurd h (by omega), fun _ => HN.out⟩, hb⟩, ?_⟩
        · have h1 := HL.out
          have h2 := HB1.out
          simp
          omega
        · have h2 := HB1.out
          simp [intOf]
          omega
      · have hk0' : ¬ (0 : Int) < k := by omega
        have HF : Hid (hexU v0 = l) := by
          show _ = _
          rw [hh.out.2 hj0, hexR, if_pos (by omega)]
          rfl
        have happ := app2 l
        have hll : ¬ 9223372036854775807 < 2 + l.length := by have := HL.out.1; omega
        clear hh HS HB1 HL hd hq hj0 hk0
        go_wp2
        go_ret
        exact ⟨by rw [HF.out]; rfl, hb⟩
end Go.Proofs.YtiggbnkmggbpiaaGreatDoor
