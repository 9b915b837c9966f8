import Derived.Test.YtlbgppijeoonjaaGreatDoorStX
import Derived.Lib.LastIndexByte
import Derived.Lib.Case
import Derived.Test.YtlbgppijeoonjaaGreatDoorGoX
import Derived.Test.YtlbgppijeoonjaaGreatDoorScaX
import Derived.Test.YtlbgppijeoonjaaGreatDoorQua
namespace Go.Proofs.YtlbgppijeoonjaaGreatDoor
open Go
set_option linter.unusedVariables false

theorem line_count (t : List UInt8) (k : Nat) : lineN t k = 1 + Lib.countByte (t.take k) 10 := by
  induction k with
  | zero => simp [lineN, Lib.countByte]
  | succ k ih =>
    rw [lineN, ih]
    unfold Lib.countByte
    rw [List.take_add_one]
    cases h : t[k]? with
    | none => simp
    | some c =>
      by_cases hc : c = 10
      · subst hc; simp [List.count_append]; omega
      · simp [List.count_append, hc]
theorem beg_last (s : ByteArray) (k : Nat) (hk : k ≤ s.size) (t : List UInt8) (ht : ∀ j, j < k → t[j]? = s.data.toList[j]?) : ((begN t k : Nat) : Int) = Lib.lastIdx s 10 k + 1 := by
  induction k with
  | zero => rfl
  | succ k ih =>
    have IH := ih (by omega) (fun j hj => ht j (by omega))
    have hk2 : k < s.data.size := hk
    have hk3 : k < s.data.toList.length := by rw [Array.length_toList]; exact hk2
    have hg : s.data[k]! = s.data.toList[k] := by rw [getElem!_pos s.data k hk2]; rfl
    have h1 := ht k (by omega)
    rw [List.getElem?_eq_getElem hk3] at h1
    rw [begN, h1, ← hg, Lib.lastIdx]
    generalize s.data[k]! = c at *
    by_cases hc : c = 10
    · subst hc
      rw [if_pos rfl]
      simp
    · have hn : ¬ ((c.toNat : Int) == 10) = true := by
        intro e
        have e' : (c.toNat : Int) = 10 := by simpa using e
        exact hc (UInt8.toNat_inj.1 (by show c.toNat = 10; omega))
      rw [if_neg (fun e => hc (Option.some.inj e)), if_neg (by simpa using hn)]
      exact IH
theorem upD : ∀ d, d < 16 → Lib.upperB (hexd d) = hexD d ∧ (hexd d).toNat < 128 := by decide
theorem hex_up (v : Nat) : Lib.toUpperA (hexG hexd v) = hexU v ∧ ∀ c ∈ hexG hexd v, c.toNat < 128 := by
  induction v using Nat.strongRecOn with
  | _ v ih =>
    unfold hexU Lib.toUpperA at *
    by_cases h : v < 16
    · have e1 : ∀ g, hexG g v = [g v] := fun g => by rw [hexG, dif_pos h]
      rw [e1, e1]
      have := upD v h
      refine ⟨by rw [List.map_cons, this.1]; rfl, fun c hc => ?_⟩
      simp at hc
      subst hc
      exact this.2
    · have e1 : ∀ g, hexG g v = hexG g (v / 16) ++ [g (v % 16)] := fun g => by rw [hexG, dif_neg h]
      rw [e1, e1]
      obtain ⟨h1, h2⟩ := ih (v / 16) (by omega)
      have := upD (v % 16) (by omega)
      refine ⟨by rw [List.map_append, h1, List.map_cons, this.1]; rfl, fun c hc => ?_⟩
      simp at hc
      rcases hc with hc | hc
      · exact h2 c hc
      · subst hc; exact this.2
end Go.Proofs.YtlbgppijeoonjaaGreatDoor

namespace Go.Proofs.YtlbgppijeoonjaaGreatDoor
open Go.RowKit
set_option linter.unusedVariables false

theorem hex_len (n v : Nat) (h : v < 16 ^ n) (hn : 1 ≤ n) : (hexG hexd v).length ≤ n := by
  induction n generalizing v with
  | zero => omega
  | succ n ih =>
    by_cases hv : v < 16
    · rw [hexG, dif_pos hv]; simp
    · rw [hexG, dif_neg hv]
      by_cases hn0 : n = 0
      · subst hn0; simp at h; omega
      · have := ih (v / 16) (by rw [Nat.pow_succ] at h; omega) (by omega)
        simp
        omega
theorem app2 (l : List UInt8) : (⟨#[48, 120]⟩ : ByteArray) ++ ⟨l.toArray⟩ = ⟨(48 :: 120 :: l).toArray⟩ := (same_bytes _ _ (by simp [ByteArray.data_append])).symm
def spV2 (x : Tz) : Value := match spz x with | some b => .tuple #[.string ⟨b.toArray⟩, .int .i64 0] | none => .tuple #[.string ⟨#[]⟩, .int .i64 20]
def TzOk (x : Tz) : Prop := x.val < 4294967296 ∧ x.text.length < 4611686018427387904
def jnV (zs : List Tz) : Value := match joinF true zs with | some b => .tuple #[.string ⟨b.toArray⟩, .int .i64 0] | none => .tuple #[.string ⟨#[]⟩, .int .i64 20]
theorem esc_len (t : List UInt8) : (escL t).length ≤ 2 * t.length := by
  induction t with
  | nil => simp [escL]
  | cons c t ih =>
    have : escL (c :: t) = (if escB c = true then [92, c] else [c]) ++ escL t := rfl
    rw [this, List.length_append]
    split <;> simp <;> omega
theorem spz_len {x : Tz} {b : List UInt8} (h : spz x = some b) (hv : x.val < 4294967296) : b.length ≤ 512 := by
  unfold spz at h
  split at h
  · split at h
    · next hc =>
      cases h
      have := hc.2
      unfold nameL at this
      simp only [Bool.and_eq_true, decide_eq_true_eq] at this
      omega
    · cases h
  · split at h
    · split at h
      · cases h
        split
        · have h1 := (hex_up x.val).1
          have h2 := hex_len 8 x.val (by simpa using hv) (by decide)
          have h3 := congrArg List.length h1
          unfold Lib.toUpperA at h3
          rw [List.length_map] at h3
          simp
          omega
        · rw [Lib.decDigits_length]
          by_cases h0 : x.val = 0
          · rw [h0, Lib.nDigits_small (by decide)]; decide
          · have := Lib.numDigits_eq x.val (by omega) (by omega)
            split at this <;> omega
      · cases h
    · split at h
      · split at h
        · next hc =>
          cases h
          have := hc.2
          unfold strL at this
          simp only [Bool.and_eq_true, decide_eq_true_eq] at this
          have h2 := esc_len x.text
          simp
          omega
        · cases h
      · split at h
        · split at h
          · cases h; simp
          · cases h
        · split at h
          · split at h
            · cases h; simp
            · cases h
          · cases h
theorem rowT_some {w : World} {a : Option Addr} {n cap : Nat} {xs : List Tp} (h : RowT w (.slice a n cap) xs) {j : Nat} {x : Tp} (hx : xs[j]? = some x) : ∃ g off, a = some ⟨g, off, none⟩ ∧ g < w.heap.size ∧ ∀ j u, (tpsL xs)[j]? = some u → w.cell? ⟨g, off + j, none⟩ = some u := by
  generalize hv : Value.slice a n cap = v at h
  cases h with
  | nil => simp at hx
  | some hg hc h1 => cases hv; exact ⟨_, _, rfl, hg, hc⟩

theorem conv_one (w : World) (c : Nat) (hc : c < 256) (k : Nat) (h : w.cell? ⟨k, 0, none⟩ = some (.int .u8 (c : Int))) : (convert 110 9 (.slice (some ⟨k, 0, none⟩) 1 1)).run Tryz.prog w = .ok (.string ⟨#[UInt8.ofNat c]⟩) w := by
  have := run_convert_bytes_back (P := Tryz.prog) w 110 9 5 ⟨k, 0, none⟩ 1 [UInt8.ofNat c] Tryz.underlying110 Tryz.underlying5 Tryz.underlying9 (fun j hj => by
    have : j = 0 := by simpa using hj
    subst this
    rw [Lib.add_plain]
    simp only [Nat.add_zero, List.getElem_cons_zero]
    rw [h]
    have : (UInt8.ofNat c).toNat = c := by simp; omega
    rw [this])
  exact this
theorem app1 (c : UInt8) (l : List UInt8) : (⟨#[c]⟩ : ByteArray) ++ ⟨l.toArray⟩ = ⟨(c :: l).toArray⟩ := (same_bytes _ _ (by simp [ByteArray.data_append])).symm
theorem dec_step (v : Nat) (h : 10 ≤ v) : Lib.decDigits v = Lib.decDigits (v / 10) ++ [UInt8.ofNat (48 + v % 10)] := by rw [Lib.decDigits, dif_neg (by omega)]
set_option maxHeartbeats 2000000 in
set_option maxRecDepth 100000 in
theorem rdec_any (v0 : Nat) (hv : v0 < 4294967296) (w : World) : Calls Tryz.prog 42 #[.int .u32 (v0 : Int)] w fun e w' => e = .returned (.string ⟨(Lib.decDigits v0).toArray⟩) ∧ Below w.heap.size w w' := by
  go_enter Tryz.func42, Tryz.ntmps42
  go_wp2
  go_loopw [0, 3] (fun v s wr => ∃ (k : Nat) (l : List UInt8), v = .int .u32 (k : Int) ∧ s = .string ⟨l.toArray⟩ ∧ k < 4294967296 ∧ l.length ≤ 4294967296 - k ∧ Hid (Lib.decDigits v0 = Lib.decDigits k ++ l) ∧ Below w.heap.size w wr) (fun v _ _ => (intOf v).toNat)
  case atStart => exact ⟨v0, [], rfl, rfl, hv, by simp, (by show _ = _; simp), Below.refl _ _⟩
  case round =>
    obtain ⟨k, l, rfl, rfl, hk, hl, hh, hb⟩ := hrel
    have hd : (k : Int) % 10 = ((k % 10 : Nat) : Int) := by omega
    have hq : (k : Int) / 10 = ((k / 10 : Nat) : Int) := by omega
    have HL : Hid (l.length ≤ 4294967296 - k) := hl
    have HS : Hid (10 ≤ k → Lib.decDigits k = Lib.decDigits (k / 10) ++ [UInt8.ofNat (48 + k % 10)]) := fun h => dec_step k h
    have HB1 : Hid (k % 10 < 10 ∧ k / 10 ≤ k ∧ (10 ≤ k → k / 10 < k)) := ⟨by omega, by omega, fun h => by omega⟩
    have HO : Hid (k < 10 → Lib.decDigits k = [UInt8.ofNat (48 + k)]) := fun h => Lib.decDigits_one h
    clear hl
    by_cases h10 : 10 ≤ k
    · have h10' : (10 : Int) ≤ k := by omega
      obtain ⟨c, hc⟩ : ∃ c, c = 48 + k % 10 := ⟨_, rfl⟩
      have hc8 : c < 256 := by have := HB1.out.1; omega
      have hci : 48 + ((k % 10 : Nat) : Int) = (c : Int) := by omega
      have hcv := conv_one (wr.alloc (.cells #[.int .u8 (c : Int)] 5)) c hc8 wr.heap.size (by simp)
      have hll : ¬ 9223372036854775807 < 1 + l.length := by have := HL.out; omega
      have HC : Hid (c = 48 + k % 10) := hc
      have happ := app1 (UInt8.ofNat c) l
      clear hc h10
      generalize k % 10 = d at *
      generalize hqq : k / 10 = q at *
      have HQ : Hid (k / 10 = q) := hqq
      clear hqq
      go_wp2
      refine ⟨⟨q, UInt8.ofNat c :: l, rfl, rfl, by have := HB1.out.2.1; omega, ?_, ?_, hb.alloc hb.size _⟩, ?_⟩
      · have := HB1.out.2.2 (by omega)
        have := HL.out
        simp
        omega
      · show _ = _
        rw [hh.out, HS.out (by omega), HC.out]
        simp
      · have := HB1.out.2.2 (by omega)
        simp [intOf]
        omega
    · have h10' : ¬ (10 : Int) ≤ k := by omega
      obtain ⟨c, hc⟩ : ∃ c, c = 48 + k := ⟨_, rfl⟩
      have hc8 : c < 256 := by omega
      have hci : 48 + (k : Int) = (c : Int) := by omega
      have hcv := conv_one (wr.alloc (.cells #[.int .u8 (c : Int)] 5)) c hc8 wr.heap.size (by simp)
      have hll : ¬ 9223372036854775807 < 1 + l.length := by have := HL.out; omega
      have happ := app1 (UInt8.ofNat c) l
      have HF : Hid (Lib.decDigits v0 = UInt8.ofNat c :: l) := by
        show _ = _
        rw [hh.out, HO.out (by omega), hc]
        rfl
      have hbz := hb.alloc hb.size (.cells #[.int .u8 (c : Int)] 5)
      clear hc h10 hd hq HS HB1 HO hh
      go_wp2
      go_ret
      exact ⟨by rw [HF.out]; rfl, hbz⟩
abbrev hexS : ByteArray := ⟨#[48, 49, 50, 51, 52, 53, 54, 55, 56, 57, 65, 66, 67, 68, 69, 70]⟩
theorem hex_cut (d : Nat) (hd : d < 16) (w : World) : (Instr.slice 9 (.string hexS) (some (.int .u32 (d : Int))) (some (.int .u32 ((d : Int) + 1))) none).run Tryz.prog w = .ok (.string ⟨#[hexD d]⟩) w := by
  have h2 : ∀ k, k < 16 → (hexS.data.toList.drop k).take 1 = [hexD k] := by decide
  have h1 : hexS.extract d (d + 1) = ⟨#[hexD d]⟩ := (same_bytes [hexD d] _ (by rw [Lib.extract_data, ← h2 d hd]; congr 1; omega)).symm
  have h3 : (0 : Int) ≤ d ∧ (d : Int) ≤ (d : Int) + 1 ∧ (d : Int) + 1 ≤ hexS.size := by have : hexS.size = 16 := rfl; omega
  have h4 : ((d : Int) + 1).toNat = d + 1 := by omega
  simp [go_sem, h3, h4, h1]
  omega
def hexR (v : Nat) : List UInt8 := if v = 0 then [] else hexU v
theorem hex_step (v : Nat) : hexU v = hexR (v / 16) ++ [hexD (v % 16)] := by
  unfold hexR hexU
  by_cases h : v < 16
  · have h0 : v / 16 = 0 := by omega
    rw [h0, if_pos rfl, hexG, dif_pos h, show v % 16 = v by omega]
    rfl
  · rw [if_neg (by omega), hexG, dif_neg h]
set_option maxHeartbeats 2000000 in
set_option maxRecDepth 100000 in
theorem rhex_any (v0 : Nat) (hv : v0 < 4294967296) (w : World) : Calls Tryz.prog 41 #[.int .u32 (v0 : Int)] w fun e w' => e = .returned (.string ⟨(48 :: 120 :: hexU v0).toArray⟩) ∧ Below w.heap.size w w' := by
  go_enter Tryz.func41, Tryz.ntmps41
  go_wp2
  go_loopw [0, 3, 4] (fun v s i wr => ∃ (k : Nat) (l : List UInt8) (j : Nat), v = .int .u32 (k : Int) ∧ s = .string ⟨l.toArray⟩ ∧ i = .int .i64 (j : Int) ∧ k < 4294967296 ∧ l.length ≤ 4294967297 - k ∧ j = l.length ∧ Hid ((j = 0 → k = v0) ∧ (j ≠ 0 → hexU v0 = hexR k ++ l)) ∧ Below w.heap.size w wr) (fun v _ i _ => 2 * (intOf v).toNat + (1 - (intOf i).toNat))
  case atStart => exact ⟨v0, [], 0, rfl, rfl, rfl, hv, by simp, rfl, ⟨fun _ => rfl, fun h => absurd rfl h⟩, Below.refl _ _⟩
  case round =>
    obtain ⟨k, l, j, rfl, rfl, rfl, hk, hl, hjl, hh, hb⟩ := hrel
    have hd : (k : Int) % 16 = ((k % 16 : Nat) : Int) := by omega
    have hq : (k : Int) / 16 = ((k / 16 : Nat) : Int) := by omega
    have HL : Hid (l.length ≤ 4294967297 - k ∧ j = l.length) := ⟨hl, hjl⟩
    have HS : Hid (hexU k = hexR (k / 16) ++ [hexD (k % 16)]) := hex_step k
    have HB1 : Hid (k / 16 ≤ k ∧ (0 < k → k / 16 < k)) := ⟨by omega, fun h => by omega⟩
    clear hl hjl
    by_cases hj0 : j = 0
    · have hj0' : ((j : Int) == 0) = true := by rw [hj0]; rfl
      have HJ0 : Hid (j = 0) := hj0
      have hl0 : l = [] := List.eq_nil_of_length_eq_zero (by have := HL.out.2; omega)
      have HL0 : Hid (l = []) := hl0
      clear hj0 hl0
      have hcut := hex_cut (k % 16) (by omega)
      have hll : ¬ 9223372036854775807 < 1 + l.length := by have := HL.out.1; omega
      have happ := app1 (hexD (k % 16)) l
      have hjb : (j : Int) < 4294967298 := by have := HL.out; omega
      have HN : Hid (hexU v0 = hexR (k / 16) ++ hexD (k % 16) :: l) := by
        show _ = _
        rw [HL0.out, ← hh.out.1 HJ0.out]; exact HS.out
      clear hh HS
      generalize k % 16 = d at *
      generalize k / 16 = q at *
      go_wp2
      refine ⟨⟨q, hexD d :: l, j + 1, rfl, rfl, by go_num, by have := HB1.out.1; omega, ?_, by have := HL.out.2; simp; omega, ⟨fun h => absurd h (by omega), fun _ => HN.out⟩, hb⟩, ?_⟩
      · have h1 := HL.out
        have h2 := HB1.out
        have h3 := HJ0.out
        simp
        omega
      · have h2 := HB1.out
        have h3 := HJ0.out
        simp [intOf]
        omega
    · have hj0' : ((j : Int) == 0) = false := by rw [beq_eq_false_iff_ne]; omega
      by_cases hk0 : 0 < k
      · have hk0' : (0 : Int) < k := by omega
        have hcut := hex_cut (k % 16) (by omega)
        have hll : ¬ 9223372036854775807 < 1 + l.length := by have := HL.out.1; omega
        have happ := app1 (hexD (k % 16)) l
        have hjb : (j : Int) < 4294967298 := by have := HL.out; omega
        have HN : Hid (hexU v0 = hexR (k / 16) ++ hexD (k % 16) :: l) := by
          show _ = _
          rw [hh.out.2 hj0, hexR, if_neg (by omega), HS.out]; simp
        clear hh HS
        generalize k % 16 = d at *
        generalize k / 16 = q at *
        go_wp2
        refine ⟨⟨q, hexD d :: l, j + 1, rfl, rfl, by go_num, by have := HB1.out.1; omega, ?_, by have := HL.out.2; simp; omega, ⟨fun h => absurd h (by omega), fun _ => HN.out⟩, hb⟩, ?_⟩
        · have h1 := HL.out
          have h2 := HB1.out
          simp
          omega
        · have h2 := HB1.out
          simp [intOf]
          omega
      · have hk0' : ¬ (0 : Int) < k := by omega
        have HF : Hid (hexU v0 = l) := by
          show _ = _
          rw [hh.out.2 hj0, hexR, if_pos (by omega)]
          rfl
        have happ := app2 l
        have hll : ¬ 9223372036854775807 < 2 + l.length := by have := HL.out.1; omega
        clear hh HS HB1 HL hd hq hj0 hk0
        go_wp2
        go_ret
        exact ⟨by rw [HF.out]; rfl, hb⟩
theorem nameL_nil {t : List UInt8} (h : t.length = 0) : nameL t = false := by
  have : t = [] := List.eq_nil_of_length_eq_zero h
  subst this
  rfl
theorem nameL_cons {t : List UInt8} {x : UInt8} (h : t[0]? = some x) : nameL t = (decide (t.length ≤ 63) && isL x && decide (wlen t = t.length)) := by
  cases t with
  | nil => cases h
  | cons y t => cases h; rfl
theorem rname_any (s : ByteArray) (w : World) (hs : s.size < 4611686018427387904) :
    Calls Tryz.prog 40 #[.string s] w fun e w' => e = .returned (.bool (nameL s.data.toList)) ∧ w' = w := by
  obtain ⟨r, hr⟩ : ∃ r, nameL s.data.toList = r := ⟨_, rfl⟩
  rw [hr]
  have HR : Hid (nameL s.data.toList = r) := hr
  clear hr
  have cw := rword_any s 0 w hs (by omega)
  rw [List.drop_zero, Nat.zero_add] at cw
  by_cases h0 : s.size = 0
  · have h0' : ¬ (0 : Int) < s.size := by omega
    have HF : Hid (r = false) := by show r = _; rw [← HR.out]; exact nameL_nil (by rw [len_all]; exact h0)
    clear h0
    go_enter Tryz.func40, Tryz.ntmps40
    go_wp2
    go_ret
    exact ⟨by rw [HF.out]; rfl, rfl⟩
  · have h0' : (0 : Int) < s.size := by omega
    obtain ⟨x, hx⟩ : ∃ x, s[0]'(by omega) = x := ⟨_, rfl⟩
    have hix : ∀ w, (Instr.index 9 (.string s) (.int .i64 0)).run Tryz.prog w = .ok (.int .u8 (x.toNat : Int)) w := fun w => by
      rw [← hx]; exact index_at s 0 _ w (by omega) rfl
    have hn := nameL_cons (by rw [snoc_all s 0 (by omega), hx] : s.data.toList[0]? = some x)
    rw [len_all] at hn
    have HN : Hid (r = (decide (s.size ≤ 63) && isL x && decide (wlen s.data.toList = s.size))) := by show r = _; rw [← HR.out]; exact hn
    have cf := rfirst_any x w
    clear hn hx HR h0
    by_cases h63 : s.size ≤ 63
    · have h63' : (s.size : Int) ≤ 63 := by omega
      cases hL : isL x with
      | false =>
        have HF : Hid (r = false) := by show r = _; rw [HN.out, hL]; simp
        rw [hL] at cf
        clear HN hL
        go_enter Tryz.func40, Tryz.ntmps40
        go_wp2_with (first | (go_at_call 61; refine cf.mono ?_; rintro e w' ⟨rfl, rfl⟩) | (go_at_call 62; refine cw.mono ?_; rintro e w' ⟨rfl, rfl⟩))
        go_ret
        exact ⟨by rw [HF.out]; rfl, rfl⟩
      | true =>
        rw [hL] at cf
        by_cases hw : wlen s.data.toList = s.size
        · have hw' : ((wlen s.data.toList : Int) == (s.size : Int)) = true := by rw [hw]; simp
          have HF : Hid (r = true) := by show r = _; rw [HN.out, hL, decide_eq_true h63, decide_eq_true hw]; rfl
          generalize wlen s.data.toList = n at *
          clear HN hL hw
          go_enter Tryz.func40, Tryz.ntmps40
          go_wp2_with (first | (go_at_call 61; refine cf.mono ?_; rintro e w' ⟨rfl, rfl⟩) | (go_at_call 62; refine cw.mono ?_; rintro e w' ⟨rfl, rfl⟩))
          go_ret
          exact ⟨by rw [HF.out]; rfl, rfl⟩
        · have hw' : ((wlen s.data.toList : Int) == (s.size : Int)) = false := by rw [beq_eq_false_iff_ne]; omega
          have HF : Hid (r = false) := by show r = _; rw [HN.out, decide_eq_false hw]; simp
          generalize wlen s.data.toList = n at *
          clear HN hL hw
          go_enter Tryz.func40, Tryz.ntmps40
          go_wp2_with (first | (go_at_call 61; refine cf.mono ?_; rintro e w' ⟨rfl, rfl⟩) | (go_at_call 62; refine cw.mono ?_; rintro e w' ⟨rfl, rfl⟩))
          go_ret
          exact ⟨by rw [HF.out]; rfl, rfl⟩
    · have h63' : ¬ (s.size : Int) ≤ 63 := by omega
      have HF : Hid (r = false) := by show r = _; rw [HN.out, decide_eq_false h63]; rfl
      clear HN h63
      go_enter Tryz.func40, Tryz.ntmps40
      go_wp2
      go_ret
      exact ⟨by rw [HF.out]; rfl, rfl⟩

set_option maxHeartbeats 2000000 in
theorem rstring_any (s : ByteArray) (w : World) (hs : s.size < 4611686018427387904) :
    Calls Tryz.prog 43 #[.string s] w fun e w' => e = .returned (.bool (strL s.data.toList)) ∧ w' = w := by
  obtain ⟨r, hr⟩ : ∃ r, strL s.data.toList = r := ⟨_, rfl⟩
  rw [hr]
  have HR : Hid (strL s.data.toList = r) := hr
  clear hr
  go_enter Tryz.func43, Tryz.ntmps43
  go_wp2
  go_loop [3] (fun v => ∃ j : Nat, j ≤ s.size ∧ v = .int .i64 (j : Int) ∧ Hid ((s.data.toList.take j).all sayB = true)) (fun v => s.size - (intOf v).toNat)
  case atStart => exact ⟨0, by omega, rfl, (by show _ = _; simp)⟩
  case round =>
    obtain ⟨j, hj, rfl, hh⟩ := hrel
    by_cases hlt : j < s.size
    · have hlt' : (j : Int) < s.size := by omega
      obtain ⟨x, hx⟩ : ∃ c, s[j] = c := ⟨_, rfl⟩
      have HX : Hid (s.data.toList[j]? = some x) := by show _ = _; rw [snoc_all s j hlt, hx]
      have hix : ∀ w, (Instr.index 9 (.string s) (.int .i64 (j : Int))).run Tryz.prog w = .ok (.int .u8 (x.toNat : Int)) w := fun w => by
        rw [← hx]; exact index_at s j _ w hlt rfl
      clear hx
      by_cases hsay : 32 ≤ x.toNat ∧ x.toNat ≤ 126
      · have i1 : ¬ (x.toNat : Int) < 32 := by omega
        have i2 : ¬ (126 : Int) < x.toNat := by omega
        have HN : Hid ((s.data.toList.take (j + 1)).all sayB = true) := by
          show _ = _
          rw [List.take_add_one, HX.out, List.all_append, hh.out]
          simp [sayB, hsay]
        clear hsay hh
        go_wp2
        go_round
        case rel => exact ⟨j + 1, by omega, by go_num, HN.out⟩
        case measure => simp [intOf]; omega
      · have HF : Hid (r = false) := by
          show r = _
          rw [← HR.out]
          unfold strL
          have : s.data.toList.all sayB = false := by
            rw [List.all_eq_false]
            exact ⟨x, List.mem_of_getElem? HX.out, by unfold sayB; rw [decide_eq_false hsay]; decide⟩
          rw [this, Bool.and_false]
        clear hh HR
        by_cases h32 : x.toNat < 32
        · have i1 : (x.toNat : Int) < 32 := by omega
          clear hsay h32
          go_wp2
          go_ret
          exact ⟨by rw [HF.out]; rfl, rfl⟩
        · have i1 : ¬ (x.toNat : Int) < 32 := by omega
          have i2 : (126 : Int) < x.toNat := by omega
          clear hsay h32
          go_wp2
          go_ret
          exact ⟨by rw [HF.out]; rfl, rfl⟩
    · have hlt' : ¬ (j : Int) < s.size := by omega
      have HF : Hid (r = decide ((s.size : Int) ≤ 255)) := by
        show r = _
        rw [← HR.out]
        have h1 := hh.out
        rw [List.take_of_length_le (by rw [len_all]; omega)] at h1
        unfold strL
        rw [h1, len_all, Bool.and_true]
        congr 1
        apply propext
        constructor <;> intro h <;> omega
      clear hh HR
      by_cases h255 : s.size ≤ 255
      · have h255' : (s.size : Int) ≤ 255 := by omega
        clear h255
        go_wp2
        go_ret
        exact ⟨by rw [HF.out, decide_eq_true h255']; rfl, rfl⟩
      · have h255' : ¬ (s.size : Int) ≤ 255 := by omega
        have HG : Hid (r = false) := by show r = _; rw [HF.out, decide_eq_false h255']
        clear h255 HF
        go_wp2
        go_ret
        exact ⟨by rw [HG.out]; rfl, rfl⟩
theorem cut_one (s : ByteArray) (j : Nat) (x : UInt8) (h : j < s.size) (hx : s.data.toList[j]? = some x) (w : World) (z : Int) (hz : z = (j : Int) + 1) : (Instr.slice 9 (.string s) (some (.int .i64 (j : Int))) (some (.int .i64 z)) none).run Tryz.prog w = .ok (.string ⟨#[x]⟩) w := by
  subst hz
  have h1 : s.extract j (j + 1) = ⟨#[x]⟩ := (same_bytes [x] _ (by
    rw [Lib.extract_data]
    obtain ⟨q1, q2⟩ := List.getElem?_eq_some_iff.1 hx
    rw [List.drop_eq_getElem_cons q1, q2, show j + 1 - j = 1 by omega]
    rfl)).symm
  have h2 : (0 : Int) ≤ j ∧ (j : Int) ≤ (j : Int) + 1 ∧ (j : Int) + 1 ≤ s.size := by omega
  have h3 : ((j : Int) + 1).toNat = j + 1 := by omega
  simp [go_sem, h2, h3, h1]
theorem appl (l : List UInt8) (c : UInt8) : (⟨l.toArray⟩ : ByteArray) ++ ⟨#[c]⟩ = ⟨(l ++ [c]).toArray⟩ := (same_bytes _ _ (by simp [ByteArray.data_append])).symm
set_option maxHeartbeats 2000000 in
theorem rquote_any (s : ByteArray) (w : World) (hs : s.size ≤ 255) :
    Calls Tryz.prog 44 #[.string s] w fun e w' => e = .returned (.string ⟨(34 :: (escL s.data.toList ++ [34])).toArray⟩) ∧ w' = w := by
  obtain ⟨r, hr⟩ : ∃ r, 34 :: (escL s.data.toList ++ [34]) = r := ⟨_, rfl⟩
  rw [hr]
  have HR : Hid (34 :: (escL s.data.toList ++ [34]) = r) := hr
  clear hr
  go_enter Tryz.func44, Tryz.ntmps44
  go_wp2
  go_loop [3, 4] (fun q v => ∃ (j : Nat) (l : List UInt8), j ≤ s.size ∧ v = .int .i64 (j : Int) ∧ q = .string ⟨l.toArray⟩ ∧ l.length ≤ 2 * j + 1 ∧ Hid (l = 34 :: escL (s.data.toList.take j))) (fun _ v => s.size - (intOf v).toNat)
  case atStart => exact ⟨0, [34], by omega, rfl, rfl, by simp, by show _ = _; simp [escL]⟩
  case round =>
    obtain ⟨j, l, hj, rfl, rfl, hl, hh⟩ := hrel
    by_cases hlt : j < s.size
    · have hlt' : (j : Int) < s.size := by omega
      obtain ⟨x, hx⟩ : ∃ c, s[j] = c := ⟨_, rfl⟩
      have hxl : s.data.toList[j]? = some x := by rw [snoc_all s j hlt, hx]
      have hcut := fun w => cut_one s j x hlt hxl w ((j : Int) + 1) rfl
      have htk : s.data.toList.take (j + 1) = s.data.toList.take j ++ [x] := by rw [List.take_add_one, hxl]; rfl
      have hix : ∀ w, (Instr.index 9 (.string s) (.int .i64 (j : Int))).run Tryz.prog w = .ok (.int .u8 (x.toNat : Int)) w := fun w => by
        rw [← hx]; exact index_at s j _ w hlt rfl
      by_cases he : escB x = true
      · have HN : Hid (l ++ [92] ++ [x] = 34 :: escL (s.data.toList.take (j + 1))) := by
          show _ = _
          rw [htk, hh.out]; unfold escL; rw [List.flatMap_append]; simp [he]
        have a1 := appl l 92
        have a2 := appl (l ++ [92]) x
        have hw1 : ¬ 9223372036854775807 < l.length + 1 := by omega
        have hw2 : ¬ 9223372036854775807 < l.length + 1 + 1 := by omega
        have hcc : x = 34 ∨ x = 92 := of_decide_eq_true he
        clear hh htk hxl hx he
        rcases hcc with rfl | rfl
        · have hix' : ∀ w, (Instr.index 9 (.string s) (.int .i64 (j : Int))).run Tryz.prog w = .ok (.int .u8 34) w := hix
          clear hix
          go_wp2
          go_round
          case rel => exact ⟨j + 1, l ++ [92] ++ [34], by omega, by go_num, (by simp), by simp; omega, HN.out⟩
          case measure => simp [intOf]; omega
        · have hix' : ∀ w, (Instr.index 9 (.string s) (.int .i64 (j : Int))).run Tryz.prog w = .ok (.int .u8 92) w := hix
          clear hix
          go_wp2
          go_round
          case rel => exact ⟨j + 1, l ++ [92] ++ [92], by omega, by go_num, (by simp), by simp; omega, HN.out⟩
          case measure => simp [intOf]; omega
      · have HN : Hid (l ++ [x] = 34 :: escL (s.data.toList.take (j + 1))) := by
          show _ = _
          rw [htk, hh.out]; unfold escL; rw [List.flatMap_append]; simp [he]
        have a1 := appl l x
        have hw1 : ¬ 9223372036854775807 < l.length + 1 := by omega
        have i1 : ((x.toNat : Int) == 34) = false := by
          rw [beq_eq_false_iff_ne]; intro e; exact he (decide_eq_true (Or.inl (UInt8.toNat_inj.1 (by show x.toNat = 34; omega))))
        have i2 : ((x.toNat : Int) == 92) = false := by
          rw [beq_eq_false_iff_ne]; intro e; exact he (decide_eq_true (Or.inr (UInt8.toNat_inj.1 (by show x.toNat = 92; omega))))
        clear hh htk hxl hx he
        go_wp2
        go_round
        case rel => exact ⟨j + 1, l ++ [x], by omega, by go_num, rfl, by simp; omega, HN.out⟩
        case measure => simp [intOf]; omega
    · have hlt' : ¬ (j : Int) < s.size := by omega
      have HF : Hid (r = l ++ [34]) := by
        show r = _
        rw [← HR.out, hh.out, List.take_of_length_le (by rw [len_all]; omega)]
        rfl
      have a1 := appl l 34
      have hw1 : ¬ 9223372036854775807 < l.length + 1 := by omega
      clear hh HR
      go_wp2
      go_ret
      exact ⟨by rw [HF.out]; rfl, rfl⟩
end Go.Proofs.YtlbgppijeoonjaaGreatDoor

namespace Go.Proofs.YtlbgppijeoonjaaGreatDoor
open Go.RowKit
set_option linter.unusedVariables false


set_option maxHeartbeats 4000000 in
set_option maxRecDepth 100000 in
theorem rSpell_any (x : Tz) (o l c : Int) (w : World) (hx : TzOk x) :
    Calls Tryz.prog 19 #[tzV x o l c] w fun e w' => e = .returned (spV2 x) ∧ Below w.heap.size w w' := by
  obtain ⟨a, ha⟩ : ∃ a, spV2 x = a := ⟨_, rfl⟩
  rw [ha]
  have HX : Hid (spV2 x = a) := ha
  clear ha
  obtain ⟨kind, text, val, hex⟩ := x
  have hv : val < 4294967296 := hx.1
  have ht : text.length < 4611686018427387904 := hx.2
  have hts : (⟨text.toArray⟩ : ByteArray).size < 4611686018427387904 := by show text.toArray.size < _; rw [List.size_toArray]; omega
  have htl : (⟨text.toArray⟩ : ByteArray).data.toList = text := by simp
  clear hx
  have cn := rname_any ⟨text.toArray⟩
  have cs := rstring_any ⟨text.toArray⟩
  have cd := rdec_any val hv
  have ch := rhex_any val hv
  rw [htl] at cn cs
  unfold tzV tzC
  simp only
  by_cases k2 : kind = 2
  · subst k2
    clear cn cs
    by_cases h0 : text = []
    · subst h0
      by_cases hv0 : val = 0
      · subst hv0
        cases hex with
        | true =>
          have HY : Hid (spV2 ⟨2, [], 0, true⟩ = .tuple #[.string ⟨(48 :: 120 :: hexU 0).toArray⟩, .int .i64 0]) := by show spV2 _ = _; unfold spV2; rw [spz_num]; rfl
          have cc : ∀ w, Calls Tryz.prog 41 #[.int .u32 0] w fun e w' => e = .returned (.string ⟨(48 :: 120 :: hexU 0).toArray⟩) ∧ Below w.heap.size w w' := ch
          generalize (⟨(48 :: 120 :: hexU 0).toArray⟩ : ByteArray) = res at *
          clear cd ch hv
          go_enter Tryz.func19, Tryz.ntmps19
          go_wp2_with (first | (go_at_call 41; refine (cc _).mono ?_; rintro e w1 ⟨rfl, hb1⟩))
          go_ret2
          exact ⟨by rw [← HX.out, HY.out]; rfl, ((Below.refl w.heap.size w).alloc (Nat.le_refl _) _).trans (hb1.mono (by simp))⟩
        | false =>
          have HY : Hid (spV2 ⟨2, [], 0, false⟩ = .tuple #[.string ⟨(Lib.decDigits 0).toArray⟩, .int .i64 0]) := by show spV2 _ = _; unfold spV2; rw [spz_num]; rfl
          have cc : ∀ w, Calls Tryz.prog 42 #[.int .u32 0] w fun e w' => e = .returned (.string ⟨(Lib.decDigits 0).toArray⟩) ∧ Below w.heap.size w w' := cd
          generalize (⟨(Lib.decDigits 0).toArray⟩ : ByteArray) = res at *
          clear cd ch hv
          go_enter Tryz.func19, Tryz.ntmps19
          go_wp2_with (first | (go_at_call 42; refine (cc _).mono ?_; rintro e w1 ⟨rfl, hb1⟩))
          go_ret2
          exact ⟨by rw [← HX.out, HY.out]; rfl, ((Below.refl w.heap.size w).alloc (Nat.le_refl _) _).trans (hb1.mono (by simp))⟩
      · have hv0' : ((val : Int) == 0) = false := by rw [beq_eq_false_iff_ne]; omega
        cases hex with
        | true =>
          have HY : Hid (spV2 ⟨2, [], val, true⟩ = .tuple #[.string ⟨(48 :: 120 :: hexU val).toArray⟩, .int .i64 0]) := by show spV2 _ = _; unfold spV2; rw [spz_num]; rfl
          have cc : ∀ w, Calls Tryz.prog 41 #[.int .u32 (val : Int)] w fun e w' => e = .returned (.string ⟨(48 :: 120 :: hexU val).toArray⟩) ∧ Below w.heap.size w w' := ch
          generalize (⟨(48 :: 120 :: hexU val).toArray⟩ : ByteArray) = res at *
          clear cd ch hv
          go_enter Tryz.func19, Tryz.ntmps19
          go_wp2_with (first | (go_at_call 41; refine (cc _).mono ?_; rintro e w1 ⟨rfl, hb1⟩))
          go_ret2
          exact ⟨by rw [← HX.out, HY.out]; rfl, ((Below.refl w.heap.size w).alloc (Nat.le_refl _) _).trans (hb1.mono (by simp))⟩
        | false =>
          have HY : Hid (spV2 ⟨2, [], val, false⟩ = .tuple #[.string ⟨(Lib.decDigits val).toArray⟩, .int .i64 0]) := by show spV2 _ = _; unfold spV2; rw [spz_num]; rfl
          have cc : ∀ w, Calls Tryz.prog 42 #[.int .u32 (val : Int)] w fun e w' => e = .returned (.string ⟨(Lib.decDigits val).toArray⟩) ∧ Below w.heap.size w w' := cd
          generalize (⟨(Lib.decDigits val).toArray⟩ : ByteArray) = res at *
          clear cd ch hv
          go_enter Tryz.func19, Tryz.ntmps19
          go_wp2_with (first | (go_at_call 42; refine (cc _).mono ?_; rintro e w1 ⟨rfl, hb1⟩))
          go_ret2
          exact ⟨by rw [← HX.out, HY.out]; rfl, ((Below.refl w.heap.size w).alloc (Nat.le_refl _) _).trans (hb1.mono (by simp))⟩
    · have hte : text.isEmpty = false := by cases text with | nil => exact absurd rfl h0 | cons x y => rfl
      have HY : Hid (spV2 ⟨2, text, val, hex⟩ = .tuple #[.string ⟨#[]⟩, .int .i64 20]) := by show spV2 _ = _; unfold spV2; simp [spz, h0]
      clear h0 cd ch
      by_cases hv0 : val = 0
      · subst hv0
        cases hex with
        | true =>
          go_enter Tryz.func19, Tryz.ntmps19
          go_wp2
          go_ret2
          exact ⟨by rw [← HX.out, HY.out]; rfl, (Below.refl _ _).alloc (Nat.le_refl _) _⟩
        | false =>
          go_enter Tryz.func19, Tryz.ntmps19
          go_wp2
          go_ret2
          exact ⟨by rw [← HX.out, HY.out]; rfl, (Below.refl _ _).alloc (Nat.le_refl _) _⟩
      · have hv0' : ((val : Int) == 0) = false := by rw [beq_eq_false_iff_ne]; omega
        go_enter Tryz.func19, Tryz.ntmps19
        go_wp2
        go_ret2
        exact ⟨by rw [← HX.out, HY.out]; rfl, (Below.refl _ _).alloc (Nat.le_refl _) _⟩
  · have k2' : (kind == 2) = false := by rw [beq_eq_false_iff_ne]; exact k2
    by_cases hp : val = 0 ∧ hex = false
    · obtain ⟨rfl, rfl⟩ := hp
      by_cases k1 : kind = 1
      · subst k1
        cases hn : nameL text with
        | true =>
          have HY : Hid (spV2 ⟨1, text, 0, false⟩ = .tuple #[.string ⟨text.toArray⟩, .int .i64 0]) := by show spV2 _ = _; unfold spV2; rw [spz_name hn]
          rw [hn] at cn
          clear hn
          go_enter Tryz.func19, Tryz.ntmps19
          go_wp2_with (first | (go_at_call 40; refine (cn _ hts).mono ?_; rintro e w1 ⟨rfl, rfl⟩))
          go_ret2
          exact ⟨by rw [← HX.out, HY.out]; rfl, (Below.refl _ _).alloc (Nat.le_refl _) _⟩
        | false =>
          have HY : Hid (spV2 ⟨1, text, 0, false⟩ = .tuple #[.string ⟨#[]⟩, .int .i64 20]) := by show spV2 _ = _; unfold spV2; simp [spz, plainZ, hn]
          rw [hn] at cn
          clear hn
          go_enter Tryz.func19, Tryz.ntmps19
          go_wp2_with (first | (go_at_call 40; refine (cn _ hts).mono ?_; rintro e w1 ⟨rfl, rfl⟩))
          go_ret2
          exact ⟨by rw [← HX.out, HY.out]; rfl, (Below.refl _ _).alloc (Nat.le_refl _) _⟩
      · have k1' : (kind == 1) = false := by rw [beq_eq_false_iff_ne]; exact k1
        by_cases k3 : kind = 3
        · subst k3
          cases hn : strL text with
          | true =>
            have HY : Hid (spV2 ⟨3, text, 0, false⟩ = .tuple #[.string ⟨(34 :: (escL text ++ [34])).toArray⟩, .int .i64 0]) := by show spV2 _ = _; unfold spV2; rw [spz_str hn]
            rw [hn] at cs
            have hl : text.length ≤ 255 := by
              unfold strL at hn
              simp only [Bool.and_eq_true, decide_eq_true_eq] at hn
              exact hn.1
            have cq := fun w => rquote_any ⟨text.toArray⟩ w (by show text.toArray.size ≤ _; rw [List.size_toArray]; exact hl)
            rw [htl] at cq
            generalize (⟨(34 :: (escL text ++ [34])).toArray⟩ : ByteArray) = res at *
            clear hn hl
            go_enter Tryz.func19, Tryz.ntmps19
            go_wp2_with (first | (go_at_call 43; refine (cs _ hts).mono ?_; rintro e w1 ⟨rfl, rfl⟩) | (go_at_call 44; refine (cq _).mono ?_; rintro e w1 ⟨rfl, rfl⟩))
            go_ret2
            exact ⟨by rw [← HX.out, HY.out]; rfl, (Below.refl _ _).alloc (Nat.le_refl _) _⟩
          | false =>
            have HY : Hid (spV2 ⟨3, text, 0, false⟩ = .tuple #[.string ⟨#[]⟩, .int .i64 20]) := by show spV2 _ = _; unfold spV2; simp [spz, plainZ, hn]
            rw [hn] at cs
            clear hn
            go_enter Tryz.func19, Tryz.ntmps19
            go_wp2_with (first | (go_at_call 43; refine (cs _ hts).mono ?_; rintro e w1 ⟨rfl, rfl⟩))
            go_ret2
            exact ⟨by rw [← HX.out, HY.out]; rfl, (Below.refl _ _).alloc (Nat.le_refl _) _⟩
        · have k3' : (kind == 3) = false := by rw [beq_eq_false_iff_ne]; exact k3
          clear cn cs cd ch
          by_cases h0 : text = []
          · subst h0
            by_cases k0 : kind = 0
            · subst k0
              have HY : Hid (spV2 ⟨0, [], 0, false⟩ = .tuple #[.string ⟨#[]⟩, .int .i64 0]) := rfl
              go_enter Tryz.func19, Tryz.ntmps19
              go_wp2
              go_ret2
              exact ⟨by rw [← HX.out, HY.out]; rfl, (Below.refl _ _).alloc (Nat.le_refl _) _⟩
            · have k0' : (kind == 0) = false := by rw [beq_eq_false_iff_ne]; exact k0
              by_cases km : 4 ≤ kind ∧ kind ≤ 8
              · have k5 : kind = 4 ∨ kind = 5 ∨ kind = 6 ∨ kind = 7 ∨ kind = 8 := by omega
                clear km k0 k1 k2 k3 k0' k1' k2' k3'
                rcases k5 with rfl | rfl | rfl | rfl | rfl
                all_goals
                  go_enter Tryz.func19, Tryz.ntmps19
                  go_wp2
                  go_ret2
                  exact ⟨by rw [← HX.out]; rfl, (Below.refl _ _).alloc (Nat.le_refl _) _⟩
              · have HY : Hid (spV2 ⟨kind, [], 0, false⟩ = .tuple #[.string ⟨#[]⟩, .int .i64 20]) := by show spV2 _ = _; unfold spV2; simp [spz, k0, k1, k2, k3, km]
                by_cases k4 : 4 ≤ kind
                · have k8 : ¬ kind ≤ 8 := fun h => km ⟨k4, h⟩
                  clear km k0 k1 k2 k3
                  go_enter Tryz.func19, Tryz.ntmps19
                  go_wp2
                  go_ret2
                  exact ⟨by rw [← HX.out, HY.out]; rfl, (Below.refl _ _).alloc (Nat.le_refl _) _⟩
                · clear km k0 k1 k2 k3
                  go_enter Tryz.func19, Tryz.ntmps19
                  go_wp2
                  go_ret2
                  exact ⟨by rw [← HX.out, HY.out]; rfl, (Below.refl _ _).alloc (Nat.le_refl _) _⟩
          · have hte : text.isEmpty = false := by cases text with | nil => exact absurd rfl h0 | cons x y => rfl
            have HY : Hid (spV2 ⟨kind, text, 0, false⟩ = .tuple #[.string ⟨#[]⟩, .int .i64 20]) := by show spV2 _ = _; unfold spV2; simp [spz, h0, k1, k2, k3]
            clear h0 k1 k2 k3
            go_enter Tryz.func19, Tryz.ntmps19
            go_wp2
            all_goals
              go_ret2
              exact ⟨by rw [← HX.out, HY.out]; rfl, (Below.refl _ _).alloc (Nat.le_refl _) _⟩
    · have HY : Hid (spV2 ⟨kind, text, val, hex⟩ = .tuple #[.string ⟨#[]⟩, .int .i64 20]) := by
        have : plainZ ⟨kind, text, val, hex⟩ = false := by
          cases h : plainZ ⟨kind, text, val, hex⟩ with
          | false => rfl
          | true => exact absurd (plain_iff h) hp
        show spV2 _ = _
        unfold spV2
        simp [spz, this, k2]
      clear cn cs cd ch k2
      by_cases hv0 : val = 0
      · subst hv0
        have hh : hex = true := by cases hex with | true => rfl | false => exact absurd ⟨rfl, rfl⟩ hp
        subst hh
        clear hp
        go_enter Tryz.func19, Tryz.ntmps19
        go_wp2
        all_goals
          go_ret2
          exact ⟨by rw [← HX.out, HY.out]; rfl, (Below.refl _ _).alloc (Nat.le_refl _) _⟩
      · have hv0' : ((val : Int) == 0) = false := by rw [beq_eq_false_iff_ne]; omega
        clear hp hv0
        go_enter Tryz.func19, Tryz.ntmps19
        go_wp2
        all_goals
          go_ret2
          exact ⟨by rw [← HX.out, HY.out]; rfl, (Below.refl _ _).alloc (Nat.le_refl _) _⟩
end Go.Proofs.YtlbgppijeoonjaaGreatDoor

