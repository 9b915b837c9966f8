import Derived.Test.YtnmknnkpkkefoaaGreatDoorFmx
import Derived.Test.YtnmknnkpkkefoaaGreatDoorSct
namespace Go.Proofs.YtnmknnkpkkefoaaGreatDoor
open Go.RowKit
set_option linter.unusedVariables false

/-- A token, as a value. -/
def tzC (x : Tz) (o l c : Int) : Array Value := #[.int .i64 x.kind, .int .i64 o, .int .i64 l, .int .i64 c, .string ⟨x.text.toArray⟩, .int .u32 (x.val : Int), .bool x.hex]
def tzV (x : Tz) (o l c : Int) : Value := .agg (tzC x o l c)
def fldL (x : Tz) : Bool := if x.kind ≠ 2 ∧ plainZ x = false then false else decide (x.kind = 1 ∨ x.kind = 3 ∨ x.text = [])
set_option maxHeartbeats 2000000 in
theorem fields_any (x : Tz) (o l c : Int) (w : World) : Calls Tryz.prog 49 #[tzV x o l c] w fun e w' => e = .returned (.bool (fldL x)) ∧ Below w.heap.size w w' := by
  obtain ⟨kind, text, val, hex⟩ := x
  unfold tzV tzC
  simp only
  go_enter Tryz.func49, Tryz.ntmps49
  go_wp2
  all_goals
    go_ret
    refine ⟨ret_bool ?_, (Below.refl _ _).alloc (Nat.le_refl _) _⟩
    cases text <;> simp_all [fldL, plainZ]
def nmV (t : ByteArray) : Value := if nameL t.data.toList = true then .tuple #[.string t, .int .i64 0] else .tuple #[.string ⟨#[]⟩, .int .i64 20]
set_option maxHeartbeats 2000000 in
theorem spellName_any (t : ByteArray) (w : World) (hs : t.size < 4611686018427387904) : Calls Tryz.prog 50 #[.string t] w fun e w' => e = .returned (nmV t) ∧ Below w.heap.size w w' := by
  have cw := wordLength_any t
  have cc := clone_any t
  have hwl := wlen_le t.data.toList
  rw [len_all] at hwl
  obtain ⟨r, hr⟩ : ∃ r, nmV t = r := ⟨_, rfl⟩
  rw [hr]
  have HR : Hid (nmV t = r) := hr
  clear hr
  by_cases h0 : t.size = 0
  · have hl : t.data.toList = [] := List.length_eq_zero_iff.1 (by rw [len_all]; exact h0)
    have hemp : t.toList.isEmpty = true := by rw [ByteArray.toList_eq, hl]; rfl
    have HA : Hid (nmV t = .tuple #[.string ⟨#[]⟩, .int .i64 20]) := by show nmV t = _; unfold nmV; rw [hl]; rfl
    clear hl h0 hwl
    go_enter Tryz.func50, Tryz.ntmps50
    go_wp2
    go_ret2
    exact ⟨by rw [← HR.out, HA.out]; rfl, Below.refl _ _⟩
  · have hemp : t.toList.isEmpty = false := by
      rw [ByteArray.toList_eq, List.isEmpty_eq_false_iff]
      intro e
      have := congrArg List.length e
      rw [len_all] at this
      exact h0 this
    by_cases h63 : 63 < t.size
    · have h63' : (63 : Int) < t.size := by omega
      have HA : Hid (nmV t = .tuple #[.string ⟨#[]⟩, .int .i64 20]) := by
        show nmV t = _
        unfold nmV nameL
        rw [len_all, decide_eq_false (by omega)]
        rfl
      clear h0 hwl h63
      go_enter Tryz.func50, Tryz.ntmps50
      go_wp2
      go_ret2
      exact ⟨by rw [← HR.out, HA.out]; rfl, Below.refl _ _⟩
    · have h63' : ¬ (63 : Int) < t.size := by omega
      obtain ⟨x, hx⟩ : ∃ x, t[0]'(by omega) = x := ⟨_, rfl⟩
      have hix : ∀ w, (Instr.index 9 (.string t) (.int .i64 0)).run Tryz.prog w = .ok (.int .u8 (x.toNat : Int)) w := fun w => by
        rw [← hx]; exact index_at t 0 _ w (by omega) rfl
      have hc : ∃ tl, t.data.toList = x :: tl := by
        have := snoc_all t 0 (by omega)
        rw [hx] at this
        cases hd : t.data.toList with
        | nil => rw [hd] at this; cases this
        | cons y tl => rw [hd] at this; cases this; exact ⟨tl, rfl⟩
      have hnm : nameL t.data.toList = (isL x && decide (wlen t.data.toList = t.size)) := by
        obtain ⟨tl, htl⟩ := hc
        have e := len_all t
        unfold nameL
        rw [e, decide_eq_true (by omega : t.size ≤ 63)]
        rw [htl]
        simp
      have HN : Hid (nameL t.data.toList = (isL x && decide (wlen t.data.toList = t.size))) := hnm
      clear hnm hc hx
      have cl := letter_any x
      have hs63 : t.size < 4294967281 := by omega
      by_cases hL : isL x = true
      · rw [hL] at cl
        by_cases hw : wlen t.data.toList = t.size
        · have hw' : ¬ (wlen t.data.toList : Int) < t.size := by omega
          have HA : Hid (nmV t = .tuple #[.string t, .int .i64 0]) := by
            show nmV t = _
            unfold nmV
            rw [HN.out, hL, decide_eq_true hw]
            rfl
          generalize wlen t.data.toList = n at *
          clear hwl hw
          go_enter Tryz.func50, Tryz.ntmps50
          go_wp2_with (first
            | (go_at_call 37; refine (cl _).mono ?_; rintro e w' ⟨rfl, rfl⟩)
            | (go_at_call 58; refine (cw _ hs63).mono ?_; rintro e w' ⟨rfl, rfl⟩)
            | (go_at_call 59; refine (cc _ (by omega)).mono ?_; rintro e w' ⟨rfl, hb⟩))
          go_ret2
          exact ⟨by rw [← HR.out, HA.out]; rfl, hb⟩
        · have hw' : (wlen t.data.toList : Int) < t.size := by omega
          have HA : Hid (nmV t = .tuple #[.string ⟨#[]⟩, .int .i64 20]) := by
            show nmV t = _
            unfold nmV
            rw [HN.out, hL, decide_eq_false hw]
            rfl
          generalize wlen t.data.toList = n at *
          clear hwl hw
          go_enter Tryz.func50, Tryz.ntmps50
          go_wp2_with (first
            | (go_at_call 37; refine (cl _).mono ?_; rintro e w' ⟨rfl, rfl⟩)
            | (go_at_call 58; refine (cw _ hs63).mono ?_; rintro e w' ⟨rfl, rfl⟩))
          go_ret2
          exact ⟨by rw [← HR.out, HA.out]; rfl, Below.refl _ _⟩
      · have hL' : isL x = false := by simpa using hL
        rw [hL'] at cl
        have HA : Hid (nmV t = .tuple #[.string ⟨#[]⟩, .int .i64 20]) := by
          show nmV t = _
          unfold nmV
          rw [HN.out, hL']
          rfl
        clear hwl hL
        go_enter Tryz.func50, Tryz.ntmps50
        go_wp2_with (first
          | (go_at_call 37; refine (cl _).mono ?_; rintro e w' ⟨rfl, rfl⟩))
        go_ret2
        exact ⟨by rw [← HR.out, HA.out]; rfl, Below.refl _ _⟩
theorem hex_len (n v : Nat) (h : v < 16 ^ n) (hn : 1 ≤ n) : (hexG hexd v).length ≤ n := by
  induction n generalizing v with
  | zero => omega
  | succ n ih =>
    by_cases hv : v < 16
    · rw [hexG, dif_pos hv]; simp
    · rw [hexG, dif_neg hv]
      by_cases hn0 : n = 0
      · subst hn0; simp at h; omega
      · have := ih (v / 16) (by rw [Nat.pow_succ] at h; omega) (by omega)
        simp
        omega
theorem app2 (l : List UInt8) : (⟨#[48, 120]⟩ : ByteArray) ++ ⟨l.toArray⟩ = ⟨(48 :: 120 :: l).toArray⟩ := (same_bytes _ _ (by simp [ByteArray.data_append])).symm
set_option maxHeartbeats 1000000 in
theorem spellNumber_any (v : Nat) (hx : Bool) (w : World) (hv : v < 4294967296) (hT : EnvT w) : Calls Tryz.prog 51 #[.int .u32 (v : Int), .bool hx] w fun e w' => e = .returned (.string ⟨(if hx = true then 48 :: 120 :: hexU v else Lib.decDigits v).toArray⟩) ∧ Below w.heap.size w w' := by
  cases hx with
  | true =>
    have c1 := fmtX v hv _ hT
    have hlen := hex_len 8 v (by simpa using hv) (by decide)
    obtain ⟨h1, h2⟩ := hex_up v
    have c2 := fun w => Tryz.strings_ToUpper_ascii ⟨(hexG hexd v).toArray⟩ w (by show (hexG hexd v).toArray.size ≤ _; rw [List.size_toArray]; omega) (fun j b hb => h2 b (List.mem_of_getElem? (by simpa using hb)))
    have e1 : (⟨(hexG hexd v).toArray⟩ : ByteArray).data.toList = hexG hexd v := by simp
    rw [e1, h1] at c2
    have e2 := app2 (hexU v)
    show Calls Tryz.prog 51 #[.int .u32 (v : Int), .bool true] w fun e w' => e = .returned (.string ⟨(48 :: 120 :: hexU v).toArray⟩) ∧ Below w.heap.size w w'
    rw [← e2]
    have hUl : ¬ 9223372036854775807 < 2 + (hexU v).length := by
      rw [← h1]
      unfold Lib.toUpperA
      rw [List.length_map]
      omega
    clear e1 h1 h2 hlen e2
    go_enter Tryz.func51, Tryz.ntmps51
    go_wp2_with (first
      | (go_at_call 68; refine c1.mono ?_; rintro e w1 ⟨rfl, hb1⟩)
      | (go_at_call 67; refine (c2 _).mono ?_; rintro e w2 ⟨rfl, hb2⟩))
    go_ret
    exact ⟨rfl, hb1.trans (hb2.mono hb1.size)⟩
  | false =>
    have c1 := fmtU v (by omega) _ hT.pow
    go_enter Tryz.func51, Tryz.ntmps51
    go_wp2_with (go_at_call 68; refine c1.mono ?_; rintro e w' ⟨rfl, hb⟩)
    go_ret
    exact ⟨rfl, hb⟩
end Go.Proofs.YtnmknnkpkkefoaaGreatDoor
