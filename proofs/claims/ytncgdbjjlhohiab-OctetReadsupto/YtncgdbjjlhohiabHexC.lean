import Derived.Test.YtncgdbjjlhohiabHexB
namespace Go.Proofs.Ytncgdbjjlhohiab
open Go.RowKit
set_option linter.unusedVariables false

def strLen : Value → Nat
  | .string s => s.size
  | _ => 0
def oL (U : Option (List UInt8)) : List UInt8 := U.getD []
def oE (c : Int) (U : Option (List UInt8)) : Int := if U.isSome = true then 0 else c
def lU (s : ByteArray) : List UInt8 := oL (unhexL s.data.toList)
def eU (s : ByteArray) : Int := oE 14 (unhexL s.data.toList)
theorem two_of (S : ByteArray) (h : 2 ≤ S.size) : S.data.toList = S[0] :: S[1] :: (S.extract 2 S.size).data.toList := by
  obtain ⟨⟨l⟩⟩ := S
  match l, h with
  | a :: b :: r, _ =>
    have e : (ByteArray.extract ⟨⟨a :: b :: r⟩⟩ 2 (ByteArray.size ⟨⟨a :: b :: r⟩⟩)).data.toList = (List.drop 2 (a :: b :: r)).take ((ByteArray.size ⟨⟨a :: b :: r⟩⟩) - 2) := by rw [ByteArray.extract_mk]
    rw [e]
    show a :: b :: r = a :: b :: List.take (_ - 2) r
    rw [List.take_of_length_le]
    show r.length ≤ (a :: b :: r).length - 2
    simp
theorem size_cut (S : ByteArray) (h : 2 ≤ S.size) : (S.extract 2 S.size).size = S.size - 2 := by simp

set_option maxHeartbeats 1000000 in
theorem unhex_any (s : ByteArray) (w : World) (hs : s.size ≤ 4194304) :
    Calls Try.prog 11 #[.string s] w fun e w' => ∃ a cap, e = .returned (.tuple #[.slice a (lU s).length cap, .int .i64 (eU s)]) ∧ Own1 w' w.heap.size a cap (lU s) ∧ Below w.heap.size w w' := by
  obtain ⟨i0, hi, hz0, hz1, hz2⟩ := info_parts Try.info5
  obtain ⟨U, hU⟩ : ∃ U, unhexL s.data.toList = U := ⟨_, rfl⟩
  have el : lU s = oL U := by unfold lU; rw [hU]
  have ee : eU s = oE 14 U := by unfold eU; rw [hU]
  rw [el, ee]
  have HU : Hid (_ = _) := hU
  clear hU el ee
  go_enter Try.func11, Try.ntmps11
  go_wp2_with (at_make; refine wpList_make_own _ rfl _ _ 30 rfl w.heap.size 5 i0 (.int .u8 0) 1 Try.underlying30 hi hz0 hz1 .i64 .i64 _ (s.size / 2) rfl rfl (by omega) (by rw [hz2]; omega) (by unfold maxLen; omega) (Nat.le_refl _) ?_)
  intro w1 hown hg
  have hb1 : Below w.heap.size w w1 := (Below.refl _ _).grown hg (Nat.le_refl _) (fun k h => by cases h)
  clear hg
  go_wp2
  go_loopw [0, 4] (fun u0 v wr => ∃ (S : ByteArray) (acc : List UInt8), u0 = .string S ∧ U = (unhexL S.data.toList).map (acc ++ ·) ∧ S.size + 2 * acc.length = s.size ∧ wr.ownsRow w.heap.size 5 1 v acc.length (acc.map B) ∧ Below w.heap.size w wr) (fun u0 _ _ => strLen u0)
  case atStart => exact ⟨s, [], rfl, by rw [HU.out]; simp, by simp, hown, hb1⟩
  case round =>
    clear hown hb1
    obtain ⟨S, acc, rfl, hUS, hSz, ho, hb⟩ := hrel
    obtain ⟨av, cv, rfl⟩ := owns_shape ho
    have HS : Hid (U = (unhexL S.data.toList).map (acc ++ ·)) := hUS
    have HZ : Hid (S.size + 2 * acc.length = s.size) := hSz
    have hS1 : S.size ≤ 4194304 := by omega
    have hacc : acc.length ≤ 4194304 := by omega
    clear hUS hSz
    have hsz := hb.size
    by_cases h0 : S.size = 0
    · have HU2 : Hid (U = some acc) := by
        show U = some acc
        have : S.data.toList = [] := List.eq_nil_of_length_eq_zero (by simpa using h0)
        rw [HS.out, this]; simp [unhexL]
      go_wp2
      go_ret2
      refine ⟨av, cv, ?_, ?_, hb⟩
      · rw [HU2.out]; rfl
      · rw [HU2.out]; exact ho
    · by_cases h1 : S.size = 1
      · have HU2 : Hid (U = none) := by
          show U = none
          have hl : S.data.toList.length = 1 := by simpa using h1
          rw [HS.out]
          match hd : S.data.toList, hl with
          | [x], _ => rfl
        have hlt : S.size < 2 := by omega
        go_wp2_with (go_at_call 35; refine (hexByte_short _ _ hlt).mono ?_; rintro e w' ⟨rfl, rfl⟩)
        go_ret2
        refine ⟨none, 0, ?_, ?_, hb⟩
        · rw [HU2.out]; rfl
        · rw [HU2.out]; exact World.ownsRow_nil _ _ _ _
      · have h2 : 2 ≤ S.size := by omega
        have h2' : (2 : Int) ≤ S.size := by omega
        obtain ⟨c0, hc0⟩ : ∃ c, S[0] = c := ⟨_, rfl⟩
        obtain ⟨c1, hc1⟩ : ∃ c, S[1] = c := ⟨_, rfl⟩
        have HT : Hid (S.data.toList = c0 :: c1 :: (S.extract 2 S.size).data.toList) := by
          show S.data.toList = _
          rw [← hc0, ← hc1]; exact two_of S h2
        have HC : Hid (∀ w, _) := fun w => hexByte_long S c0 c1 w h2 (by unfold maxLen; omega) hc0 hc1
        have HV : Hid (hbOk c0 c1 = true → hbV c0 c1 = ((UInt8.ofNat (16 * nib c0 + nib c1)).toNat : Int)) := by
          intro hk
          have hk2 : nib c0 < 16 ∧ nib c1 < 16 := by unfold hbOk okV at hk; simpa using hk
          unfold hbV
          rw [if_pos hk, UInt8.toNat_ofNat_of_lt' (show _ < 256 by omega)]
        clear hc0 hc1 h0 h1
        cases hk : hbOk c0 c1 with
        | false =>
          have HU2 : Hid (U = none) := by
            show U = none
            rw [HS.out, HT.out, unhexL, if_neg (by rw [hk]; simp)]; rfl
          have C := HC.out
          rw [hk] at C
          have HC2 : Hid (∀ w, _) := C
          clear C hk HC
          generalize hbV c0 c1 = x at *
          go_wp2_with fail
          refine (HC2.out _).mono ?_
          rintro e w2 ⟨rfl, hb2⟩
          have hb3 : Below w.heap.size w w2 := hb.trans (hb2.mono hsz)
          clear ho hb hb2
          go_wp2
          go_ret2
          refine ⟨none, 0, ?_, ?_, hb3⟩
          · rw [HU2.out]; rfl
          · rw [HU2.out]; exact World.ownsRow_nil _ _ _ _
        | true =>
          have C := HC.out
          rw [hk, HV.out hk] at C
          have HC2 : Hid (∀ w, _) := C
          have HR : Hid (U = (unhexL (S.extract 2 S.size).data.toList).map ((acc ++ [UInt8.ofNat (16 * nib c0 + nib c1)]) ++ ·)) := by
            show U = _
            rw [HS.out, HT.out, unhexL, if_pos hk, Option.map_map]
            congr 1
            funext z
            simp
          have HZ2 : Hid ((S.extract 2 S.size).size + 2 * (acc ++ [UInt8.ofNat (16 * nib c0 + nib c1)]).length = s.size) := by
            show _ = _
            have := HZ.out
            rw [size_cut S h2]; simp; omega
          clear C hk HC HV
          generalize UInt8.ofNat (16 * nib c0 + nib c1) = x at *
          go_wp2_with fail
          refine (HC2.out _).mono ?_
          rintro e w2 ⟨rfl, hb2⟩
          have hb3 : Below w.heap.size w w2 := hb.trans (hb2.mono hsz)
          have ho3 := ho.kept (row := none) ⟨hb2.os, hb2.tape, hb2.output, hb2.size, fun k hk _ => hb2.block k hk⟩ (by cases (Value.slice av acc.length cv).ownBlock <;> simp)
          have hsz3 := hb3.size
          clear ho hb hb2
          go_wp2_with (at_builtin; refine wpList_append_own _ rfl (.tmp 23) (.tmp 25) 30 rfl w.heap.size 5 i0 (.int .u8 0) 1 1 Try.underlying30 hi hz0 hz1 hz2 rfl (by decide) _ _ _ rfl (ho3.alloc _) ⟨w2.heap.size, 0, none⟩ 1 1 [.int .u8 (x.toNat : Int)] rfl rfl (cell_one_new _ _ _) (by intro u hu; simp at hu; subst hu; rfl) (by unfold maxLen; omega) (by omega) (by simp; omega) ?_)
          intro v4 w4 ho4 hg4 _
          have hb4 : Below w.heap.size w w4 := (hb3.alloc hsz3 _).grown hg4 (by simp; omega) (fun k e => (ho3.lt k e).1)
          have R : w4.ownsRow w.heap.size 5 1 v4 (acc ++ [x]).length ((acc ++ [x]).map B) := by
            rw [List.length_append, List.map_append]; exact ho4
          clear ho4 hg4 ho3 hb3
          go_wp2
          go_roundw
          case rel => exact ⟨_, _, rfl, HR.out, HZ2.out, R, hb4⟩
          case measure => simp [strLen]; omega
end Go.Proofs.Ytncgdbjjlhohiab
