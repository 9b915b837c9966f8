import Derived.Test.YtlbgppijeoonjaaGreatDoorPuX
import Derived.Test.YtlbgppijeoonjaaGreatDoorShelfB
import Derived.Test.YtlbgppijeoonjaaGreatDoorTkX
namespace Go.Proofs.YtlbgppijeoonjaaGreatDoor
open Go.RowKit
set_option linter.unusedVariables false

theorem numB_nil (b : Nat) : numB b [] = none := by unfold numB; rw [if_neg (fun h => h.1 rfl)]
set_option maxHeartbeats 2000000 in
set_option maxRecDepth 100000 in
theorem pu_empty (b : Nat) (t : ByteArray) (h0 : t.size = 0) (w : World) :
    Calls Tryz.prog 134 #[.string t, .int .i64 (b : Int), .int .i64 32] w fun e w' => PuPost b t.data.toList e ∧ Below w.heap.size w w' := by
  have hl : t.data.toList = [] := List.length_eq_zero_iff.1 (by rw [len_all]; exact h0)
  have hemp : t.toList.isEmpty = true := by rw [ByteArray.toList_eq, hl]; rfl
  rw [hl]
  clear hl
  go_enter Tryz.func134, Tryz.ntmps134
  go_wp2
  go_ret2
  exact ⟨Or.inr ⟨numB_nil b, _, _, Or.inr rfl, rfl⟩, Below.refl _ _⟩
theorem pu_all (b : Nat) (hb : b = 10 ∨ b = 16) (t : ByteArray) (hmax : t.size < 4294967281) (w : World) :
    Calls Tryz.prog 134 #[.string t, .int .i64 (b : Int), .int .i64 32] w fun e w' => PuPost b t.data.toList e ∧ Below w.heap.size w w' := by
  by_cases h0 : t.size = 0
  · exact pu_empty b t h0 w
  · rcases hb with rfl | rfl
    · exact pu_in10 t h0 hmax w
    · exact pu_in16 t h0 hmax w
/-- strconv.ParseUint: the number, or an error that is not nil. -/
def PqPost (b : Nat) (l : List UInt8) (e : Ending) : Prop :=
  (∃ v, numB b l = some v ∧ e = .returned (.tuple #[.int .u64 (v : Int), .nilIface])) ∨
  (numB b l = none ∧ ∃ (x : Int) (q : Value), e = .returned (.tuple #[.int .u64 x, .iface 214 q]))
set_option maxHeartbeats 2000000 in
set_option maxRecDepth 100000 in
theorem parse_any (B : Nat) (p : Nat → Addr) (b : Nat) (hb : b = 10 ∨ b = 16) (t : ByteArray) (hmax : t.size < 4294967281) (w : World) (hE : Env B p w) :
    Calls Tryz.prog 126 #[.string t, .int .i64 (b : Int), .int .i64 32] w fun e w' => PqPost b t.data.toList e ∧ Below w.heap.size w w' := by
  have hc := pu_all b hb t hmax w
  go_enter Tryz.func126, Tryz.ntmps126
  go_wp2_with fail
  refine hc.mono ?_
  rintro e w1 ⟨hP, hb1⟩
  have hE1 : Env B p w1 := hE.below (hb1.mono hE.size)
  rcases hP with ⟨v, hv, rfl⟩ | ⟨hv, x, c, hc1, rfl⟩
  · go_wp2_with fail
    go_ret2
    exact ⟨Or.inl ⟨v, hv, rfl⟩, hb1⟩
  · obtain ⟨t1, q1, hs1⟩ := hE1.synt
    obtain ⟨t2, q2, hs2⟩ := hE1.rang
    rcases hc1 with rfl | rfl
    · go_wp2_with fail
      refine (Tryz.strconv_toError_range ⟨#[80, 97, 114, 115, 101, 85, 105, 110, 116]⟩ t b 32 (.iface t2 q2) w1 (by omega) hs2 (Or.inr ⟨_, _, rfl⟩)).mono ?_
      rintro e w2 ⟨N, rfl, _, _, hb2⟩
      go_wp2_with fail
      go_ret2
      exact ⟨Or.inr ⟨hv, _, _, rfl⟩, hb1.trans (hb2.mono hb1.size)⟩
    · go_wp2_with fail
      refine (Tryz.strconv_toError_syntax ⟨#[80, 97, 114, 115, 101, 85, 105, 110, 116]⟩ t b 32 (.iface t1 q1) w1 (by omega) hs1 (Or.inr ⟨_, _, rfl⟩)).mono ?_
      rintro e w2 ⟨N, rfl, _, _, hb2⟩
      go_wp2_with fail
      go_ret2
      exact ⟨Or.inr ⟨hv, _, _, rfl⟩, hb1.trans (hb2.mono hb1.size)⟩
end Go.Proofs.YtlbgppijeoonjaaGreatDoor
