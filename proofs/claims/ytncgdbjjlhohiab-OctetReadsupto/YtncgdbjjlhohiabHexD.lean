import Derived.Test.YtncgdbjjlhohiabHexC
import Derived.Deep.RegionHeldLaw
namespace Go.Proofs.Ytncgdbjjlhohiab
open Go.RowKit
set_option linter.unusedVariables false

theorem keep_cell {wr w' : World} {o : Obj} {row : Option Nat} {base : Nat} {a : Addr} {v : Value} (h : wr.cell? a = some v) (hg : (wr.drew.alloc o).grownBy w' row) (hr : ∀ k, row = some k → base ≤ k) (hb : a.block < base) : w'.cell? a = some v := by
  have h1 : (wr.drew.alloc o).cell? a = some v := by
    rw [World.cell?_of_block (w := wr.drew) (Below.heap_alloc wr.drew o a.block (World.block_lt_of_cell? wr a h))]
    exact h
  exact hg.cell h1 (fun e => by have := hr a.block e.symm; omega)
def dg (z : Int) : UInt8 := digs.getD z.toNat 0
theorem digit_int (z : Int) (w : World) (h0 : 0 ≤ z) (h1 : z < 16) :
    Calls Try.prog 31 #[.int .u8 z] w fun e w' => e = .returned (.int .u8 ((dg z).toNat : Int)) ∧ w = w' := by
  obtain ⟨x, rfl⟩ := Int.eq_ofNat_of_zero_le h0
  exact digit_any x w (by omega)

set_option maxHeartbeats 400000 in
theorem refhex_any (a : Option Addr) (n c : Nat) (l : List UInt8) (w : World) (ha : Rd w a n c l) (hn : n ≤ 4194304) :
    Calls Try.prog 16 #[.slice a n c] w fun e w' => e = .returned (.string ⟨(hexL l).toArray⟩) ∧ Below w.heap.size w w' := by
  obtain ⟨i0, hi, hz0, hz1, hz2⟩ := info_parts Try.info5
  have hl1 := ha.hlen
  go_enter Try.func16, Try.ntmps16
  go_wp2
  go_loopw [3, 4] (fun v i wr => ∃ j : Nat, j ≤ n ∧ i = .int .i64 j ∧ wr.ownsRow w.heap.size 5 1 v (2 * j) ((hexL (l.take j)).map B) ∧ Below w.heap.size w wr) (fun _ i _ => n - (intOf i).toNat)
  case atStart => exact ⟨0, by omega, rfl, World.ownsRow_nil _ _ _ _, Below.refl _ _⟩
  case round =>
    obtain ⟨j, hj, rfl, ho, hb⟩ := hrel
    obtain ⟨av, cv, rfl⟩ := owns_shape ho
    by_cases hlt : j < n
    · obtain ⟨b, off, rfl, hbw, hc⟩ := ha.hcell (by omega)
      obtain ⟨x, hx⟩ : ∃ x, l[j]? = some x := ⟨l[j], List.getElem?_eq_getElem (by omega)⟩
      have hcx : wr.cell? ⟨b, off + j, none⟩ = some (.int .u8 (x.toNat : Int)) := (hb.cell (p := ⟨b, off + j, none⟩) hbw).trans (hc j x hx)
      have hx8 := x.toNat_lt
      have HN : Hid ((hexL (l.take (j + 1))).map B = (hexL (l.take j)).map B ++ [.int .u8 ((dg ((x.toNat : Int) / 16)).toNat : Int), .int .u8 ((dg ((x.toNat : Int) % 16)).toNat : Int)]) := by
        show _ = _
        rw [take_succ' _ _ _ hx, hexL_snoc, List.map_append]
        unfold dg
        rw [show ((x.toNat : Int) / 16).toNat = x.toNat / 16 by omega, show ((x.toNat : Int) % 16).toNat = x.toNat % 16 by omega]
        rfl
      have hsz := hb.size
      have hjn : (j : Int) < n := by omega
      have hq : IntKind.u8.wrap ((x.toNat : Int) / 16) = (x.toNat : Int) / 16 := by rw [IntKind.wrap_u8]; omega
      have ht : (x.toNat : Int).tmod 16 = (x.toNat : Int) % 16 := Int.tmod_eq_emod_of_nonneg (by omega)
      have hr : IntKind.u8.wrap ((x.toNat : Int) % 16) = (x.toNat : Int) % 16 := by rw [IntKind.wrap_u8]; omega
      clear hc hx
      go_wp2
      go_region_held_law (fun w' => w'.cell? ⟨b, off + j, none⟩ = some (.int .u8 (x.toNat : Int))) (go_keep) (first | (refine step_append_own rfl (.tmp 11) (.tmp 24) 30 rfl w.heap.size 5 i0 (.int .u8 0) 1 1 Try.underlying30 hi hz0 hz1 hz2 rfl (by decide) (.slice av (2 * j) cv) (2 * j) _ rfl (World.ownsRow.alloc (w := wr.drew) ho _) ⟨wr.heap.size, 0, none⟩ 2 2 [.int .u8 ((dg ((x.toNat : Int) / 16)).toNat : Int), .int .u8 ((dg ((x.toNat : Int) % 16)).toNat : Int)] rfl rfl (two_new wr.drew _ _) (by intro u hu; simp at hu; rcases hu with rfl | rfl <;> rfl) (by unfold maxLen; omega) (by omega) (by simp; omega) ?_; intro v' w' ho' hg'; have hcx' := keep_cell hcx hg' (fun k e => (ho.lt k e).1) hbw) | (go_at_call 31; refine (digit_int _ _ (by omega) (by omega)).mono ?_; rintro e w' ⟨rfl, rfl⟩))
      all_goals
        have hgp := grown_pre hg'
        have hb2 : Below w.heap.size w w' := hb.grown hgp hsz (fun k e => (ho.lt k e).1)
        have R : w'.ownsRow w.heap.size 5 1 v' (2 * (j + 1)) ((hexL (l.take (j + 1))).map B) := by
          rw [HN.out]; exact ho'
        clear ho' hg' hgp ho hb hcx hcx'
        go_wp2
        go_roundw
        case rel => exact ⟨j + 1, by omega, by go_num, R, hb2⟩
        case measure => simp [intOf]; omega
    · have hjn : j = n := by omega
      subst hjn
      rw [List.take_of_length_le (by omega)] at ho
      have hcv := conv_own ho
      go_wp2
      go_ret
      exact ⟨rfl, hb⟩
end Go.Proofs.Ytncgdbjjlhohiab
