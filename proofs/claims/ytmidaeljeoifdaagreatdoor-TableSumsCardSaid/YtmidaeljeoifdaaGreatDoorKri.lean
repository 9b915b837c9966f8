import Derived.Test.YtmidaeljeoifdaaGreatDoorKrh
import Derived.Deep.WholeRow
namespace Go.Proofs.YtmidaeljeoifdaaGreatDoor
set_option maxHeartbeats 16000000
open Go.RowKit
set_option linter.unusedVariables false
def clashL (a x : Is) : Bool := a.prio == x.prio || (a.cat != x.cat && (decide (x.cat < a.cat) == decide (x.prio < a.prio)))
theorem below_set {B : Nat} {w W : World} (h : Below B w W) {b k : Nat} {v : Value} (hb : B ≤ b) (hs : B ≤ W.heap.size) : Below B w (W.setCell ⟨b, k, none⟩ v) := h.trans (below_of_grown (grown_set W b k v) hb hs)
theorem all_take {α : Type} (p : α → Bool) (l : List α) (j : Nat) (x : α) (hx : l[j]? = some x) : (l.take (j + 1)).all p = ((l.take j).all p && p x) := by
 rw [List.take_add_one, hx, Option.toList_some, List.all_append]
 simp
theorem all_short {α : Type} (p : α → Bool) (l : List α) (i j : Nat) (hij : j ≤ i) (h : (l.take j).all p = false) : (l.take i).all p = false := by
 rw [List.all_eq_false] at h ⊢
 obtain ⟨x, hx, hp⟩ := h
 refine ⟨x, ?_, hp⟩
 obtain ⟨k, hk⟩ := List.mem_iff_getElem?.1 hx
 rw [List.getElem?_take] at hk
 split at hk
 ·exact List.mem_iff_getElem?.2 ⟨k, by rw [List.getElem?_take, if_pos (by omega)]; exact hk⟩
 ·cases hk
theorem isrsAreInOrder_any (w : World) (c : Cf) (v : Vs) (h : CfAt w c v) (i : Nat) (x : Is) (hi : c.isrs[i]? = some x) :
  Calls Tryz.prog 250 #[.agg (cfC c v), I i] w fun e w' => Ans w ((c.isrs.take i).all (fun a => !clashL a x)) e w' := by
 have hn : v.i.n = c.isrs.length := h.i.n
 have hlt : (i : Int) < v.i.n := by have := (List.getElem?_eq_some_iff.1 hi).1; omega
 obtain ⟨g, off, s3, s4, e, hg, a0, a1, a2, a3, a4, r3, r4⟩ := is_at h hi
 have hne : g ≠ w.heap.size := by omega
 have hb := below_alloc w
 have hb2 := fun o o' => (hb o).trans ((below_alloc (w.alloc o) o').mono (hb o).size)
 have hic : i ≤ v.i.c := by have := h.i.c; omega
 have hic0 : ¬ v.i.c = 0 := by have := h.i.c; omega
 have HI : Hid (i < c.isrs.length) := (List.getElem?_eq_some_iff.1 hi).1
 have hil : (i : Int) ≤ 9223372036854775807 := by have := h.i.m; unfold maxLen at this; omega
 have f16 : ∀ h : 16 < (cfC c v).size, (cfC c v)[16] = .slice v.i.a v.i.n v.i.c := fun _ => rfl
 have hs18 : (cfC c v).size = 18 := rfl
 generalize cfC c v = C at *
 replace f16 := f16 (by omega)
 rw [e] at f16
 clear hi hn
 go_enter Tryz.func250, Tryz.ntmps250
 go_wp2
 have kx1 : ((w.alloc (.cells C 47)).alloc (.cells #[S x.name, I x.cat, I x.prio, .slice s3.a s3.n s3.c, .slice s4.a s4.n s4.c] 88)).cell? ⟨w.heap.size + 1, 1, none⟩ = some (I x.cat) := by
  simp
 have kx2 : ((w.alloc (.cells C 47)).alloc (.cells #[S x.name, I x.cat, I x.prio, .slice s3.a s3.n s3.c, .slice s4.a s4.n s4.c] 88)).cell? ⟨w.heap.size + 1, 2, none⟩ = some (I x.prio) := by
  simp
 have hbw := hb2 (.cells C 47) (.cells #[S x.name, I x.cat, I x.prio, .slice s3.a s3.n s3.c, .slice s4.a s4.n s4.c] 88)
 have hs2 : ((w.alloc (.cells C 47)).alloc (.cells #[S x.name, I x.cat, I x.prio, .slice s3.a s3.n s3.c, .slice s4.a s4.n s4.c] 88)).heap.size = w.heap.size + 2 := by simp
 have h2 := h.below hbw
 clear a0 a1 a2 a3 a4 r3 r4 h hb hb2 f16 hs18
 generalize ((w.alloc (.cells C 47)).alloc (.cells #[S x.name, I x.cat, I x.prio, .slice s3.a s3.n s3.c, .slice s4.a s4.n s4.c] 88)) = W2 at *
 go_loopw [7, 18] (fun _ iv wr => ∃ j : Nat, j ≤ i ∧ iv = .int .i64 j ∧ Hid (Below W2.heap.size W2 wr) ∧ Hid ((c.isrs.take j).all (fun a => !clashL a x) = true)) (fun _ iv _ => i - (intOf iv).toNat)
 case atStart => exact ⟨0, by omega, rfl, Below.refl _ _, by show _ = _; simp⟩
 case round =>
  obtain ⟨j, hj, rfl, HW, HA⟩ := hrel
  have hBr := HW.out
  have hszr := hBr.size
  by_cases hjl : j < i
  ·have hjl' : (j : Int) < i := by omega
   have hjn : j < c.isrs.length := by have := HI.out; omega
   obtain ⟨y, hy⟩ : ∃ y, c.isrs[j]? = some y := ⟨_, List.getElem?_eq_getElem hjn⟩
   obtain ⟨g', off', t3, t4, e', hg', b0, b1, b2, b3, b4, _, _⟩ := is_at (h2.below hBr) hy
   rw [e] at e'
   obtain ⟨rfl, rfl⟩ : g = g' ∧ off = off' := by cases e'; exact ⟨rfl, rfl⟩
   have y1 : wr.cell? ⟨w.heap.size + 1, 1, none⟩ = some (I x.cat) := by rw [cell_below hBr _ _ (by omega)]; exact kx1
   have y2 : wr.cell? ⟨w.heap.size + 1, 2, none⟩ = some (I x.prio) := by rw [cell_below hBr _ _ (by omega)]; exact kx2
   have hlw : w.heap.size + 1 < wr.heap.size := by omega
   have hnw : w.heap.size + 1 ≠ wr.heap.size := by omega
   have hng : g ≠ wr.heap.size := by omega
   have HT := all_take (fun a => !clashL a x) c.isrs j y hy
   have HT2 : Hid ((c.isrs.take (j + 1)).all (fun a => !clashL a x) = !clashL y x) := by show _ = _; rw [HT, HA.out, Bool.true_and]
   have HC : Hid (clashL y x = (y.prio == x.prio || (y.cat != x.cat && (decide (x.cat < y.cat) == decide (x.prio < y.prio))))) := rfl
   have HF : Hid (clashL y x = true → (c.isrs.take i).all (fun a => !clashL a x) = false) := fun hc => all_short _ _ i (j + 1) (by omega) (by rw [HT2.out, hc]; rfl)
   have hst : (storeCells ⟨wr.heap.size, 0, none⟩ [S y.name, I y.cat, I y.prio, .slice t3.a t3.n t3.c, .slice t4.a t4.n t4.c] 0).run Tryz.prog (wr.alloc (.cells #[.string ⟨#[]⟩, .int .i64 0, .int .i64 0, .slice none 0 0, .slice none 0 0] 88)) = .ok () (wr.alloc (.cells #[S y.name, I y.cat, I y.prio, .slice t3.a t3.n t3.c, .slice t4.a t4.n t4.c] 88)) :=
    run_storeCells_new (P := Tryz.prog) wr 88 #[.string ⟨#[]⟩, .int .i64 0, .int .i64 0, .slice none 0 0, .slice none 0 0] #[S y.name, I y.cat, I y.prio, .slice t3.a t3.n t3.c, .slice t4.a t4.n t4.c] (by kernel_rfl) rfl (by simp [Value.oneCell'])
   clear hy hjn e' HT HA
   generalize clashL y x = K at *
   cases hp : y.prio == x.prio with
   | true =>
    have HK : Hid ((c.isrs.take i).all (fun a => !clashL a x) = false) := HF.out (by rw [HC.out, hp]; rfl)
    clear HF HC HT2
    go_wp2
    go_ret
    exact ⟨ret_bool HK.out.symm, hbw.trans ((hBr.alloc hszr _).mono hbw.size)⟩
   | false =>
    cases hc : y.cat != x.cat with
    | false =>
     have HK : Hid ((c.isrs.take (j + 1)).all (fun a => !clashL a x) = true) := by show _ = _; rw [HT2.out, HC.out, hp, hc]; rfl
     clear HF HC HT2
     go_wp2
     go_roundw
     case rel => exact ⟨j + 1, by omega, by go_num, hBr.alloc hszr _, HK⟩
     case measure => simp [intOf]; omega
    | true =>
     cases hd : decide (x.cat < y.cat) == decide (x.prio < y.prio) with
     | true =>
      have HK : Hid ((c.isrs.take i).all (fun a => !clashL a x) = false) := HF.out (by rw [HC.out, hp, hc, hd]; rfl)
      clear HF HC HT2
      go_wp2
      go_ret
      exact ⟨ret_bool HK.out.symm, hbw.trans ((hBr.alloc hszr _).mono hbw.size)⟩
     | false =>
      have HK : Hid ((c.isrs.take (j + 1)).all (fun a => !clashL a x) = true) := by show _ = _; rw [HT2.out, HC.out, hp, hc, hd]; rfl
      clear HF HC HT2
      go_wp2
      go_roundw
      case rel => exact ⟨j + 1, by omega, by go_num, hBr.alloc hszr _, HK⟩
      case measure => simp [intOf]; omega
  ·obtain rfl : j = i := by omega
   have hjl' : ¬ (j : Int) < j := by omega
   go_wp2
   go_ret
   exact ⟨ret_bool HA.out.symm, hbw.trans (hBr.mono hbw.size)⟩
end Go.Proofs.YtmidaeljeoifdaaGreatDoor
