import Derived.Test.YtmidaeljeoifdaaGreatDoorXKrh
import Derived.Deep.WholeRow
namespace Go.Proofs.YtmidaeljeoifdaaGreatDoor
open Go.RowKit
set_option linter.unusedVariables false

def clashL (a x : Is) : Bool := a.prio == x.prio || (a.cat != x.cat && (decide (x.cat < a.cat) == decide (x.prio < a.prio)))
theorem below_set {B : Nat} {w W : World} (h : Below B w W) {b k : Nat} {v : Value} (hb : B ≤ b) (hs : B ≤ W.heap.size) : Below B w (W.setCell ⟨b, k, none⟩ v) := h.trans (below_of_grown (grown_set W b k v) hb hs)
theorem all_take {α : Type} (p : α → Bool) (l : List α) (j : Nat) (x : α) (hx : l[j]? = some x) : (l.take (j + 1)).all p = ((l.take j).all p && p x) := by
  rw [List.take_add_one, hx, Option.toList_some, List.all_append]
  simp
theorem all_short {α : Type} (p : α → Bool) (l : List α) (i j : Nat) (hij : j ≤ i) (h : (l.take j).all p = false) : (l.take i).all p = false := by
  rw [List.all_eq_false] at h ⊢
  obtain ⟨x, hx, hp⟩ := h
  refine ⟨x, ?_, hp⟩
  obtain ⟨k, hk⟩ := List.mem_iff_getElem?.1 hx
  rw [List.getElem?_take] at hk
  split at hk
  · exact List.mem_iff_getElem?.2 ⟨k, by rw [List.getElem?_take, if_pos (by omega)]; exact hk⟩
  · cases hk
set_option maxHeartbeats 4000000 in
theorem isrsAreInOrder_any (w : World) (c : Cf) (v : Vs) (h : CfAt w c v) (i : Nat) (x : Is) (hi : c.isrs[i]? = some x) :
    Calls Tryz.prog 250 #[.agg (cfC c v), I i] w fun e w' => Ans w ((c.isrs.take i).all (fun a => !clashL a x)) e w' := by
  have hn : v.i.n = c.isrs.length := h.i.n
  have hlt : (i : Int) < v.i.n := by have := (List.getElem?_eq_some_iff.1 hi).1; omega
  obtain ⟨g, off, s3, s4, e, hg, a0, a1, a2, a3, a4, r3, r4⟩ := is_at h hi
  have hne : g ≠ w.heap.size := by omega
  have hb := below_alloc w
  have hb2 := fun o o' => (hb o).trans ((below_alloc (w.alloc o) o').mono (hb o).size)
  have hic : i ≤ v.i.c := by have := h.i.c; omega
  have hic0 : ¬ v.i.c = 0 := by have := h.i.c; omega
  have HI : Hid (i < c.isrs.length) := (List.getElem?_eq_some_iff.1 hi).1
  have hil : (i : Int) ≤ 9223372036854775807 := by have := h.i.m; unfold maxLen at this; omega
  have f16 : ∀ h : 16 < (cfC c v).size, (cfC c v)[16] = .slice v.i.a v.i.n v.i.c := fun _ => rfl
  have hs18 : (cfC c v).size = 18 := rfl
  generalize cfC c v = C at *
  replace f16 := f16 (by omega)
  rw [e] at f16
  clear hi hn
  go_enter Tryz.func250, Tryz.ntmps250
  go_wp2
  have kx1 : ((w.alloc (.cells C 47)).alloc (.cells #[S x.name, I x.cat, I x.prio, .slice s3.a s3.n s3.c, .slice s4.a s4.n s4.c] 88)).cell? ⟨w.heap.size + 1, 1, none⟩ = some (I x.cat) := by
    simp
  have kx2 : ((w.alloc (.cells C 47)).alloc (.cells #[S x.name, I x.cat, I x.prio, .slice s3.a s3.n s3.c, .slice s4.a s4.n s4.c] 88)).cell? ⟨w.heap.size + 1, 2, none⟩ = some (I x.prio) := by
    simp
  have hbw := hb2 (.cells C 47) (.cells #[S x.name, I x.cat, I x.prio, .slice s3.a s3.n s3.c, .slice s4.a s4.n s4.c] 88)
  have hs2 : ((w.alloc (.cells C 47)).alloc (.cells #[S x.name, I x.cat, I x.prio, .slice s3.a s3.n s3.c, .slice s4.a s4.n s4.c] 88)).heap.size = w.heap.size + 2 := by simp
  have h2 := h.below hbw
  clear a0 a1 a2 a3 a4 r3 r4 h hb hb2 f16 hs18
  generalize ((w.alloc (.cells C 47)).alloc (.cells #[S x.name, I x.cat, I x.prio, .slice s3.a s3.n s3.c, .slice s4.a s4.n s4.c] 88)) = W2 at *
  go_loopw [7, 18] (fun _ iv wr => ∃ j : Nat, j ≤ i ∧ iv = .int .i64 j ∧ Hid (Below W2.heap.size W2 wr) ∧ Hid ((c.isrs.take j).all (fun a => !clashL a x) = true)) (fun _ iv _ => i - (intOf iv).toNat)
  case atStart => exact ⟨0, by omega, rfl, Below.refl _ _, by show _ = _; simp⟩
  case round =>
    obtain ⟨j, hj, rfl, HW, HA⟩ := hrel
    have hBr := HW.out
    have hszr := hBr.size
    by_cases hjl : j < i
    · have hjl' : (j : Int) < i := by omega
      have hjn : j < c.isrs.length := by have := HI.out; omega
      obtain ⟨y, hy⟩ : ∃ y, c.isrs[j]? = some y := ⟨_, List.getElem?_eq_getElem hjn⟩
      obtain ⟨g', off', t3, t4, e', hg', b0, b1, b2, b3, b4, _, _⟩ := is_at (h2.below hBr) hy
      rw [e] at e'
      obtain ⟨rfl, rfl⟩ : g = g' ∧ off = off' := by cases e'; exact ⟨rfl, rfl⟩
      have y1 : wr.cell? ⟨w.heap.size + 1, 1, none⟩ = some (I x.cat) := by rw [cell_below hBr _ _ (by omega)]; exact kx1
      have y2 : wr.cell? ⟨w.heap.size + 1, 2, none⟩ = some (I x.prio) := by rw [cell_below hBr _ _ (by omega)]; exact kx2
      have hlw : w.heap.size + 1 < wr.heap.size := by omega
      have hnw : w.heap.size + 1 ≠ wr.heap.size := by omega
      have hng : g ≠ wr.heap.size := by omega
      have HT := all_take (fun a => !clashL a x) c.isrs j y hy
      have HT2 : Hid ((c.isrs.take (j + 1)).all (fun a => !clashL a x) = !clashL y x) := by show _ = _; rw [HT, HA.out, Bool.true_and]
      have HC : Hid (clashL y x = (y.prio == x.prio || (y.cat != x.cat && (decide (x.cat < y.cat) == decide (x.prio < y.prio))))) := rfl
      have HF : Hid (clashL y x = true → (c.isrs.take i).all (fun a => !clashL a x) = false) := fun hc => all_short _ _ i (j + 1) (by omega) (by rw [HT2.out, hc]; rfl)
      have hst : (storeCells ⟨wr.heap.size, 0, none⟩ [S y.name, I y.cat, I y.prio, .slice t3.a t3.n t3.c, .slice t4.a t4.n t4.c] 0).run Tryz.prog (wr.alloc (.cells #[.string ⟨#[]⟩, .int .i64 0, .int .i64 0, .slice none 0 0, .slice none 0 0] 88)) = .ok () (wr.alloc (.cells #[S y.name, I y.cat, I y.prio, .slice t3.a t3.n t3.c, .slice t4.a t4.n t4.c] 88)) :=
        run_storeCells_new (P := Tryz.prog) wr 88 #[.string ⟨#[]⟩, .int .i64 0, .int .i64 0, .slice none 0 0, .slice none 0 0] #[S y.name, I y.cat, I y.prio, .slice t3.a t3.n t3.c, .slice t4.a t4.n t4.c] (by kernel_rfl) rfl (by simp [Value.oneCell'])
      clear hy hjn e' HT HA
      generalize clashL y x = K at *
      cases hp : y.prio == x.prio with
      | true =>
        have HK : Hid ((c.isrs.take i).all (fun a => !clashL a x) = false) := HF.out (by rw [HC.out, hp]; rfl)
        clear HF HC HT2
        go_wp2
        go_ret
        exact ⟨ret_bool HK.out.symm, hbw.trans ((hBr.alloc hszr _).mono hbw.size)⟩
      | false =>
        cases hc : y.cat != x.cat with
        | false =>
          have HK : Hid ((c.isrs.take (j + 1)).all (fun a => !clashL a x) = true) := by show _ = _; rw [HT2.out, HC.out, hp, hc]; rfl
          clear HF HC HT2
          go_wp2
          go_roundw
          case rel => exact ⟨j + 1, by omega, by go_num, hBr.alloc hszr _, HK⟩
          case measure => simp [intOf]; omega
        | true =>
          cases hd : decide (x.cat < y.cat) == decide (x.prio < y.prio) with
          | true =>
            have HK : Hid ((c.isrs.take i).all (fun a => !clashL a x) = false) := HF.out (by rw [HC.out, hp, hc, hd]; rfl)
            clear HF HC HT2
            go_wp2
            go_ret
            exact ⟨ret_bool HK.out.symm, hbw.trans ((hBr.alloc hszr _).mono hbw.size)⟩
          | false =>
            have HK : Hid ((c.isrs.take (j + 1)).all (fun a => !clashL a x) = true) := by show _ = _; rw [HT2.out, HC.out, hp, hc, hd]; rfl
            clear HF HC HT2
            go_wp2
            go_roundw
            case rel => exact ⟨j + 1, by omega, by go_num, hBr.alloc hszr _, HK⟩
            case measure => simp [intOf]; omega
    · obtain rfl : j = i := by omega
      have hjl' : ¬ (j : Int) < j := by omega
      go_wp2
      go_ret
      exact ⟨ret_bool HA.out.symm, hbw.trans (hBr.mono hbw.size)⟩
end Go.Proofs.YtmidaeljeoifdaaGreatDoor

namespace Go.Proofs.YtmidaeljeoifdaaGreatDoor
open Go.RowKit
set_option linter.unusedVariables false

def lenOK (n : Int) : Bool := n == 1 || n == 2 || n == 4 || n == 8
set_option maxHeartbeats 400000 in
theorem isLength_any (n : Int) (w : World) : Calls Tryz.prog 289 #[I n] w fun e w' => e = .returned (.bool (lenOK n)) ∧ w' = w := by
  unfold lenOK
  cases h1 : n == 1 with
  | true => go_enter Tryz.func289, Tryz.ntmps289; go_wp2; go_ret; exact ⟨ret_bool (by simp), rfl⟩
  | false =>
    cases h2 : n == 2 with
    | true => go_enter Tryz.func289, Tryz.ntmps289; go_wp2; go_ret; exact ⟨ret_bool (by simp), rfl⟩
    | false =>
      cases h4 : n == 4 with
      | true => go_enter Tryz.func289, Tryz.ntmps289; go_wp2; go_ret; exact ⟨ret_bool (by simp), rfl⟩
      | false => go_enter Tryz.func289, Tryz.ntmps289; go_wp2; go_ret; exact ⟨ret_bool (by simp), rfl⟩
/-- The fields of a message, as its kind has use for them. -/
def msgF (x : Ms) : Bool := if x.kind == 1 then (lenOK x.len && x.frm == 0 && (x.init : Int) == 0 && x.queue == 0) else if x.kind == 2 then (x.len == 0 && x.queue == 0) else if x.kind == 3 then (x.len == 0 && (x.init : Int) == 0 && inR x.queue 1 16) else false
set_option maxHeartbeats 4000000 in
theorem messageFieldsFit_any (w : World) (c : Cf) (v : Vs) (h : CfAt w c v) (i : Nat) (x : Ms) (hi : c.msgs[i]? = some x) :
    Calls Tryz.prog 253 #[.agg (cfC c v), I i] w fun e w' => Ans w (msgF x) e w' := by
  have hn : v.s.n = c.msgs.length := h.s.n
  have hlt : (i : Int) < v.s.n := by have := (List.getElem?_eq_some_iff.1 hi).1; omega
  obtain ⟨g, off, e, hg, a0, a1, a2, a3, a4, a5, a6, a7, a8, a9⟩ := ms_at h hi
  have hne : g ≠ w.heap.size := by omega
  have hb := below_alloc w
  have hb2 := fun o o' => (hb o).trans ((below_alloc (w.alloc o) o').mono (hb o).size)
  have c1 := isLength_any x.len
  have c2 := within_int x.queue 1 16
  obtain ⟨B, hB⟩ : ∃ B, B = msgF x := ⟨_, rfl⟩
  rw [← hB]
  have HB : Hid (B = _) := hB
  clear hB
  have f17 : ∀ h : 17 < (cfC c v).size, (cfC c v)[17] = .slice v.s.a v.s.n v.s.c := fun _ => rfl
  have hs18 : (cfC c v).size = 18 := rfl
  generalize cfC c v = C at *
  replace f17 := f17 (by omega)
  rw [e] at f17
  clear hi hn
  cases hk1 : x.kind == 1 with
  | true =>
    have HE : Hid (B = (lenOK x.len && x.frm == 0 && (x.init : Int) == 0 && x.queue == 0)) := by show _ = _; rw [HB.out, msgF, hk1]; rfl
    clear HB
    generalize lenOK x.len = b1 at *
    cases b1 with
    | false =>
      go_enter Tryz.func253, Tryz.ntmps253
      go_wp2_with (first | (go_at_call 289; refine (c1 _).mono ?_; clear c1; rintro e w' ⟨rfl, rfl⟩) | (go_at_call 193; refine (c2 _).mono ?_; clear c2; rintro e w' ⟨rfl, rfl⟩))
      go_ret
      exact ⟨ret_bool (by first | (rw [HE.out]; rfl) | rw [HE.out]), hb2 _ _⟩
    | true =>
      cases hf : x.frm == 0 with
      | false =>
        go_enter Tryz.func253, Tryz.ntmps253
        go_wp2_with (first | (go_at_call 289; refine (c1 _).mono ?_; clear c1; rintro e w' ⟨rfl, rfl⟩) | (go_at_call 193; refine (c2 _).mono ?_; clear c2; rintro e w' ⟨rfl, rfl⟩))
        go_ret
        exact ⟨ret_bool (by first | (rw [HE.out, hf]; rfl) | rw [HE.out, hf]), hb2 _ _⟩
      | true =>
        cases hi0 : (x.init : Int) == 0 with
        | false =>
          go_enter Tryz.func253, Tryz.ntmps253
          go_wp2_with (first | (go_at_call 289; refine (c1 _).mono ?_; clear c1; rintro e w' ⟨rfl, rfl⟩) | (go_at_call 193; refine (c2 _).mono ?_; clear c2; rintro e w' ⟨rfl, rfl⟩))
          go_ret
          exact ⟨ret_bool (by first | (rw [HE.out, hf, hi0]; rfl) | rw [HE.out, hf, hi0]), hb2 _ _⟩
        | true =>
          cases hq0 : x.queue == 0 with
          | false =>
            go_enter Tryz.func253, Tryz.ntmps253
            go_wp2_with (first | (go_at_call 289; refine (c1 _).mono ?_; clear c1; rintro e w' ⟨rfl, rfl⟩) | (go_at_call 193; refine (c2 _).mono ?_; clear c2; rintro e w' ⟨rfl, rfl⟩))
            go_ret
            exact ⟨ret_bool (by first | (rw [HE.out, hf, hi0, hq0]; rfl) | rw [HE.out, hf, hi0, hq0]), hb2 _ _⟩
          | true =>
            go_enter Tryz.func253, Tryz.ntmps253
            go_wp2_with (first | (go_at_call 289; refine (c1 _).mono ?_; clear c1; rintro e w' ⟨rfl, rfl⟩) | (go_at_call 193; refine (c2 _).mono ?_; clear c2; rintro e w' ⟨rfl, rfl⟩))
            go_ret
            exact ⟨ret_bool (by first | (rw [HE.out, hf, hi0, hq0]; rfl) | rw [HE.out, hf, hi0, hq0]), hb2 _ _⟩
  | false =>
    cases hk2 : x.kind == 2 with
    | true =>
      have HE : Hid (B = (x.len == 0 && x.queue == 0)) := by show _ = _; rw [HB.out, msgF, hk1, hk2]; rfl
      clear HB
      cases hl0 : x.len == 0 with
      | false =>
        go_enter Tryz.func253, Tryz.ntmps253
        go_wp2_with (first | (go_at_call 289; refine (c1 _).mono ?_; clear c1; rintro e w' ⟨rfl, rfl⟩) | (go_at_call 193; refine (c2 _).mono ?_; clear c2; rintro e w' ⟨rfl, rfl⟩))
        go_ret
        exact ⟨ret_bool (by first | (rw [HE.out, hl0]; rfl) | rw [HE.out, hl0]), hb2 _ _⟩
      | true =>
        cases hq0 : x.queue == 0 with
        | false =>
          go_enter Tryz.func253, Tryz.ntmps253
          go_wp2_with (first | (go_at_call 289; refine (c1 _).mono ?_; clear c1; rintro e w' ⟨rfl, rfl⟩) | (go_at_call 193; refine (c2 _).mono ?_; clear c2; rintro e w' ⟨rfl, rfl⟩))
          go_ret
          exact ⟨ret_bool (by first | (rw [HE.out, hl0, hq0]; rfl) | rw [HE.out, hl0, hq0]), hb2 _ _⟩
        | true =>
          go_enter Tryz.func253, Tryz.ntmps253
          go_wp2_with (first | (go_at_call 289; refine (c1 _).mono ?_; clear c1; rintro e w' ⟨rfl, rfl⟩) | (go_at_call 193; refine (c2 _).mono ?_; clear c2; rintro e w' ⟨rfl, rfl⟩))
          go_ret
          exact ⟨ret_bool (by first | (rw [HE.out, hl0, hq0]; rfl) | rw [HE.out, hl0, hq0]), hb2 _ _⟩
    | false =>
      cases hk3 : x.kind == 3 with
      | true =>
        have HE : Hid (B = (x.len == 0 && (x.init : Int) == 0 && inR x.queue 1 16)) := by show _ = _; rw [HB.out, msgF, hk1, hk2, hk3]; rfl
        clear HB
        cases hl0 : x.len == 0 with
        | false =>
          go_enter Tryz.func253, Tryz.ntmps253
          go_wp2_with (first | (go_at_call 289; refine (c1 _).mono ?_; clear c1; rintro e w' ⟨rfl, rfl⟩) | (go_at_call 193; refine (c2 _).mono ?_; clear c2; rintro e w' ⟨rfl, rfl⟩))
          go_ret
          exact ⟨ret_bool (by first | (rw [HE.out, hl0]; rfl) | rw [HE.out, hl0]), hb2 _ _⟩
        | true =>
          cases hi0 : (x.init : Int) == 0 with
          | false =>
            go_enter Tryz.func253, Tryz.ntmps253
            go_wp2_with (first | (go_at_call 289; refine (c1 _).mono ?_; clear c1; rintro e w' ⟨rfl, rfl⟩) | (go_at_call 193; refine (c2 _).mono ?_; clear c2; rintro e w' ⟨rfl, rfl⟩))
            go_ret
            exact ⟨ret_bool (by first | (rw [HE.out, hl0, hi0]; rfl) | rw [HE.out, hl0, hi0]), hb2 _ _⟩
          | true =>
            generalize inR x.queue 1 16 = b2 at *
            go_enter Tryz.func253, Tryz.ntmps253
            go_wp2_with (first | (go_at_call 289; refine (c1 _).mono ?_; clear c1; rintro e w' ⟨rfl, rfl⟩) | (go_at_call 193; refine (c2 _).mono ?_; clear c2; rintro e w' ⟨rfl, rfl⟩))
            go_ret
            exact ⟨ret_bool (by first | (rw [HE.out, hl0, hi0]; rfl) | rw [HE.out, hl0, hi0]), hb2 _ _⟩
      | false =>
        have HE : Hid (B = false) := by show _ = _; rw [HB.out, msgF, hk1, hk2, hk3]; rfl
        clear HB
        go_enter Tryz.func253, Tryz.ntmps253
        go_wp2_with (first | (go_at_call 289; refine (c1 _).mono ?_; clear c1; rintro e w' ⟨rfl, rfl⟩) | (go_at_call 193; refine (c2 _).mono ?_; clear c2; rintro e w' ⟨rfl, rfl⟩))
        go_ret
        exact ⟨ret_bool (by first | (rw [HE.out]; rfl) | rw [HE.out]), hb2 _ _⟩
end Go.Proofs.YtmidaeljeoifdaaGreatDoor

namespace Go.Proofs.YtmidaeljeoifdaaGreatDoor
open Go.RowKit
set_option linter.unusedVariables false

def mkind (c : Cf) (i : Int) : Int := match c.msgs[i.toNat]? with | some x => x.kind | none => 0
def mlen (c : Cf) (i : Int) : Int := match c.msgs[i.toNat]? with | some x => x.len | none => 0
set_option maxHeartbeats 4000000 in
theorem fromIsSent_any (w : World) (c : Cf) (v : Vs) (h : CfAt w c v) (i : Nat) (x : Ms) (hi : c.msgs[i]? = some x) :
    Calls Tryz.prog 254 #[.agg (cfC c v), I i] w fun e w' => Ans w (x.kind == 1 || (isId x.frm v.s.n && mkind c x.frm == 1)) e w' := by
  have hn : v.s.n = c.msgs.length := h.s.n
  have hlt : (i : Int) < v.s.n := by have := (List.getElem?_eq_some_iff.1 hi).1; omega
  obtain ⟨g, off, e, hg, a0, a1, a2, a3, a4, a5, a6, a7, a8, a9⟩ := ms_at h hi
  have hne : g ≠ w.heap.size := by omega
  have hb := below_alloc w
  have hb2 := fun o o' => (hb o).trans ((below_alloc (w.alloc o) o').mono (hb o).size)
  have c1 := isID_any x.frm v.s.n
  obtain ⟨B, hB⟩ : ∃ B, B = (x.kind == 1 || (isId x.frm v.s.n && mkind c x.frm == 1)) := ⟨_, rfl⟩
  rw [← hB]
  have HB : Hid (B = _) := hB
  have HN : Hid (v.s.n = c.msgs.length) := h.s.n
  have hgl : g < w.heap.size + 1 := by omega
  have hne1 : g ≠ w.heap.size + 1 := by omega
  clear hB
  have f17 : ∀ h : 17 < (cfC c v).size, (cfC c v)[17] = .slice v.s.a v.s.n v.s.c := fun _ => rfl
  have hs18 : (cfC c v).size = 18 := rfl
  generalize cfC c v = C at *
  replace f17 := f17 (by omega)
  rw [e] at f17
  clear hi hn
  cases hk1 : x.kind == 1 with
  | true =>
    have HE : Hid (B = true) := by show _ = _; rw [HB.out, hk1]; rfl
    clear HB
    go_enter Tryz.func254, Tryz.ntmps254
    go_wp2_with (first | (go_at_call 272; refine (c1 _).mono ?_; clear c1; rintro e w' ⟨rfl, rfl⟩))
    go_ret
    exact ⟨ret_bool HE.out.symm, hb2 _ _⟩
  | false =>
    cases hid : isId x.frm v.s.n with
    | false =>
      have HE : Hid (B = false) := by show _ = _; rw [HB.out, hk1, hid]; rfl
      rw [hid] at c1
      clear HB hid
      go_enter Tryz.func254, Tryz.ntmps254
      go_wp2_with (first | (go_at_call 272; refine (c1 _).mono ?_; clear c1; rintro e w' ⟨rfl, rfl⟩))
      go_ret
      exact ⟨ret_bool HE.out.symm, hb2 _ _⟩
    | true =>
      have hr : 0 ≤ x.frm ∧ x.frm < v.s.n := by simpa [isId] using hid
      obtain ⟨q, hq⟩ := Int.eq_ofNat_of_zero_le hr.1
      have hq' : (q : Int) < v.s.n := by omega
      have hql : q < c.msgs.length := by rw [← HN.out]; omega
      obtain ⟨y, hy⟩ : ∃ y, c.msgs[q]? = some y := ⟨_, List.getElem?_eq_getElem hql⟩
      obtain ⟨g', off', e', hg', b0, b1, b2, b3, b4, b5, b6, b7, b8, b9⟩ := ms_at h hy
      rw [e] at e'
      obtain ⟨rfl, rfl⟩ : g = g' ∧ off = off' := by cases e'; exact ⟨rfl, rfl⟩
      have HE : Hid (B = (y.kind == 1)) := by show _ = _; rw [HB.out, hk1, hid, hq]; simp [mkind, hy]
      rw [hid] at c1
      rw [hq] at a3 c1
      clear HB hid hr hq hql hy e' b0 b2 b3 b4 b5 b6 b7 b8 b9
      go_enter Tryz.func254, Tryz.ntmps254
      go_wp2_with (first | (go_at_call 272; refine (c1 _).mono ?_; clear c1; rintro e w' ⟨rfl, rfl⟩))
      go_ret
      exact ⟨ret_bool HE.out.symm, hb2 _ _⟩
set_option maxHeartbeats 400000 in
theorem width_any (n : Int) (w : World) : Calls Tryz.prog 303 #[I n] w fun e w' => e = .returned (.bool (inR n 1 8)) ∧ w' = w := by
  unfold inR
  by_cases h1 : 1 ≤ n <;> by_cases h2 : n ≤ 8 <;> (go_enter Tryz.func303, Tryz.ntmps303; go_wp2; go_ret; exact ⟨ret_bool (by simp [h1, h2]), rfl⟩)
def fitsB (x n : Nat) : Bool := (x : Int) / 2 ^ (8 * n) == 0
set_option maxHeartbeats 400000 in
theorem fits_any (x : Nat) (n : Nat) (hn : 1 ≤ n) (h7 : n ≤ 7) (w : World) : Calls Tryz.prog 304 #[.int .u64 (x : Int), I n] w fun e w' => e = .returned (.bool (fitsB x n)) ∧ w' = w := by
  go_enter Tryz.func304, Tryz.ntmps304
  go_wp2
  go_ret
  exact ⟨rfl, rfl⟩
end Go.Proofs.YtmidaeljeoifdaaGreatDoor

namespace Go.Proofs.YtmidaeljeoifdaaGreatDoor
open Go.RowKit
set_option linter.unusedVariables false

theorem Tryz.infoU8 : (Tryz.prog.info? 5).map (fun i => (i.zero, i.size, i.bytes)) = some (some (.int .u8 0), 1, 1) := by kernel_rfl
set_option maxHeartbeats 2000000 in
set_option maxRecDepth 100000 in
theorem number_any (x : Nat) (n : Nat) (hn : 1 ≤ n) (h7 : n ≤ 7) (w : World) : Calls Tryz.prog 301 #[.int .u64 (x : Int), I n] w fun e w' => ∃ s, e = .returned (.tuple #[s, I (if fitsB x n = true then 0 else 2)]) ∧ Below w.heap.size w w' := by
  have c1 := fun w => width_any n w
  have hw : inR n 1 8 = true := by unfold inR; rw [decide_eq_true (by omega), decide_eq_true (by omega)]; rfl
  rw [hw] at c1
  have c2 := fits_any x n hn h7
  have hn1 : (1 : Int) ≤ n := by omega
  have hn7 : (n : Int) ≤ 7 := by omega
  cases hf : fitsB x n with
  | false =>
    rw [hf] at c2
    go_enter Tryz.func301, Tryz.ntmps301
    go_wp2_with (first | (go_at_call 303; refine (c1 _).mono ?_; rintro e w' ⟨rfl, rfl⟩) | (go_at_call 304; refine (c2 _).mono ?_; rintro e w' ⟨rfl, rfl⟩))
    all_goals (go_ret2; exact ⟨⟨_, rfl⟩, Below.refl _ _⟩)
  | true =>
    rw [hf] at c2
    obtain ⟨i0, hi0, hz0, hz1, hz2⟩ := info_parts Tryz.infoU8
    go_enter Tryz.func301, Tryz.ntmps301
    go_wp2_with (first | (go_at_call 303; refine (c1 _).mono ?_; rintro e w' ⟨rfl, rfl⟩) | (go_at_call 304; refine (c2 _).mono ?_; rintro e w' ⟨rfl, rfl⟩) | (refine wpList_make_full _ rfl _ _ 324 rfl w'.heap.size 5 i0 (.int .u8 0) 1 Tryz.underlying324 hi0 hz0 hz1 .i64 .i64 _ _ n rfl rfl rfl rfl (by rw [hz2]; omega) (by unfold maxLen; omega) (Nat.le_refl _) ?_; intro w1 ho1 hg1))
    have hb1 := below_none hg1
    clear hg1 c1 c2
    generalize (madeCells (Value.int IntKind.u8 0).cells (n * 1)).toList = xs0 at ho1
    generalize hbk : w'.heap.size = b at ho1 ⊢
    go_loopw [0, 7, 21] (fun v0 _ iv wr => ∃ (j : Nat) (y : Int) (xs : List Value), j ≤ n ∧ iv = .int .i64 j ∧ v0 = .int .u64 y ∧ Hid (wr.ownsRow b 5 1 (.slice (some ⟨b, 0, none⟩) n n) n xs ∧ Below b w' wr)) (fun _ _ iv _ => n - (intOf iv).toNat)
    case atStart => exact ⟨0, x, xs0, by omega, rfl, rfl, ho1, by rw [← hbk]; exact hb1⟩
    case round =>
      obtain ⟨j, y, xs, hj, rfl, rfl, HJ⟩ := hrel
      obtain ⟨hO, hB⟩ := HJ.out
      by_cases hlt : j < n
      · have hlt' : (j : Int) < n := by omega
        have hxl : xs.length = n * 1 := hO.1
        obtain ⟨u, hu⟩ : ∃ u, xs[j]? = some u := ⟨_, List.getElem?_eq_getElem (by omega)⟩
        have hcx : wr.cell? ⟨b, j, none⟩ = some u := by rw [hO.cellAt j (by omega)]; exact hu
        have hfz := hO.frozenAt
        have hsr := hB.size
        have hst : ∀ z, Hid (∃ xs' : List Value, (wr.setCell ⟨b, j, none⟩ z).ownsRow b 5 1 (.slice (some ⟨b, 0, none⟩) n n) n xs' ∧ Below b w' (wr.setCell ⟨b, j, none⟩ z)) := fun z => by
          obtain ⟨hO3, hg3⟩ := hO.stored j z
          exact ⟨_, hO3, hB.trans (below_of_grown hg3 (Nat.le_refl _) (by omega))⟩
        clear hO hB HJ hu hxl
        go_wp2
        go_roundw
        case rel =>
          obtain ⟨xs', h1, h2⟩ := (hst _).out
          exact ⟨j + 1, _, xs', by omega, by go_num, rfl, h1, h2⟩
        case measure => simp [intOf]; omega
      · obtain rfl : j = n := by omega
        have hlt' : ¬ (j : Int) < j := by omega
        clear hO HJ
        go_wp2
        all_goals (go_ret2; exact ⟨⟨_, rfl⟩, by first | exact hB | exact hB.drew⟩)
end Go.Proofs.YtmidaeljeoifdaaGreatDoor

namespace Go.Proofs.YtmidaeljeoifdaaGreatDoor
open Go.RowKit Go.Sort
set_option linter.unusedVariables false

/-- Does a number fit into the length of the message that is sent? -/
def fitI (x : Nat) (n : Int) : Bool := if n == 0 then (x : Int) == 0 else if inR n 1 7 then fitsB x n.toNat else true
set_option maxHeartbeats 1000000 in
set_option maxRecDepth 100000 in
theorem fitsInto_any (x : Nat) (n : Int) (w : World) : Calls Tryz.prog 290 #[.int .u64 (x : Int), I n] w fun e w' => e = .returned (.bool (fitI x n)) ∧ Below w.heap.size w w' := by
  obtain ⟨B, hB⟩ : ∃ B, B = fitI x n := ⟨_, rfl⟩
  rw [← hB]
  unfold fitI at hB
  have HB : Hid (B = _) := hB
  clear hB
  have c1 := within_int n 1 7
  cases hn : n == 0 with
  | true =>
    have HE : Hid (B = ((x : Int) == 0)) := by show _ = _; rw [HB.out, hn]; rfl
    clear HB
    go_enter Tryz.func290, Tryz.ntmps290
    go_wp2
    go_ret
    exact ⟨ret_bool HE.out.symm, Below.refl _ _⟩
  | false =>
    cases h1 : inR n 1 7 with
    | false =>
      have HE : Hid (B = true) := by show _ = _; rw [HB.out, hn, h1]; rfl
      rw [h1] at c1
      clear HB
      go_enter Tryz.func290, Tryz.ntmps290
      go_wp2_with (first | (go_at_call 193; refine (c1 _).mono ?_; clear c1; rintro e w' ⟨rfl, rfl⟩))
      go_ret
      exact ⟨ret_bool HE.out.symm, Below.refl _ _⟩
    | true =>
      have hr : 1 ≤ n ∧ n ≤ 7 := by simpa [inR] using h1
      obtain ⟨q, rfl⟩ := Int.eq_ofNat_of_zero_le (show 0 ≤ n by omega)
      have HE : Hid (B = fitsB x q) := by show _ = _; rw [HB.out, hn, h1]; simp
      have c2 := number_any x q (by omega) (by omega)
      rw [h1] at c1
      clear HB
      cases hf : fitsB x q with
      | true =>
        rw [hf] at c2 HE
        go_enter Tryz.func290, Tryz.ntmps290
        go_wp2_with (first | (go_at_call 193; refine (c1 _).mono ?_; clear c1; rintro e w' ⟨rfl, rfl⟩) | (go_at_call 301; refine (c2 _).mono ?_; clear c2; rintro e w2 ⟨s, rfl, hb2⟩))
        go_ret
        exact ⟨ret_bool HE.out.symm, hb2⟩
      | false =>
        rw [hf] at c2 HE
        go_enter Tryz.func290, Tryz.ntmps290
        go_wp2_with (first | (go_at_call 193; refine (c1 _).mono ?_; clear c1; rintro e w' ⟨rfl, rfl⟩) | (go_at_call 301; refine (c2 _).mono ?_; clear c2; rintro e w2 ⟨s, rfl, hb2⟩))
        go_ret
        exact ⟨ret_bool HE.out.symm, hb2⟩
set_option maxHeartbeats 4000000 in
theorem initFits_any (w : World) (c : Cf) (v : Vs) (h : CfAt w c v) (i : Nat) (x : Ms) (hi : c.msgs[i]? = some x) (hv : x.kind == 1 ∨ isId x.frm v.s.n = true) :
    Calls Tryz.prog 255 #[.agg (cfC c v), I i] w fun e w' => Ans w (x.kind == 1 || (decide ((x.init : Int) ≤ 4294967295) && fitI x.init (mlen c x.frm))) e w' := by
  have hn : v.s.n = c.msgs.length := h.s.n
  have hlt : (i : Int) < v.s.n := by have := (List.getElem?_eq_some_iff.1 hi).1; omega
  obtain ⟨g, off, e, hg, a0, a1, a2, a3, a4, a5, a6, a7, a8, a9⟩ := ms_at h hi
  have hne : g ≠ w.heap.size := by omega
  have hb := below_alloc w
  have hb2 := fun o o' => (hb o).trans ((below_alloc (w.alloc o) o').mono (hb o).size)
  obtain ⟨B, hB⟩ : ∃ B, B = (x.kind == 1 || (decide ((x.init : Int) ≤ 4294967295) && fitI x.init (mlen c x.frm))) := ⟨_, rfl⟩
  rw [← hB]
  have HB : Hid (B = _) := hB
  have HN : Hid (v.s.n = c.msgs.length) := h.s.n
  have hgl : g < w.heap.size + 1 := by omega
  have hne1 : g ≠ w.heap.size + 1 := by omega
  clear hB
  have f17 : ∀ h : 17 < (cfC c v).size, (cfC c v)[17] = .slice v.s.a v.s.n v.s.c := fun _ => rfl
  have hs18 : (cfC c v).size = 18 := rfl
  generalize cfC c v = C at *
  replace f17 := f17 (by omega)
  rw [e] at f17
  clear hi hn
  go_enter Tryz.func255, Tryz.ntmps255
  go_wp2
  have k1 : ((w.alloc (.cells C 47)).alloc (.cells #[S x.name, I x.kind, I x.len, I x.frm, .int .u64 (x.init : Int), I x.queue, I x.ac.kind, I x.ac.task, I x.ac.event, S x.ac.name] 114)).cell? ⟨w.heap.size + 1, 1, none⟩ = some (I x.kind) := by simp
  have k3 : ((w.alloc (.cells C 47)).alloc (.cells #[S x.name, I x.kind, I x.len, I x.frm, .int .u64 (x.init : Int), I x.queue, I x.ac.kind, I x.ac.task, I x.ac.event, S x.ac.name] 114)).cell? ⟨w.heap.size + 1, 3, none⟩ = some (I x.frm) := by simp
  have k4 : ((w.alloc (.cells C 47)).alloc (.cells #[S x.name, I x.kind, I x.len, I x.frm, .int .u64 (x.init : Int), I x.queue, I x.ac.kind, I x.ac.task, I x.ac.event, S x.ac.name] 114)).cell? ⟨w.heap.size + 1, 4, none⟩ = some (.int .u64 (x.init : Int)) := by simp
  have k17 : ((w.alloc (.cells C 47)).alloc (.cells #[S x.name, I x.kind, I x.len, I x.frm, .int .u64 (x.init : Int), I x.queue, I x.ac.kind, I x.ac.task, I x.ac.event, S x.ac.name] 114)).cell? ⟨w.heap.size, 17, none⟩ = some (.slice (some ⟨g, off, none⟩) v.s.n v.s.c) := by
    rw [cell_below (below_alloc _ _) _ _ (by simp), World.cell?_alloc_new, ← f17]
    exact Array.getElem?_eq_getElem _
  have hbw := hb2 (.cells C 47) (.cells #[S x.name, I x.kind, I x.len, I x.frm, .int .u64 (x.init : Int), I x.queue, I x.ac.kind, I x.ac.task, I x.ac.event, S x.ac.name] 114)
  have h2 := h.below hbw
  clear a0 a1 a2 a3 a4 a5 a6 a7 a8 a9 hb hb2 f17 hs18 h
  generalize ((w.alloc (.cells C 47)).alloc (.cells #[S x.name, I x.kind, I x.len, I x.frm, .int .u64 (x.init : Int), I x.queue, I x.ac.kind, I x.ac.task, I x.ac.event, S x.ac.name] 114)) = W2 at *
  replace k1 := cell_regrown k1
  replace k4 := cell_regrown k4
  replace k17 := cell_regrown k17
  cases hk1 : x.kind == 1 with
  | true =>
    have HE : Hid (B = true) := by show _ = _; rw [HB.out, hk1]; rfl
    clear HB hv h2
    have c2 : True := trivial
    refine wp_region_quiet_below (by kernel_rfl) (by kernel_rfl) ?_
    repeat (go_big_quiet_step (first | exact c2 _ _))
    refine wpQuiet_nil ?_
    intro _ hw'
    obtain ⟨⟨dq, osq⟩, hw''⟩ := hw'
    subst hw''
    go_wp2
    go_ret
    exact ⟨ret_bool HE.out.symm, hbw.trans ((below_regrown W2 dq osq).mono hbw.size)⟩
  | false =>
    have hid : isId x.frm v.s.n = true := by rcases hv with hv | hv; · rw [hk1] at hv; cases hv
                                             · exact hv
    have hr : 0 ≤ x.frm ∧ x.frm < v.s.n := by simpa [isId] using hid
    obtain ⟨q, hq⟩ := Int.eq_ofNat_of_zero_le hr.1
    have hq' : (q : Int) < v.s.n := by omega
    have hql : q < c.msgs.length := by rw [← HN.out]; omega
    obtain ⟨y, hy⟩ : ∃ y, c.msgs[q]? = some y := ⟨_, List.getElem?_eq_getElem hql⟩
    obtain ⟨g', off', e', hg', b0, b1, b2, b3, b4, b5, b6, b7, b8, b9⟩ := ms_at h2 hy
    rw [e] at e'
    obtain ⟨rfl, rfl⟩ : g = g' ∧ off = off' := by cases e'; exact ⟨rfl, rfl⟩
    have kl := cell_regrown b2
    rw [hq] at k3
    replace k3 := cell_regrown k3
    have HE0 : Hid (B = (decide ((x.init : Int) ≤ 4294967295) && fitI x.init y.len)) := by show _ = _; rw [HB.out, hk1, hq]; simp [mlen, hy]
    have c2 : ∀ d os, Calls Tryz.prog 290 #[.int .u64 (x.init : Int), I y.len] (grow (redrawn W2 d) os) fun e w'' => e = .returned (.bool (fitI x.init y.len)) ∧ ∃ p : Regrown, w'' = grow (redrawn W2 p.d) p.os := fun d os => Calls.regrown_of (fitsInto_any x.init y.len _)
    clear HB hid hr hq hql hy e' b0 b1 b2 b3 b4 b5 b6 b7 b8 b9 h2 hv
    generalize fitI x.init y.len = b at *
    by_cases hle : (x.init : Int) ≤ 4294967295
    · have HE : Hid (B = b) := by show _ = _; rw [HE0.out, decide_eq_true hle]; rfl
      clear HE0
      refine wp_region_quiet_below (by kernel_rfl) (by kernel_rfl) ?_
      repeat (go_big_quiet_step (first | exact c2 _ _))
      refine wpQuiet_nil ?_
      intro _ hw'
      obtain ⟨⟨dq, osq⟩, hw''⟩ := hw'
      subst hw''
      go_wp2
      go_ret
      exact ⟨ret_bool HE.out.symm, hbw.trans ((below_regrown W2 dq osq).mono hbw.size)⟩
    · have HE : Hid (B = false) := by show _ = _; rw [HE0.out, decide_eq_false hle]; rfl
      clear HE0
      refine wp_region_quiet_below (by kernel_rfl) (by kernel_rfl) ?_
      repeat (go_big_quiet_step (first | exact c2 _ _))
      refine wpQuiet_nil ?_
      intro _ hw'
      obtain ⟨⟨dq, osq⟩, hw''⟩ := hw'
      subst hw''
      go_wp2
      go_ret
      exact ⟨ret_bool HE.out.symm, hbw.trans ((below_regrown W2 dq osq).mono hbw.size)⟩
end Go.Proofs.YtmidaeljeoifdaaGreatDoor

