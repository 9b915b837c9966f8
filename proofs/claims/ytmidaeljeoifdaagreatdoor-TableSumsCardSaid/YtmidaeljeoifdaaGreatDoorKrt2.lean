import Derived.Test.YtmidaeljeoifdaaGreatDoorKrs3
namespace Go.Proofs.YtmidaeljeoifdaaGreatDoor
set_option maxHeartbeats 16000000
open Go.RowKit
set_option linter.unusedVariables false
structure Ck where
 code : Int
 f : Nat
 caps : Array Value
def ckC (x : Ck) : List Value := [I x.code, .func (.func x.f) #[] x.caps]
def ckP (x : Ck) (i : Nat) (u : Value) : Prop := match i with | 0 => u = I x.code | _ => u = .func (.func x.f) #[] x.caps
def ChecksPost (w : World) (cs : List Ck) (e : Ending) (w' : World) : Prop := ∃ s : Sl, e = .returned (.slice s.a s.n s.c) ∧ RowsAt w' 2 ckP s cs ∧ Below w.heap.size w w'
theorem ck_at (cs : List Ck) (j : Nat) (x : Ck) (hj : cs[j]? = some x) (i : Nat) (hi : i < 2) : (cs.flatMap ckC)[j * 2 + i]? = (ckC x)[i]? := by
 induction cs generalizing j with
 | nil => simp at hj
 | cons y r ih =>
  have e1 : (y :: r).flatMap ckC = ckC y ++ r.flatMap ckC := rfl
  have h2 : (ckC y).length = 2 := rfl
  rw [e1]
  cases j with
  | zero =>
   obtain rfl : y = x := by simpa using hj
   rw [List.getElem?_append_left (by omega)]
   simp
  | succ j =>
   rw [List.getElem?_append_right (by omega), h2, show (j + 1) * 2 + i - 2 = j * 2 + i by omega]
   exact ih j (by simpa using hj)
theorem rows_ck {w : World} {b : Nat} {vs : Array Value} (h : w.heap[b]? = some (.cells vs 254 (0, 0))) (cs : List Ck) (hv : vs.toList = cs.flatMap ckC) {n : Nat} (hn : n = cs.length) (hm : n ≤ maxLen) : RowsAt w 2 ckP ⟨some ⟨b, 0, none⟩, n, n⟩ cs := by
 refine ⟨hn, Nat.le_refl _, hm, fun j x hj => ⟨b, 0, rfl, heap_lt h, fun i hi => ?_⟩⟩
 have hc := ck_at cs j x hj i hi
 rw [← hv, Array.getElem?_toList] at hc
 have h1 : w.cell? ⟨b, 0 + j * 2 + i, none⟩ = (ckC x)[i]? := by rw [Nat.zero_add, cell_of_row w b _ _ _ (0, 0) h]; exact hc
 have h01 : i = 0 ∨ i = 1 := by omega
 rcases h01 with rfl | rfl
 ·exact ⟨_, h1, rfl⟩
 ·exact ⟨_, h1, rfl⟩
def RefPost (w : World) (code : Int) (word : List UInt8) (id : Int) (e : Ending) (w' : World) : Prop := ∃ b, e = .returned (.iface 189 (.pointer (some ⟨b, 0, none⟩))) ∧ w.heap.size ≤ b ∧ w'.heap[b]? = some (.cells #[I code, S word, I id] 193 (0, 0)) ∧ Below w.heap.size w w'
theorem refuse_any (code : Int) (word : List UInt8) (id : Int) (w : World) : Calls Tryz.prog 194 #[I code, S word, I id] w fun e w' => RefPost w code word id e w' := by
 have hb := below_alloc w
 have hh := heap_alloc_new w (.cells #[I code, S word, I id] 193)
 go_enter Tryz.func194, Tryz.ntmps194
 go_wp2
 go_ret
 exact ⟨_, rfl, Nat.le_refl _, hh, hb _⟩
def resourceChecksL : List Ck := [⟨74, 218, #[]⟩, ⟨74, 219, #[]⟩, ⟨73, 220, #[]⟩, ⟨70, 221, #[]⟩]
theorem resourceChecks_any (w : World) : Calls Tryz.prog 180 #[] w fun e w' => ChecksPost w resourceChecksL e w' := by
 have hb := below_alloc w
 have hh := heap_alloc_new w
 go_enter Tryz.func180, Tryz.ntmps180
 go_wp2
 go_ret
 refine ⟨⟨some ⟨w.heap.size, 0, none⟩, 4, 4⟩, rfl, ?_, hb _⟩
 apply rows_ck (hh _)
 ·rfl
 ·rfl
 ·unfold maxLen; omega
def eventChecksL : List Ck := [⟨74, 224, #[]⟩]
theorem eventChecks_any (w : World) : Calls Tryz.prog 182 #[] w fun e w' => ChecksPost w eventChecksL e w' := by
 have hb := below_alloc w
 have hh := heap_alloc_new w
 go_enter Tryz.func182, Tryz.ntmps182
 go_wp2
 go_ret
 refine ⟨⟨some ⟨w.heap.size, 0, none⟩, 1, 1⟩, rfl, ?_, hb _⟩
 apply rows_ck (hh _)
 ·rfl
 ·rfl
 ·unfold maxLen; omega
def taskChecksL : List Ck := [⟨74, 227, #[]⟩, ⟨73, 228, #[]⟩, ⟨71, 229, #[]⟩, ⟨70, 230, #[]⟩, ⟨70, 231, #[]⟩, ⟨70, 232, #[]⟩]
theorem taskChecks_any (w : World) : Calls Tryz.prog 184 #[] w fun e w' => ChecksPost w taskChecksL e w' := by
 have hb := below_alloc w
 have hh := heap_alloc_new w
 go_enter Tryz.func184, Tryz.ntmps184
 go_wp2
 go_ret
 refine ⟨⟨some ⟨w.heap.size, 0, none⟩, 6, 6⟩, rfl, ?_, hb _⟩
 apply rows_ck (hh _)
 ·rfl
 ·rfl
 ·unfold maxLen; omega
def counterChecksL : List Ck := [⟨74, 235, #[]⟩]
theorem counterChecks_any (w : World) : Calls Tryz.prog 186 #[] w fun e w' => ChecksPost w counterChecksL e w' := by
 have hb := below_alloc w
 have hh := heap_alloc_new w
 go_enter Tryz.func186, Tryz.ntmps186
 go_wp2
 go_ret
 refine ⟨⟨some ⟨w.heap.size, 0, none⟩, 1, 1⟩, rfl, ?_, hb _⟩
 apply rows_ck (hh _)
 ·rfl
 ·rfl
 ·unfold maxLen; omega
def isrChecksL : List Ck := [⟨74, 246, #[]⟩, ⟨73, 247, #[]⟩, ⟨70, 248, #[]⟩, ⟨70, 249, #[]⟩, ⟨70, 250, #[]⟩]
theorem isrChecks_any (w : World) : Calls Tryz.prog 190 #[] w fun e w' => ChecksPost w isrChecksL e w' := by
 have hb := below_alloc w
 have hh := heap_alloc_new w
 go_enter Tryz.func190, Tryz.ntmps190
 go_wp2
 go_ret
 refine ⟨⟨some ⟨w.heap.size, 0, none⟩, 5, 5⟩, rfl, ?_, hb _⟩
 apply rows_ck (hh _)
 ·rfl
 ·rfl
 ·unfold maxLen; omega
def actL (bo : Nat) : List Ck := [⟨74, 279, #[.pointer (some ⟨bo, 0, none⟩)]⟩, ⟨74, 281, #[.pointer (some ⟨bo, 0, none⟩)]⟩, ⟨73, 283, #[.pointer (some ⟨bo, 0, none⟩)]⟩, ⟨70, 285, #[.pointer (some ⟨bo, 0, none⟩)]⟩, ⟨72, 287, #[.pointer (some ⟨bo, 0, none⟩)]⟩]
theorem actChecks_any (w : World) (fo : Nat) : Calls Tryz.prog 240 #[.func (.func fo) #[] #[]] w fun e w' => ∃ bo, ChecksPost w (actL bo) e w' ∧ w.heap.size ≤ bo ∧ bo < w'.heap.size ∧ w'.cell? ⟨bo, 0, none⟩ = some (.func (.func fo) #[] #[]) := by
 have hb := below_alloc w
 have hb2 := fun o o' => (hb o).trans ((below_alloc (w.alloc o) o').mono (hb o).size)
 have hh := heap_two w
 have hc : ∀ o t, ((w.alloc (.cells #[.func (.func fo) #[] #[]] t)).alloc o).cell? ⟨w.heap.size, 0, none⟩ = some (.func (.func fo) #[] #[]) := fun o t => by
  rw [cell_below (below_alloc _ _) _ _ (by simp)]
  simp
 go_enter Tryz.func240, Tryz.ntmps240
 go_wp2
 go_ret
 refine ⟨w.heap.size, ⟨⟨some ⟨w.heap.size + 1, 0, none⟩, 5, 5⟩, rfl, ?_, hb2 _ _⟩, Nat.le_refl _, by simp; omega, hc _ _⟩
 apply rows_ck (hh _ _)
 ·rfl
 ·rfl
 ·unfold maxLen; omega
theorem rows_str {w : World} {b : Nat} {s : List UInt8} (h : w.heap[b]? = some (.cells #[S s] 9 (0, 0))) : RowsAt w 1 strP ⟨some ⟨b, 0, none⟩, 1, 1⟩ [s] := by
 refine ⟨rfl, Nat.le_refl _, by show 1 ≤ maxLen; unfold maxLen; omega, fun j x hj => ⟨b, 0, rfl, heap_lt h, fun i hi => ⟨S s, ?_, ?_⟩⟩⟩
 ·have h0 : j = 0 := by have := (List.getElem?_eq_some_iff.1 hj).1; simp at this; omega
  subst h0
  obtain rfl : i = 0 := by omega
  rw [cell_of_row w b _ _ _ (0, 0) h]
  rfl
 ·have h0 : j = 0 := by have := (List.getElem?_eq_some_iff.1 hj).1; simp at this; omega
  subst h0
  obtain rfl : s = x := by simpa using hj
  rfl
theorem cpuNames_any (w : World) (c : Cf) (v : Vs) : Calls Tryz.prog 176 #[.agg (cfC c v)] w fun e w' => NamesPost w [c.cpu] e w' := by
 have hb := below_alloc w
 have hb2 := fun o o' => (hb o).trans ((below_alloc (w.alloc o) o').mono (hb o).size)
 have hh := heap_two w
 have f0 : ∀ h : 0 < (cfC c v).size, (cfC c v)[0] = S c.cpu := fun _ => rfl
 have hs18 : (cfC c v).size = 18 := rfl
 generalize cfC c v = C at *
 replace f0 := f0 (by omega)
 go_enter Tryz.func176, Tryz.ntmps176
 go_wp2
 go_ret
 exact ⟨⟨some ⟨w.heap.size + 1, 0, none⟩, 1, 1⟩, rfl, rows_str (hh _ _), hb2 _ _⟩
theorem osNames_any (w : World) (c : Cf) (v : Vs) : Calls Tryz.prog 177 #[.agg (cfC c v)] w fun e w' => NamesPost w [c.osn] e w' := by
 have hb := below_alloc w
 have hb2 := fun o o' => (hb o).trans ((below_alloc (w.alloc o) o').mono (hb o).size)
 have hh := heap_two w
 have f0 : ∀ h : 1 < (cfC c v).size, (cfC c v)[1] = S c.osn := fun _ => rfl
 have hs18 : (cfC c v).size = 18 := rfl
 generalize cfC c v = C at *
 replace f0 := f0 (by omega)
 go_enter Tryz.func177, Tryz.ntmps177
 go_wp2
 go_ret
 exact ⟨⟨some ⟨w.heap.size + 1, 0, none⟩, 1, 1⟩, rfl, rows_str (hh _ _), hb2 _ _⟩
theorem modeNames_any (w : World) (c : Cf) (v : Vs) (h : CfAt w c v) : Calls Tryz.prog 178 #[.agg (cfC c v)] w fun e w' => NamesPost w c.modes e w' := by
 have hb := below_alloc w
 have hR := fun o => h.m.below (hb o) (fun _ _ _ _ h => h)
 have f10 : ∀ h : 10 < (cfC c v).size, (cfC c v)[10] = .slice v.m.a v.m.n v.m.c := fun _ => rfl
 have hs18 : (cfC c v).size = 18 := rfl
 generalize cfC c v = C at *
 replace f10 := f10 (by omega)
 go_enter Tryz.func178, Tryz.ntmps178
 go_wp2
 go_ret
 exact ⟨v.m, rfl, hR _, hb _⟩
end Go.Proofs.YtmidaeljeoifdaaGreatDoor
