import Derived.Test.YtmidaeljeoifdaaGreatDoorTcx
import Derived.Test.YtmidaeljeoifdaaGreatDoorTcm
import Derived.Test.YtmidaeljeoifdaaGreatDoorTco
import Derived.Test.YtmidaeljeoifdaaGreatDoorTck
import Derived.Test.YtmidaeljeoifdaaGreatDoorTcl
import Derived.Test.YtmidaeljeoifdaaGreatDoorTcf
import Derived.Test.YtmidaeljeoifdaaGreatDoorTcc
namespace Go.Proofs.YtmidaeljeoifdaaGreatDoor
set_option maxRecDepth 100000
set_option maxHeartbeats 16000000
open Go.RowKit Go.Shelf Go.Sort
set_option linter.unusedVariables false
set_option linter.unusedSimpArgs false
def chL (tb : Tb) : List Bool := [countsB tb, tb.ress.all (fun r => inI r.ceil (-1) 127), ringsW tb.tasks 64 tb.rings, tb.tasks.all (tkB tb), tb.ctrs.all ctB, tb.als.all (alB tb), isrsG tb [] tb.isrs, (tb.msgs.all fldB && tb.msgs.all (msB tb)), rmB tb]
theorem chL_all (tb : Tb) : (chL tb).all id = chkP tb := by
 unfold chL chkP rmB
 simp only [List.all_cons, List.all_nil, id, Bool.and_true, Bool.and_assoc]
def fnL : List Nat := [17, 18, 19, 20, 21, 22, 23, 24, 25]
theorem roomOK_of {tb : Tb} (h0 : countsB tb = true) (h5 : tb.als.all (alB tb) = true) (h7 : (tb.msgs.all fldB && tb.msgs.all (msB tb)) = true) : RoomOK tb := by
 refine ⟨fun x hx => ?_, fun x hx hk => ?_, ?_⟩
 ·have := List.all_eq_true.1 h5 x hx
  unfold alB idB at this
  simp at this
  omega
 ·rw [Bool.and_eq_true] at h7
  have := List.all_eq_true.1 h7.2 x hx
  unfold msB at this
  rw [if_neg hk] at this
  unfold sndB idB at this
  simp at this
  omega
 ·unfold countsB at h0
  simp at h0
  omega
theorem modes_of {tb : Tb} (h0 : countsB tb = true) : 1 ≤ tb.modes ∧ tb.modes ≤ 8 := by
 unfold countsB inI at h0
 simp at h0
 omega
theorem one_any (tb : Tb) (v : Ts) (W : World) (h : TbAt W tb v) (hw : WfT tb) (k f : Nat) (b : Bool) (hf : fnL[k]? = some f) (hb : (chL tb)[k]? = some b) (hp : ((chL tb).take k).all id = true) :
  Calls Tryz.prog f #[.agg (tbC tb v)] W fun e w' => e = .returned (.bool b) ∧ Below W.heap.size W w' := by
 unfold fnL at hf
 unfold chL at hb hp
 match k, hf, hb, hp with
 | 0, hf, hb, hp => cases hf; cases hb; exact countsFit_any tb v W h
 | 1, hf, hb, hp => cases hf; cases hb; exact resourcesFit_any tb v W h
 | 2, hf, hb, hp => cases hf; cases hb; exact ringsFit_any tb v W h
 | 3, hf, hb, hp => cases hf; cases hb; simp at hp; exact tasksFit_any tb v W h hw (modes_of hp.1)
 | 4, hf, hb, hp => cases hf; cases hb; exact countersFit_any tb v W h
 | 5, hf, hb, hp => cases hf; cases hb; simp only [List.take_succ_cons, List.all_cons, Bool.and_eq_true, id] at hp; exact alarmsFit_any tb v W h hw (modes_of hp.1)
 | 6, hf, hb, hp => cases hf; cases hb; exact isrsFit_any tb v W h
 | 7, hf, hb, hp => cases hf; cases hb; exact messagesFit_any tb v W h hw
 | 8, hf, hb, hp => cases hf; cases hb; simp only [List.take_succ_cons, List.all_cons, Bool.and_eq_true, id] at hp; exact roomFits_any tb v W h (roomOK_of hp.1 hp.2.2.2.2.2.1 (by rw [Bool.and_eq_true]; exact hp.2.2.2.2.2.2.2.1))
 | n + 9, hf, hb, hp => simp at hf
theorem one_enters (k f : Nat) (hf : fnL[k]? = some f) : ∀ args W, (callFunc f args).run Tryz.prog W = .ok (.enter f args) W := by
 unfold fnL at hf
 match k, hf with
 | 0, hf => cases hf; exact enters_of Tryz.func17 (by kernel_rfl) rfl
 | 1, hf => cases hf; exact enters_of Tryz.func18 (by kernel_rfl) rfl
 | 2, hf => cases hf; exact enters_of Tryz.func19 (by kernel_rfl) rfl
 | 3, hf => cases hf; exact enters_of Tryz.func20 (by kernel_rfl) rfl
 | 4, hf => cases hf; exact enters_of Tryz.func21 (by kernel_rfl) rfl
 | 5, hf => cases hf; exact enters_of Tryz.func22 (by kernel_rfl) rfl
 | 6, hf => cases hf; exact enters_of Tryz.func23 (by kernel_rfl) rfl
 | 7, hf => cases hf; exact enters_of Tryz.func24 (by kernel_rfl) rfl
 | 8, hf => cases hf; exact enters_of Tryz.func25 (by kernel_rfl) rfl
 | n + 9, hf => simp at hf
def fvA : Array Value := #[.func (.func 17) #[] #[], .func (.func 18) #[] #[], .func (.func 19) #[] #[], .func (.func 20) #[] #[], .func (.func 21) #[] #[], .func (.func 22) #[] #[], .func (.func 23) #[] #[], .func (.func 24) #[] #[], .func (.func 25) #[] #[]]
theorem fv_at (k f : Nat) (hf : fnL[k]? = some f) : fvA[k]? = some (.func (.func f) #[] #[]) := by
 unfold fnL at hf
 match k, hf with
 | 0, hf => cases hf; rfl
 | 1, hf => cases hf; rfl
 | 2, hf => cases hf; rfl
 | 3, hf => cases hf; rfl
 | 4, hf => cases hf; rfl
 | 5, hf => cases hf; rfl
 | 6, hf => cases hf; rfl
 | 7, hf => cases hf; rfl
 | 8, hf => cases hf; rfl
 | n + 9, hf => simp at hf
theorem check_any (tb : Tb) (v : Ts) (w : World) (h : TbAt w tb v) (hw : WfT tb) : Calls Tryz.prog 8 #[.agg (tbC tb v)] w fun e w' => e = .returned (I (if chkP tb then 0 else 90)) ∧ Below w.heap.size w w' := by
 have hb1 : Below w.heap.size w ((w.alloc (.cells (tbC tb v) 30)).alloc (.cells fvA 35)) := (below_alloc w _).trans ((below_alloc _ _).mono (by simp))
 have hV0 : ((w.alloc (.cells (tbC tb v) 30)).alloc (.cells fvA 35)).heap[w.heap.size]? = some (.cells (tbC tb v) 30) := by
  rw [heap_alloc_old _ _ (by simp)]; exact heap_alloc_new w _
 have hG0 : ((w.alloc (.cells (tbC tb v) 30)).alloc (.cells fvA 35)).heap[w.heap.size + 1]? = some (.cells fvA 35) := by
  have := heap_alloc_new (w.alloc (.cells (tbC tb v) 30)) (.cells fvA 35)
  rw [World.size_alloc] at this
  exact this
 have HT : Hid (TbAt ((w.alloc (.cells (tbC tb v) 30)).alloc (.cells fvA 35)) tb v) := h.below hb1
 have HW : Hid (WfT tb) := hw
 have hi30 : (Tryz.prog.info? 30).map (·.size) = some (tbC tb v).size := by kernel_rfl
 obtain ⟨Z, hZ⟩ : ∃ Z : Int, Z = if chkP tb then 0 else 90 := ⟨_, rfl⟩
 rw [← hZ]
 have HZ : Hid (Z = if chkP tb then 0 else 90) := hZ
 have HC : Hid (∀ (W : World) (k f : Nat) (b : Bool), TbAt W tb v → fnL[k]? = some f → (chL tb)[k]? = some b → ((chL tb).take k).all id = true → Calls Tryz.prog f #[.agg (tbC tb v)] W fun e w' => e = .returned (.bool b) ∧ Below W.heap.size W w') := fun W k f b hT hf hb hp => one_any tb v W hT hw k f b hf hb hp
 have HFV : Hid (∀ W : World, W.heap[w.heap.size + 1]? = some (.cells fvA 35) → ∀ k f : Nat, fnL[k]? = some f → W.cell? ⟨w.heap.size + 1, k, none⟩ = some (.func (.func f) #[] #[])) := fun W hW k f hf => by
  rw [cell_of_row W _ k _ _ (0, 0) hW]; exact fv_at k f hf
 have HB0 : Hid (Below w.heap.size w ((w.alloc (.cells (tbC tb v) 30)).alloc (.cells fvA 35))) := hb1
 have HV0 : Hid (((w.alloc (.cells (tbC tb v) 30)).alloc (.cells fvA 35)).heap[w.heap.size]? = some (.cells (tbC tb v) 30) ∧ ((w.alloc (.cells (tbC tb v) 30)).alloc (.cells fvA 35)).heap[w.heap.size + 1]? = some (.cells fvA 35)) := ⟨hV0, hG0⟩
 clear h hw hZ hb1 hV0 hG0
 unfold tbC at *
 unfold fvA at HT HV0 HB0
 go_enter Tryz.func8, Tryz.ntmps8
 go_wp2
 generalize ((w.alloc (.cells #[I tb.uses, I tb.modes, .slice v.t.a v.t.n v.t.c, .slice v.g.a v.g.n v.g.c, .slice v.r.a v.r.n v.r.c, .slice v.k.a v.k.n v.k.c, .slice v.a.a v.a.n v.a.c, .slice v.i.a v.i.n v.i.c, .slice v.s.a v.s.n v.s.c, I tb.depth, I tb.frames, I tb.errors, I tb.calls] 30)).alloc (.cells #[.func (.func 17) #[] #[], .func (.func 18) #[] #[], .func (.func 19) #[] #[], .func (.func 20) #[] #[], .func (.func 21) #[] #[], .func (.func 22) #[] #[], .func (.func 23) #[] #[], .func (.func 24) #[] #[], .func (.func 25) #[] #[]] 35)) = W0 at *
 go_loopw [4, 7] (fun _ iv wr => ∃ j : Nat, j ≤ 9 ∧ iv = .int .i64 j ∧ Hid (((chL tb).take j).all id = true ∧ Below W0.heap.size W0 wr)) (fun _ iv _ => 9 - (intOf iv).toNat)
 case atStart => exact ⟨0, by omega, rfl, by simp, Below.refl _ _⟩
 case round =>
  obtain ⟨j, hj, rfl, HJ⟩ := hrel
  by_cases hlt : j < 9
  ·have hlt' : (j : Int) < 9 := by omega
   obtain ⟨f, hf⟩ : ∃ f, fnL[j]? = some f := ⟨_, List.getElem?_eq_getElem (by exact hlt)⟩
   obtain ⟨b, hbx⟩ : ∃ b, (chL tb)[j]? = some b := ⟨_, List.getElem?_eq_getElem (by exact hlt)⟩
   have eg := one_enters j f hf
   have hV : wr.heap[w.heap.size]? = some (.cells #[I tb.uses, I tb.modes, .slice v.t.a v.t.n v.t.c, .slice v.g.a v.g.n v.g.c, .slice v.r.a v.r.n v.r.c, .slice v.k.a v.k.n v.k.c, .slice v.a.a v.a.n v.a.c, .slice v.i.a v.i.n v.i.c, .slice v.s.a v.s.n v.s.c, I tb.depth, I tb.frames, I tb.errors, I tb.calls] 30) := (HJ.out.2.block _ (heap_lt HV0.out.1)).trans HV0.out.1
   have hG := (HJ.out.2.block _ (heap_lt HV0.out.2)).trans HV0.out.2
   have hc := HFV.out wr (by unfold fvA; exact hG) j f hf
   have cx := HC.out wr j f b (HT.out.below HJ.out.2) hf hbx HJ.out.1
   have HTT : Hid (b = false → Z = 90) := fun ht => by rw [HZ.out, ← chL_all, all_false9 (p := id) hbx ht]; rfl
   have HA : Hid (b = true → ((chL tb).take (j + 1)).all id = true) := fun ht => by rw [all_take9 _ _ j _ hbx, HJ.out.1, ht]; rfl
   have HBW : Hid (Below W0.heap.size W0 wr) := HJ.out.2
   clear hbx HJ hf hG
   cases b with
   | false =>
    have HE : Hid (Z = 90) := HTT.out rfl
    clear HTT HA
    go_wp2_with (first | (refine wpList_load_row rfl 30 _ rfl w.heap.size rfl 30 _ (0, 0) _ hV Tryz.underlying30 rfl hi30 ?_))
    refine cx.mono ?_
    clear cx
    rintro e7 w7 ⟨rfl, hb7⟩
    have HB7 : Hid (Below W0.heap.size W0 w7) := HBW.out.trans (hb7.mono HBW.out.size)
    clear hb7 hV hc eg
    go_wp2
    go_ret
    exact ⟨by rw [HE.out]; rfl, HB0.out.trans (HB7.out.mono HB0.out.size)⟩
   | true =>
    have HA2 : Hid (((chL tb).take (j + 1)).all id = true) := HA.out rfl
    clear HTT HA
    go_wp2_with (first | (refine wpList_load_row rfl 30 _ rfl w.heap.size rfl 30 _ (0, 0) _ hV Tryz.underlying30 rfl hi30 ?_))
    refine cx.mono ?_
    clear cx
    rintro e7 w7 ⟨rfl, hb7⟩
    have HB7 : Hid (Below W0.heap.size W0 w7) := HBW.out.trans (hb7.mono HBW.out.size)
    clear hb7 hV hc eg
    go_wp2
    go_roundw
    case rel => exact ⟨j + 1, by omega, by go_num, HA2.out, HB7.out⟩
    case measure => simp [intOf]; omega
  ·obtain rfl : j = 9 := by omega
   have HE : Hid (Z = 0) := by
    show _ = _
    have := HJ.out.1
    rw [List.take_of_length_le (by exact Nat.le_refl 9), chL_all] at this
    rw [HZ.out, this]
    rfl
   have HB : Hid (Below w.heap.size w wr) := HB0.out.trans (HJ.out.2.mono HB0.out.size)
   clear HJ
   go_wp2
   go_ret
   exact ⟨by rw [HE.out]; rfl, HB.out⟩
end Go.Proofs.YtmidaeljeoifdaaGreatDoor
