import Derived.Test.YtmidaeljeoifdaaGreatDoorEcr
import Derived.Shelf.Abstract
namespace Go.Proofs.YtmidaeljeoifdaaGreatDoor.Ce
set_option maxRecDepth 100000
set_option maxHeartbeats 16000000
open Go.RowKit Go.Maps
set_option linter.unusedVariables false
def BoxB (w : World) (b : Nat) (m : Bool) : Prop := w.heap[b]? = some (.cells #[.bool m] 4 (0, 0))
def BoxC (w : World) (b : Nat) (c : Cf) (v : Vs) : Prop := w.heap[b]? = some (.cells (cfC c v) 47 (0, 0))
theorem heap_kept {w w' : World} {r : Option Nat} {g : Nat} {o : Obj} (h : w.heap[g]? = some o) (hg : w.grownBy w' r) (hne : some g ≠ r) : w'.heap[g]? = some o := (hg.block g (heap_lt h) hne).trans h
theorem boxed_set {w : World} {b : Nat} {m : Bool} (h : BoxB w b m) (o : Obj) (m' : Bool) : w.grownBy ((w.setCell ⟨b, 0, none⟩ (.bool m')).alloc o) (some b) ∧ BoxB ((w.setCell ⟨b, 0, none⟩ (.bool m')).alloc o) b m' := by
 have h1 := heap_setCell_same w b 0 _ _ (.bool m') h
 refine ⟨grown_same (grown_set w b 0 _) (World.grownBy_alloc _ o (some b)), heap_over _ o h1⟩
theorem namesMeet1_any (W : World) (c : Cf) (v : Vs) (isr : Bool) (id : Nat) (prio : Int) (s : Sl) (l : List Int) (hl : RowsAt W 1 intP s l) (bm bc : Nat) (m : Bool) (hm : BoxB W bm m) (hc : BoxC W bc c v) :
  Calls Tryz.prog 197 #[.agg (usC isr id prio s), .pointer (some ⟨bm, 0, none⟩), .pointer (some ⟨bc, 0, none⟩)] W fun e w' => e = .returned (.tuple #[]) ∧ W.grownBy w' (some bm) ∧ BoxB w' bm (m && risF (-1) l v.r.n) := by
 have hbl := heap_lt hm
 have hcl := heap_lt hc
 have x0 : W.cell? ⟨bm, 0, none⟩ = some (.bool m) := by rw [cell_of_row W bm 0 _ _ (0, 0) hm]; rfl
 have x1 : W.frozen? ⟨bm, 0, none⟩ = false := frozen_of_row W bm 0 _ _ hm
 have y12 : W.cell? ⟨bc, 12, none⟩ = some (.slice v.r.a v.r.n v.r.c) := by
  obtain ⟨_, h10, h11, h12, h13, h14, h15, h16, h17⟩ := var18_all hc
  exact h12
 have hset := boxed_set hm (.cells (usC isr id prio s) 207)
 have cr := fun W' (hW : Below W.heap.size W W') => crises_any W' s l (hl.below hW (fun _ _ _ _ h => h)) v.r.n
 have hb := below_alloc W (.cells (usC isr id prio s) 207)
 have k1 := cr _ hb
 have hnb : bm ≠ W.heap.size := Nat.ne_of_lt hbl
 have hnc : bc ≠ W.heap.size := Nat.ne_of_lt hcl
 generalize risF (-1) l v.r.n = br at *
 unfold usC at *
 clear hl hm hc cr hb
 cases m with
 | false =>
  have HS : Hid _ := hset false
  clear hset k1
  go_enter Tryz.func197, Tryz.ntmps197
  go_wp2
  refine bodyPost_end (v := .tuple #[]) (by simp [results, Tryz.results197, go_sem]) rfl ?_
  exact ⟨rfl, HS.out⟩
 | true =>
  have HS : Hid _ := hset br
  clear hset
  go_enter Tryz.func197, Tryz.ntmps197
  go_wp2_with (go_at_call 198; refine k1.mono ?_; clear k1; rintro e w' ⟨rfl, rfl⟩)
  refine bodyPost_end (v := .tuple #[]) (by simp [results, Tryz.results197, go_sem]) rfl ?_
  exact ⟨rfl, HS.out⟩
def risT (c : Cf) (x : Tk) : Bool := risF (-1) x.res c.ress.length
def risI (c : Cf) (x : Is) : Bool := risF (-1) x.res c.ress.length
def meetB (c : Cf) : Bool := c.tasks.all (risT c) && c.isrs.all (risI c)
theorem namesMeet_any (w : World) (c : Cf) (v : Vs) (h : CfAt w c v) : Calls Tryz.prog 125 #[.agg (cfC c v)] w fun e w' => Ans w (meetB c) e w' := by
 have hi18 : (Tryz.prog.info? 47).map (·.size) = some (cfC c v).size := by rw [show (cfC c v).size = 18 from rfl]; kernel_rfl
 have hV2 := heap_two0 w (.cells (cfC c v) 47) (.cells #[.bool true] 4)
 have hM2 := heap_two w (.cells (cfC c v) 47) (.cells #[.bool true] 4)
 have hb2 : Below w.heap.size w ((w.alloc (.cells (cfC c v) 47)).alloc (.cells #[.bool true] 4)) := ((Below.refl w.heap.size w).alloc (Nat.le_refl _) _).alloc (by simp) _
 have hs2 : ((w.alloc (.cells (cfC c v) 47)).alloc (.cells #[.bool true] 4)).heap.size = w.heap.size + 2 := by simp
 have HNR : Hid (v.r.n = c.ress.length) := h.r.n
 have hst : (storeCells ⟨w.heap.size + 1, 0, none⟩ [.bool true] 0).run Tryz.prog ((w.alloc (.cells (cfC c v) 47)).alloc (.cells #[.bool false] 4)) = .ok () ((w.alloc (.cells (cfC c v) 47)).alloc (.cells #[.bool true] 4)) := by
  have := run_storeCells_new (P := Tryz.prog) (w.alloc (.cells (cfC c v) 47)) 4 #[.bool false] #[.bool true] (by kernel_rfl) rfl (by simp [Value.oneCell'])
  rwa [show (w.alloc (.cells (cfC c v) 47)).heap.size = w.heap.size + 1 by simp] at this
 have ke : Calls Tryz.prog 130 #[.agg (cfC c v), .func (.func 197) #[] #[.pointer (some ⟨w.heap.size + 1, 0, none⟩), .pointer (some ⟨w.heap.size, 0, none⟩)]] ((w.alloc (.cells (cfC c v) 47)).alloc (.cells #[.bool true] 4)) fun e w' => e = .returned (.tuple #[]) ∧ BoxB w' (w.heap.size + 1) (meetB c) ∧ Below w.heap.size w w' := by
  refine (eachUser_any _ c v 197 #[.pointer (some ⟨w.heap.size + 1, 0, none⟩), .pointer (some ⟨w.heap.size, 0, none⟩)] (enters_of Tryz.func197 (by kernel_rfl) rfl)
   (fun j W => BoxB W (w.heap.size + 1) ((c.tasks.take j).all (risT c)) ∧ BoxC W w.heap.size c v ∧ Below w.heap.size w W)
   (fun j W => BoxB W (w.heap.size + 1) (c.tasks.all (risT c) && (c.isrs.take j).all (risI c)) ∧ BoxC W w.heap.size c v ∧ Below w.heap.size w W)
   (fun j W W' ⟨h1, h2, h3⟩ hb => ⟨(hb.block _ (heap_lt h1)).trans h1, (hb.block _ (heap_lt h2)).trans h2, h3.trans (hb.mono h3.size)⟩)
   (fun j W W' ⟨h1, h2, h3⟩ hb => ⟨(hb.block _ (heap_lt h1)).trans h1, (hb.block _ (heap_lt h2)).trans h2, h3.trans (hb.mono h3.size)⟩)
   (fun j W ⟨_, _, h3⟩ => h.below h3) (fun j W ⟨_, _, h3⟩ => h.below h3) ⟨hM2, hV2, hb2⟩ (fun W ⟨h1, h2, h3⟩ => ⟨by rw [List.take_of_length_le (Nat.le_refl _)] at h1; simpa using h1, h2, h3⟩) ?_ ?_).mono ?_
  ·intro j x s W hx hr ⟨h1, h2, h3⟩ hlt
   refine (namesMeet1_any W c v false j x.prio s x.res hr (w.heap.size + 1) w.heap.size _ h1 h2).mono ?_
   rintro e w' ⟨rfl, hg, hb⟩
   refine ⟨rfl, ⟨?_, heap_kept h2 hg (fun e => by have := Option.some.inj e; omega), h3.grown hg h3.size (fun k e => by cases e; omega)⟩, ?_, hg.size⟩
   ·rw [all_take _ _ j x hx]
    rw [HNR.out] at hb
    exact hb
   ·rw [hs2]
    exact hg.block _ (by rw [hs2] at hlt; exact hlt) (fun e => by have := Option.some.inj e; omega)
  ·intro j x s W hx hr ⟨h1, h2, h3⟩ hlt
   refine (namesMeet1_any W c v true j x.prio s x.res hr (w.heap.size + 1) w.heap.size _ h1 h2).mono ?_
   rintro e w' ⟨rfl, hg, hb⟩
   refine ⟨rfl, ⟨?_, heap_kept h2 hg (fun e => by have := Option.some.inj e; omega), h3.grown hg h3.size (fun k e => by cases e; omega)⟩, ?_, hg.size⟩
   ·rw [all_take _ _ j x hx, ← Bool.and_assoc]
    rw [HNR.out] at hb
    exact hb
   ·rw [hs2]
    exact hg.block _ (by rw [hs2] at hlt; exact hlt) (fun e => by have := Option.some.inj e; omega)
  ·rintro e w' ⟨rfl, h1, h2, h3⟩
   refine ⟨rfl, ?_, h3⟩
   rw [List.take_of_length_le (Nat.le_refl _)] at h1
   exact h1
 generalize meetB c = mb at *
 generalize cfC c v = C at *
 clear hM2 hb2 hs2 h
 go_enter Tryz.func125, Tryz.ntmps125
 go_wp2_with (first | (refine wpList_load_row rfl 47 _ rfl w.heap.size rfl 47 _ (0, 0) _ hV2 Tryz.underlying47 rfl hi18 ?_) | (go_at_call 130; refine ke.mono ?_; clear ke; rintro e w1 ⟨rfl, hb1, hbw1⟩; have z0 : w1.cell? ⟨w.heap.size + 1, 0, none⟩ = some (.bool mb) := (by rw [cell_of_row w1 _ 0 _ _ (0, 0) hb1]; rfl)))
 go_ret
 exact ⟨rfl, hbw1⟩
end Go.Proofs.YtmidaeljeoifdaaGreatDoor.Ce
