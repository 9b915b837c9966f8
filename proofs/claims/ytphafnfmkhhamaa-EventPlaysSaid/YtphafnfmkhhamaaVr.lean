import Derived.Test.YtphafnfmkhhamaaVq
import Derived.Deep.DeepAppendWide
import Derived.Laws.AppendOwnNone
namespace Go.Proofs.Ytphafnfmkhhamaa
open Go.RowKit
set_option linter.unusedVariables false
set_option linter.unusedSimpArgs false

theorem tsk_zero (l : List Int) (i : Nat) : (tsk l i).on = 0 ∧ (tsk l i).wa = 0 ∧ (tsk l i).s = false := by
  unfold tsk
  split
  · exact ⟨rfl, rfl, rfl⟩
  · exact ⟨rfl, rfl, rfl⟩
theorem tsk_x (l : List Int) (i : Nat) (v : Int) (h : l[i]? = some v) : (tsk l i).x = decide (v ≠ 0) := by
  unfold tsk
  rw [List.getD_eq_getElem?_getD, h]
  by_cases hv : v = 0
  · simp [hv, et0]
  · simp [hv, et1]
theorem onesU (l : List Int) : ∀ u ∈ rM l, u.oneCell' = true := fun u hu => by
  obtain ⟨x, _, rfl⟩ := List.mem_map.1 hu
  rfl
set_option maxRecDepth 100000 in
theorem dNew_big (w : World) (a : Option Addr) (n c : Nat) (hn : 256 < n) : Calls Try.prog 15 #[.slice a n c] w fun e w' => e = .returned (.tuple #[.pointer none, I 150]) ∧ w = w' := by
  have h1 : (256 : Int) < n := by omega
  go_enter Try.func15, Try.ntmps15
  go_wp2
  go_ret2
  exact ⟨rfl, rfl⟩
/-- masks that came in -/
def Msk (w : World) (a : Option Addr) (l : List Int) : Prop := ∀ j v, l[j]? = some v → ∃ g off, a = some ⟨g, off, none⟩ ∧ g < w.heap.size ∧ w.cell? ⟨g, off + j, none⟩ = some (U v)
theorem Msk.below {w w' : World} {a : Option Addr} {l : List Int} (h : Msk w a l) (hb : Below w.heap.size w w') : Msk w' a l := fun j v hv => by
  obtain ⟨g, off, e, hg, hc⟩ := h j v hv
  exact ⟨g, off, e, Nat.lt_of_lt_of_le hg hb.size, (hb.cell (p := ⟨g, off + j, none⟩) hg).trans hc⟩
theorem Msk.news {w : World} {ad : Addr} {l : List Int} (h : Msk w (some ad) l) : ∀ j u, (rM l)[j]? = some u → w.cell? (ad.add j) = some u := fun j u hu => by
  simp only [rM, List.getElem?_map, Option.map_eq_some_iff] at hu
  obtain ⟨v, hv, rfl⟩ := hu
  obtain ⟨g, off, e, _, hc⟩ := h j v hv
  cases e
  rw [addr_add]
  exact hc
theorem wpList_append_msk {w : World} {ops : Array Oper} {rest : List Oper} {o : Oper} {a : Act} {Q : Exit → Act → World → Prop} (hgd : o.guard = none) (s x : Operand)
    (ho : o.op = .call { callee := .builtin .append, args := #[s, x], argTypes := #[28, 28] })
    (base : Nat) (v : Value) (hs : a.eval s = v) (hown : w.ownsRow base 22 1 v 0 []) (aa : Option Addr) (l : List Int) (c : Nat) (hx : a.eval x = .slice aa l.length c) (hn : aa = none → l = [] ∧ c = 0) (hl : l.length ≤ 35184372088000) (hm : Msk w aa l) (hb : base ≤ w.heap.size)
    (h : ∀ v' w', w'.ownsRow base 22 1 v' l.length (rM l) → w.grownBy w' v.ownBlock → wpList Try.prog ops Q rest (a.put o.dst v') w') : wpList Try.prog ops Q (o :: rest) a w := by
  obtain ⟨iu, hiu, hu0, hu1, hu2⟩ := info_parts uinfo
  cases aa with
  | none =>
    obtain ⟨rfl, rfl⟩ := hn rfl
    exact wpList_append_own_none hgd s x _ ho base _ iu 1 Try.underlying28 hiu v 0 [] hs hown hx (h v w hown (grown_refl _ _))
  | some ad =>
    refine wpList_append_own_wide w hgd s x _ ho base 22 iu (.int .u32 0) 1 4 Try.underlying28 hiu hu0 hu1 hu2 rfl (by decide) v 0 [] hs hown ad l.length c (rM l) hx (by simp [rM]) hm.news (onesU l) (by unfold maxLen; omega) (by omega) hb ?_
    intro v' w' h1 h2 _
    rw [Nat.zero_add, List.nil_append] at h1
    exact h v' w' h1 h2
set_option maxRecDepth 100000 in
theorem dNew_ok (w : World) (a : Option Addr) (c : Nat) (l : List Int) (hl : l.length ≤ 256) (hn : a = none → l = [] ∧ c = 0) (hm : Msk w a l) :
    Calls Try.prog 15 #[.slice a l.length c] w fun e w' => e = .returned (.tuple #[dP w.heap.size, I 0]) ∧ (∃ vm vo vw vs, Dt w' w.heap.size vm vo vw vs l (tsk l) ∧ ∀ b, Db w.heap.size vm vo vw vs b → w.heap.size ≤ b) ∧ Below w.heap.size w w' := by
  have h1 : ¬ ((256 : Int) < l.length) := by omega
  have hb0 := below_alloc w (.cells #[.slice none 0 0, .slice none 0 0, .slice none 0 0, .slice none 0 0] 67)
  have hm1 := hm.below hb0
  have hD := heap_alloc_new w (.cells #[.slice none 0 0, .slice none 0 0, .slice none 0 0, .slice none 0 0] 67)
  have hsz : (w.alloc (.cells #[.slice none 0 0, .slice none 0 0, .slice none 0 0, .slice none 0 0] 67)).heap.size = w.heap.size + 1 := by simp
  go_enter Try.func15, Try.ntmps15
  go_upto_region 4 with (first | fail)
  generalize (w.alloc (.cells #[.slice none 0 0, .slice none 0 0, .slice none 0 0, .slice none 0 0] 67)) = w1 at *
  have c0 : w1.cell? ⟨w.heap.size, 0, none⟩ = some (.slice none 0 0) := by rw [cell_of_row _ _ _ _ _ (0, 0) hD]; rfl
  have HD : Hid (w1.heap[w.heap.size]? = some (.cells #[.slice none 0 0, .slice none 0 0, .slice none 0 0, .slice none 0 0] 67)) := hD
  have HZ : Hid (w1.heap.size = w.heap.size + 1) := hsz
  clear hD hsz
  go_wp2_with (first | (at_builtin; refine wpList_append_msk rfl (.tmp 14) (.tmp 15) rfl (w.heap.size + 1) (.slice none 0 0) rfl (World.ownsRow_nil _ _ _ _) a l c rfl hn (by omega) hm1 (by rw [HZ.out]; exact Nat.le_refl _) ?_))
  intro v2 w2 o2 g2
  obtain ⟨a2, k2, rfl⟩ := own_sl o2
  have f2 := fz_none g2 (fun _ => False)
  have e2 := f2.heap HD.out id
  have q2 : w2.frozen? ⟨w.heap.size, 0, none⟩ = false := frozen_of_row w2 _ 0 _ _ e2
  have e3 : w2.cell? ⟨w.heap.size, 0, none⟩ = some (.slice none 0 0) := by rw [cell_of_row _ _ _ _ _ (0, 0) e2]; rfl
  go_upto_region 5 with (first | fail)
  have hv2 : (Value.slice a2 l.length k2).ownBlock ≠ some w.heap.size := fun e => by have := (o2.lt _ e).1; omega
  have DM : Dm (w2.setCell ⟨w.heap.size, 0, none⟩ (.slice a2 l.length k2)) w.heap.size (.slice a2 l.length k2) (.slice none 0 0) (.slice none 0 0) (.slice none 0 0) l :=
    ⟨heap_setCell_same w2 w.heap.size 0 _ _ (.slice a2 l.length k2) e2, (fx_one w2 w.heap.size 0 (.slice a2 l.length k2)).own (own_base o2 (Nat.zero_le _)) (fun g e e2 => hv2 (by rw [e, e2])), hl, hv2⟩
  have B2 : Below w.heap.size w (w2.setCell ⟨w.heap.size, 0, none⟩ (.slice a2 l.length k2)) := hb0.trans ((f2.mono (N := fun b => b = w.heap.size) (fun _ e => e.elim)).trans (fx_one w2 w.heap.size 0 (.slice a2 l.length k2)) |>.below (by rw [HZ.out]; omega) (fun x e => by omega))
  have V2 : Hid (∀ b, (Value.slice a2 l.length k2).ownBlock = some b → w.heap.size ≤ b) := fun b e => by have := (o2.lt _ e).1; omega
  clear o2 g2 f2 e2 q2 e3 hb0 hm1 HD HZ c0 hm
  generalize (w2.setCell ⟨w.heap.size, 0, none⟩ (.slice a2 l.length k2)) = x2 at *
  have R := dReset_any DM (tsk l) (fun i _ => tsk_zero l i) (tsk_x l)
  go_wp2_with (first | (go_at_call 23; refine R.mono ?_; clear R; rintro e w3 ⟨rfl, ⟨vo, vw, vs, H3, k3⟩, f3⟩))
  go_ret2
  refine ⟨rfl, ⟨_, vo, vw, vs, H3, fun b hb => ?_⟩, B2.trans (f3.below B2.size (fun x e => by omega))⟩
  rcases k3 b hb with e | e | e
  · omega
  · exact V2.out b e
  · exact Nat.le_trans B2.size e
end Go.Proofs.Ytphafnfmkhhamaa
