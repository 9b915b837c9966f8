import Derived.Test.YtglnfifdjlgbcaaGreatDoorXQe
import Derived.Deep.RegionHeldLaw
import Derived.RangeFuncNested
import Derived.RangeFuncBound
import Derived.RangeFuncCalls
import Derived.RangeFuncLeaves
import Derived.RangeFuncBox
import Derived.Shelf.Abstract
import Derived.Shelf.RegionOpen
import Derived.WalkKit
import Derived.OwnWalkIn
import Derived.TacticsInMore
import Derived.LoopNIn
import Derived.LoopIn
import Derived.Maps.OwnIn
import Derived.Maps.AppendAt
import Derived.Test.YtglnfifdjlgbcaaGreatDoorXZitl
namespace Go.Proofs.YtglnfifdjlgbcaaGreatDoor
open Go.RowKit Go.Maps Go.Shelf Go.Sort
open Go.Proofs.YtglnfifdjlgbcaaGreatDoor.St (Fx Fz iQ iP)
set_option linter.unusedVariables false
set_option linter.unusedSimpArgs false

/-! ### What is got -/
section
variable {w w' : World} {tb : Tb} {Z : Nat → Prop} {y : Ly} {B : Nat} {s : Ls}
theorem step_update {P : Program} {ops : Array Oper} {o : Oper} {a : Act} {w : World} {K : Act → World → Prop} {Q : Exit → Act → World → Prop} {E : Prop}
    (hg : o.guard = none) (m x u : Operand) (t : TypeId) (hop : o.op = Op.mapUpdate t m x u) (vm vx vu : Value) (hm : a.eval m = vm) (hx : a.eval x = vx) (hu : a.eval u = vu) (w' : World) (hrun : (Instr.mapUpdate t vm vx vu).run P w = .ok () w') (hK : K (a.put o.dst undef) w') :
    if Region.wanted o (yielded ops a.tmps) = true then Oper.wp P o a w K Q else E := by
  have hw : Region.wanted o (yielded ops a.tmps) = true := by simp [Region.wanted, hg]
  rw [if_pos hw]
  unfold Oper.wp
  simp [execOp, hop, hm, hx, hu, hrun, Result.andThen]
  exact hK
/-- A lock whose owner o holds something else, and whose map of holders has been turned with it. -/
theorem Lk.turn (h : Lk w tb Z y B s) {o : Own} {b : Ob} {q : Nat} (hob : obs tb o = some b) (hq : y.p o = some q) {L' : Tks} (hL : ∀ x, x ≠ o → hld L' x = hld s.L x) (ok : OKl tb ⟨L', s.i, s.g⟩)
    (hf : Fx [y.sb o, y.gb o, y.mh] w w') (hk : ∃ hi, iQ w' (y.sb o) (y.gb o) b.own.length hi (hld L' o)) (hh : HdM w' y.mh L') : Lk w' tb Z y B ⟨L', s.i, s.g⟩ ∧ Fz (y.M B) w w' := by
  have ha := h.apt hq
  have hfz : Fz (y.M B) w w' := Fz.of_fx hf (by
    intro x hx
    simp only [List.mem_cons, List.not_mem_nil, or_false] at hx
    rcases hx with rfl | rfl | rfl
    · exact .inr (.inr (.inr ⟨o, q, hq, .inr (.inl rfl)⟩))
    · exact .inr (.inr (.inr ⟨o, q, hq, .inr (.inr rfl)⟩))
    · exact .inr (.inr (.inl rfl)))
  have hZ : ∀ b, Z b → b < w.heap.size → w'.heap[b]? = w.heap[b]? := fun b hb hlt => hfz.block b hlt (h.z b hb)
  have hne : ∀ x, x ≠ y.sb o → x ≠ y.gb o → x ≠ y.mh → x ∉ [y.sb o, y.gb o, y.mh] := fun x h1 h2 h3 hx => by
    simp only [List.mem_cons, List.not_mem_nil, or_false] at hx
    rcases hx with rfl | rfl | rfl
    · exact h1 rfl
    · exact h2 rfl
    · exact h3 rfl
  refine ⟨⟨ok, h.tk, hf.heap h.o (hne _ ha.a.2.1.symm ha.a.2.2.symm (h.h.ne h.o)), rows_kept h.r h.zr hZ hf.size, h.zr, h.m.kept (hf.block _ h.m.lt (hne _ ha.b.2.1.symm ha.b.2.2.symm h.ne)), h.n, hh, h.ne, h.pn, fun x bx hx => ?_, h.inj, h.z⟩, hfz⟩
  obtain ⟨hw, qx, hqx, hB, hz⟩ := h.ps x bx hx
  refine ⟨hw, qx, hqx, ?_, hz⟩
  have hax := h.apt hqx
  by_cases e : x = o
  · subst e
    rw [hob] at hx
    cases hx
    rw [hq] at hqx
    cases hqx
    exact ⟨hf.heap hB.o (hne _ ha.d.1 ha.d.2.1 ha.c.1), rows_kept hB.r hz hZ hf.size, hk⟩
  · have h2 := h.ap2 hqx hq e
    have n1 : qx ∉ [y.sb o, y.gb o, y.mh] := hne _ (fun k => h2 qx (.inl rfl) (.inr (.inl k))) (fun k => h2 qx (.inl rfl) (.inr (.inr k))) hax.c.1
    have n2 : y.sb x ∉ [y.sb o, y.gb o, y.mh] := hne _ (fun k => h2 _ (.inr (.inl rfl)) (.inr (.inl k))) (fun k => h2 _ (.inr (.inl rfl)) (.inr (.inr k))) hax.c.2.1
    have n3 : y.gb x ∉ [y.sb o, y.gb o, y.mh] := hne _ (fun k => h2 _ (.inr (.inr rfl)) (.inr (.inl k))) (fun k => h2 _ (.inr (.inr rfl)) (.inr (.inr k))) hax.c.2.2
    obtain ⟨hi, hkx⟩ := hB.k
    refine ⟨hf.heap hB.o n1, rows_kept hB.r hz hZ hf.size, hi, ?_⟩
    show iQ w' (y.sb x) (y.gb x) bx.own.length hi (hld L' x)
    rw [hL x e]
    exact hkx.keptZ (Fz.of_fx (M := fun b => b ∈ [y.sb o, y.gb o, y.mh]) hf (fun _ h => h)) n2 n3
theorem nodup_sub {α : Type} [DecidableEq α] : ∀ {l m : List α}, l.Nodup → (∀ x ∈ l, x ∈ m) → l.length ≤ m.length
  | [], _, _, _ => Nat.zero_le _
  | x :: l, m, h, hs => by
    rw [List.nodup_cons] at h
    have hx := hs x (List.mem_cons_self ..)
    have := nodup_sub (m := m.erase x) h.2 (fun z hz => by
      have hne : z ≠ x := fun e => h.1 (e ▸ hz)
      exact (List.mem_erase_of_ne hne).2 (hs z (List.mem_cons_of_mem _ hz)))
    rw [List.length_erase_of_mem hx] at this
    have h1 : 0 < m.length := List.length_pos_of_mem hx
    rw [List.length_cons]
    omega
/-- Whoever gets something has room for it. -/
theorem get_room {tb : Tb} {s : Ls} (ok : OKl tb s) {o : Own} {b : Ob} (hob : obs tb o = some b) {r : Int} (hr : r ∈ b.own) (hf : hdr s.L r = none) : (hld s.L o).length < b.own.length := by
  have h1 : (r :: hld s.L o).Nodup := List.nodup_cons.2 ⟨fun h => hdr_none.1 hf o (mem_hld.1 h), hld_nodup ok.nd o⟩
  have h2 := nodup_sub h1 (m := b.own) (fun x hx => by
    rcases List.mem_cons.1 hx with rfl | hx
    · exact hr
    · obtain ⟨b', hb', hx'⟩ := ok.own o x (mem_hld.1 hx)
      rw [hob] at hb'
      cases hb'
      exact hx')
  rw [List.length_cons] at h2
  omega
theorem ok_get {tb : Tb} {s : Ls} (ok : OKl tb s) {o : Own} {b : Ob} (hob : obs tb o = some b) {r : Int} (hr : r ∈ b.own) (hf : hdr s.L r = none) : OKl tb ⟨s.L ++ [(o, r)], s.i, s.g⟩ := by
  refine ⟨?_, fun x z hx => ?_, ok.i, ok.g⟩
  · show ((s.L ++ [(o, r)]).map (·.2)).Nodup
    rw [List.map_append, List.nodup_append]
    refine ⟨ok.nd, by simp, fun a ha c hc => ?_⟩
    simp at hc
    subst hc
    rintro rfl
    obtain ⟨t, ht, e⟩ := List.mem_map.1 ha
    exact hdr_none.1 hf t.1 (by rw [← e]; exact ht)
  · rcases List.mem_append.1 hx with h1 | h1
    · exact ok.own x z h1
    · simp at h1
      obtain ⟨rfl, rfl⟩ := h1
      exact ⟨b, hob, hr⟩
theorem takes_le {tb : Tb} {s : Ls} (tk : OKt tb) (ok : OKl tb s) : s.L.length ≤ 65 := by
  have h1 := nodup_sub ok.nd (m := (List.range tb.ress.length).map (fun (k : Nat) => (k : Int))) (fun x hx => by
    obtain ⟨t, ht, rfl⟩ := List.mem_map.1 hx
    obtain ⟨b, hb, hr⟩ := ok.own t.1 t.2 ht
    obtain ⟨h0, z, hz, _⟩ := (tk.own _ b hb).2 _ hr
    exact List.mem_map.2 ⟨t.2.toNat, List.mem_range.2 (List.getElem?_eq_some_iff.1 hz).1, by omega⟩)
  have := tk.ress
  simp at h1
  omega
end
end Go.Proofs.YtglnfifdjlgbcaaGreatDoor

namespace Go.Proofs.YtglnfifdjlgbcaaGreatDoor
open Go.RowKit Go.Maps Go.Shelf Go.Sort
open Go.Proofs.YtglnfifdjlgbcaaGreatDoor.St (Fx Fz iQ iP)
set_option linter.unusedVariables false
set_option linter.unusedSimpArgs false

section
variable {w w' : World} {tb : Tb} {Z : Nat → Prop} {y : Ly} {B : Nat} {s : Ls}
theorem HdM.upd {b : Nat} {L : Tks} (h : HdM w b L) (hn : L.length < 1048576) (o : Own) (r : Int) (hr : (Lit.int .i64 r).wf = true) (hf : hdr L r = none) : ∃ f : World → World, ∀ W : World, W.heap[b]? = w.heap[b]? → (Instr.mapUpdate 171 (.map (some b)) (.int .i64 r) (.agg #[.bool o.isr, I o.id])).run Tryz.prog W = .ok () (f W) ∧ HdM (f W) b (L ++ [(o, r)]) ∧ W.grownBy (f W) (some b) := by
  have : ∀ W : World, ∃ w', W.heap[b]? = w.heap[b]? → (Instr.mapUpdate 171 (.map (some b)) (.int .i64 r) (.agg #[.bool o.isr, I o.id])).run Tryz.prog W = .ok () w' ∧ HdM w' b (L ++ [(o, r)]) ∧ W.grownBy w' (some b) := fun W => by
    by_cases hW : W.heap[b]? = w.heap[b]?
    · obtain ⟨w', h1⟩ := (h.kept hW).put hn o r hr hf
      exact ⟨w', fun _ => h1⟩
    · exact ⟨W, fun k => absurd k hW⟩
  exact Classical.skolem.1 this
set_option maxHeartbeats 4000000 in
set_option maxRecDepth 100000 in
theorem Get_ok (h : Lk w tb Z y B s) (o : Own) (ho : o.wf) (r : Int) (hw : (Lit.int .i64 r).wf = true) (hr : asks tb o r = true) (hg : gets tb s o r = true) : Calls Tryz.prog 138 #[lp B, .agg #[.bool o.isr, I o.id], I r] w fun e w' => e = .returned (I 0) ∧ Lk w' tb Z y B ⟨s.L ++ [(o, r)], s.i, s.g⟩ ∧ Fz (y.M B) w w' := by
  have hb := below_alloc w (.cells #[.bool o.isr, I o.id] 109)
  obtain ⟨y0, y1⟩ := box_own w o
  obtain ⟨b, hob⟩ : ∃ b, obs tb o = some b := by
    unfold asks at hr
    cases hz : obs tb o with
    | none => rw [hz] at hr; simp at hr
    | some b => exact ⟨b, rfl⟩
  have hgn : hdr s.L r = none ∧ b.own.any (fun x => x == r) = true := by
    unfold gets at hg
    rw [hob] at hg
    simp only [Bool.and_eq_true, Option.isNone_iff_eq_none] at hg
    exact hg
  have hrm : r ∈ b.own := by
    have := hgn.2
    rw [List.any_eq_true] at this
    obtain ⟨x, hx, e⟩ := this
    simp at e
    exact e ▸ hx
  obtain ⟨-, q, hq, -, -⟩ := h.ps o b hob
  have hF := asker_ok (h.below hb) o ho r hr q hq
  have HL : Hid (∀ w', Below (w.alloc (.cells #[.bool o.isr, I o.id] 109)).heap.size (w.alloc (.cells #[.bool o.isr, I o.id] 109)) w' → Lk w' tb Z y B s) := fun w' hb' => (h.below hb).below hb'
  have HB : Hid (∀ w', Below (w.alloc (.cells #[.bool o.isr, I o.id] 109)).heap.size (w.alloc (.cells #[.bool o.isr, I o.id] 109)) w' → Below w.heap.size w w') := fun w' hb' => hb.trans (hb'.mono (by simp))
  have HY : Hid (∀ w', Below (w.alloc (.cells #[.bool o.isr, I o.id] 109)).heap.size (w.alloc (.cells #[.bool o.isr, I o.id] 109)) w' → w'.cell? ⟨w.heap.size, 0, none⟩ = some (.bool o.isr) ∧ w'.cell? ⟨w.heap.size, 1, none⟩ = some (I o.id)) := fun w' hb' => ⟨(cell_below hb' _ _ (by simp)).trans y0, (cell_below hb' _ _ (by simp)).trans y1⟩
  have HLT : Hid (∀ b, y.M B b → b < w.heap.size) := fun b => h.lts
  have HQ : Hid (y.p o = some q) := hq
  have HG : Hid (hdr s.L r = none ∧ b.own.any (fun x => x == r) = true ∧ r ∈ b.own) := ⟨hgn.1, hgn.2, hrm⟩
  have HO : Hid (obs tb o = some b) := hob
  have HW : Hid ((Lit.int .i64 r).wf = true) := hw
  clear h hb hr hq hg hob hw hgn hrm
  go_enter Tryz.func138, Tryz.ntmps138
  go_upto_region 1 with fail
  generalize hX : w.heap.size = X at *
  generalize w.alloc (.cells #[.bool o.isr, I o.id] 109) = w1 at *
  have HX : Hid (w.heap.size = X) := hX
  clear hX
  go_upto_region 4 with (first | (go_at_call 231; refine hF.mono ?_; clear hF; rintro e w2 ⟨rfl, hb2⟩))
  have h2 := HL.out _ hb2
  have HB2 : Hid (Below X w w2) := HB.out _ hb2
  have HY2 : Hid (∀ w', Below w2.heap.size w2 w' → w'.cell? ⟨X, 0, none⟩ = some (.bool o.isr) ∧ w'.cell? ⟨X, 1, none⟩ = some (I o.id)) := fun w' hb' => HY.out w' (hb2.trans (hb'.mono hb2.size))
  clear HL HB hb2 y0 y1 HY
  obtain ⟨c0, c1, c2, c3, c4, c5⟩ := h2.cells
  have hl := h2.h.look r HW.out
  rw [HG.out.1] at hl
  have HLK : Hid (Lk w2 tb Z y B s) := h2
  simp only [ozV, ov, Option.isSome_none] at hl
  clear h2
  go_upto_region 5 with fail
  have hb3 := below_alloc w2 (.cells #[.bool false, I 0] 109)
  have HB3 : Hid (∀ n, Below X w ((w2.alloc (.cells #[.bool false, I 0] 109)).drewN n)) := fun n => St.below_drewN n (HB2.out.trans (hb3.mono (by have h1 := HB2.out.size; have h2 := HX.out; omega)))
  have HY3 : Hid (∀ n, ((w2.alloc (.cells #[.bool false, I 0] 109)).drewN n).cell? ⟨X, 0, none⟩ = some (.bool o.isr) ∧ ((w2.alloc (.cells #[.bool false, I 0] 109)).drewN n).cell? ⟨X, 1, none⟩ = some (I o.id)) := fun n => HY2.out _ (St.below_drewN n hb3)
  have h3 := HLK.out.below hb3
  clear c0 c1 c2 c3 c4 c5 hl hb3 HY2 HLK HB2
  generalize w2.alloc (.cells #[.bool false, I 0] 109) = w3 at *
  obtain ⟨b', hob', -, hB, -⟩ := h3.pq HQ.out
  rw [HO.out] at hob'
  cases hob'
  obtain ⟨d0, d1, d2, d3, d4, d5⟩ := hB.cells
  have hC : ∀ n, Calls Tryz.prog 232 #[.slice (y.sl o).a (y.sl o).n (y.sl o).c, I r] (w3.drewN n) fun e w' => e = .returned (.bool true) ∧ w' = w3.drewN n := fun n => by
    have := contains9_any (w3.drewN n) (y.sl o) b.own (hB.r.below (St.below_drewN n (Below.refl _ _)) (fun _ _ _ _ h => h)) r
    rw [HG.out.2.1] at this
    exact this.mono (fun e w' hh => ⟨hh.1, hh.2.symm⟩)
  obtain ⟨hr0, x, hx, -, hpx⟩ := (h3.tk.own o b HO.out).2 r HG.out.2.2
  obtain ⟨k, rfl⟩ := Int.eq_ofNat_of_zero_le hr0
  rw [Int.toNat_natCast] at hx
  obtain ⟨g, off, e1, hg, q0, q1⟩ := h3.res hx
  obtain ⟨n1, n2, n3⟩ := h3.rn
  have hk0 : k < tb.ress.length := (List.getElem?_eq_some_iff.1 hx).1
  have hk1 : (k : Int) < y.rs.n := by omega
  have hpx2 : ¬ (x.ceil < b.prio) := by omega
  obtain ⟨c0, c1, c2, c3, c4, c5⟩ := h3.cells
  rw [e1] at c0
  have H3 : Hid (∀ n, Lk (w3.drewN n) tb Z y B s) := fun n => h3.below (St.below_drewN n (Below.refl _ _))
  clear h3 hB n1 hk0 hpx hx hr0 e1
  go_quiet (first | (go_at_call 232; refine Calls.quiet_of_same (hC _)))
  have h4 := H3.out nq
  have HB4 : Hid (Below X w (w3.drewN nq)) := HB3.out nq
  have HY4 : Hid ((w3.drewN nq).cell? ⟨X, 0, none⟩ = some (.bool o.isr) ∧ (w3.drewN nq).cell? ⟨X, 1, none⟩ = some (I o.id)) := HY3.out nq
  clear H3 HB3 HY3 hC d0 d1 d2 d3 d4 d5 q0 q1 n2 n3 hk1 hpx2 c0 c1 c2 c3 c4 c5 hg
  generalize w3.drewN nq = w4 at *
  obtain ⟨b', hob', -, hB, hzb⟩ := h4.pq HQ.out
  rw [HO.out] at hob'
  cases hob'
  obtain ⟨d0, d1, d2, d3, d4, d5⟩ := hB.cells
  obtain ⟨hi, hK⟩ := hB.k
  have hP := St.iPushQ hK (get_room h4.ok HO.out HG.out.2.2 HG.out.1) k
  have H4 : Hid (Lk w4 tb Z y B s) := h4
  clear h4 hB hK
  go_upto_region 8 with (first | (go_at_call 226; refine hP.mono ?_; clear hP; rintro e w5 ⟨rfl, hk5, hf5⟩))
  have ha := H4.out.apt HQ.out
  have hX1 : X ∉ [y.sb o, y.gb o] := by
    have h1 := HLT.out _ (.inr (.inr (.inr ⟨o, q, HQ.out, .inr (.inl rfl)⟩)))
    have h2 := HLT.out _ (.inr (.inr (.inr ⟨o, q, HQ.out, .inr (.inr rfl)⟩)))
    simp only [List.mem_cons, List.not_mem_nil, or_false, not_or]
    omega
  have z0 := hf5.cell HY4.out.1 hX1
  have z1 := hf5.cell HY4.out.2 hX1
  have hBn : B ∉ [y.sb o, y.gb o] := by
    simp only [List.mem_cons, List.not_mem_nil, or_false, not_or]
    exact ⟨ha.a.2.1.symm, ha.a.2.2.symm⟩
  have hmn : y.mh ∉ [y.sb o, y.gb o] := by
    simp only [List.mem_cons, List.not_mem_nil, or_false, not_or]
    exact ⟨ha.c.2.1.symm, ha.c.2.2.symm⟩
  have k2 := hf5.cell H4.out.cells.2.2.1 hBn
  have hm5 := H4.out.h.kept (hf5.block _ H4.out.h.lt hmn)
  obtain ⟨f, hfW⟩ := hm5.upd (by have := takes_le H4.out.tk H4.out.ok; omega) o (k : Int) HW.out HG.out.1
  have HF : Hid (∀ W : World, W.heap[y.mh]? = w5.heap[y.mh]? → HdM (f W) y.mh (s.L ++ [(o, (k : Int))]) ∧ W.grownBy (f W) (some y.mh)) := fun W hW => (hfW W hW).2
  have HF1 : ∀ W : World, W.heap[y.mh]? = w5.heap[y.mh]? → (Instr.mapUpdate 171 (.map (some y.mh)) (.int .i64 (k : Int)) (.agg #[.bool o.isr, I o.id])).run Tryz.prog W = .ok () (f W) := fun W hW => (hfW W hW).1
  clear hfW hm5 ha hX1 hBn hmn d0 d1 d2 d3 d4 d5
  have HK5 : Hid (iQ w5 (y.sb o) (y.gb o) b.own.length (max hi ((hld s.L o).length + 1)) (hld s.L o ++ [(k : Int)]) ∧ Fx [y.sb o, y.gb o] w4 w5) := ⟨hk5, hf5⟩
  clear hk5 hf5
  have hU := HF1 w5.drew rfl
  have hG := (HF.out w5.drew rfl).2
  have hX6 : X ∉ [y.mh] := by have := HLT.out _ (.inr (.inr (.inl rfl))); simp only [List.mem_singleton]; omega
  have hB6 : B ∉ [y.mh] := by simp only [List.mem_singleton]; exact H4.out.h.ne H4.out.o
  have hF6 : Fx [y.mh] w5 (f w5.drew) := (Fx.refl _ w5).grown (w' := f w5.drew) ⟨hG.os, hG.tape, hG.output, hG.size, hG.block⟩ (fun g e => by cases e; exact .inl (List.mem_singleton.2 rfl))
  have u2 := hF6.cell k2 hB6
  have u0 := hF6.cell z0 hX6
  have u1 := hF6.cell z1 hX6
  have HF6 : Hid (Fx [y.mh] w5 (f w5.drew) ∧ HdM (f w5.drew) y.mh (s.L ++ [(o, (k : Int))])) := ⟨hF6, (HF.out w5.drew rfl).1⟩
  clear HF1 HF hF6 hG hX6 hB6
  go_region_held_law (fun w' => w'.cell? ⟨B, 2, none⟩ = some (.map (some y.mh)) ∧ w'.cell? ⟨X, 0, none⟩ = some (.bool o.isr) ∧ w'.cell? ⟨X, 1, none⟩ = some (I o.id)) (first | exact ⟨k2, z0, z1⟩ | exact ⟨u2, u0, u1⟩ | (go_keep; done)) (fail)
  go_wp2
  go_ret
  obtain ⟨k5, f5⟩ := HK5.out
  obtain ⟨f6, m6⟩ := HF6.out
  have ha := H4.out.apt HQ.out
  have hs1 : y.sb o ∉ [y.mh] := by simp only [List.mem_singleton]; exact ha.c.2.1
  have hs2 : y.gb o ∉ [y.mh] := by simp only [List.mem_singleton]; exact ha.c.2.2
  have f46 : Fx [y.sb o, y.gb o, y.mh] w4 (f w5.drew) := (f5.mono (by intro x hx; simp only [List.mem_cons, List.not_mem_nil, or_false] at hx ⊢; rcases hx with h | h <;> simp [h])).trans (f6.mono (by intro x hx; simp only [List.mem_singleton] at hx; simp [hx]))
  obtain ⟨hn, hf⟩ := H4.out.turn HO.out HQ.out (L' := s.L ++ [(o, (k : Int))]) (fun x hx => by rw [hld_snoc, if_neg hx]) (ok_get H4.out.ok HO.out HG.out.2.2 HG.out.1) f46 ⟨_, by rw [hld_snoc, if_pos rfl]; exact k5.keptZ (Fz.of_fx (M := fun b => b ∈ [y.mh]) f6 (fun _ h => h)) hs1 hs2⟩ m6
  refine ⟨rfl, hn, ?_⟩
  have hb4 : Fz (y.M B) w w4 := by have h1 := HB4.out; rw [← HX.out] at h1; exact Fz.of_below h1
  exact hb4.trans hf
end
end Go.Proofs.YtglnfifdjlgbcaaGreatDoor

namespace Go.Proofs.YtglnfifdjlgbcaaGreatDoor
open Go.RowKit Go.Maps Go.Shelf Go.Sort
open Go.Proofs.YtglnfifdjlgbcaaGreatDoor.St (Fx Fz iQ iP)
set_option linter.unusedVariables false
set_option linter.unusedSimpArgs false

/-! ### Release -/
section
variable {w w' : World} {tb : Tb} {Z : Nat → Prop} {y : Ly} {B : Nat} {s : Ls}
theorem wpList_del {w : World} {ops : Array Oper} {rest : List Oper} {o : Oper} {a : Act} {Q : Exit → Act → World → Prop} (hg : o.guard = none) (m x : Operand) (hop : o.op = Op.call { callee := Callee.builtin Builtin.delete, args := #[m, x], argTypes := #[171, 3] })
    (b : Nat) (L : Tks) (hm : a.eval m = .map (some b)) (h : HdM w b L) (hnd : (L.map (·.2)).Nodup) (r : Int) (hr : (Lit.int .i64 r).wf = true) (hx : a.eval x = .int .i64 r)
    (hK : ∀ w', HdM w' b (nodR L r) → Fx [b] w w' → wpList Tryz.prog ops Q rest (a.put o.dst (.tuple #[])) w') : wpList Tryz.prog ops Q (o :: rest) a w := by
  refine wpList_plain hg fun K' hK' => ?_
  obtain ⟨w', hrun, r1, r2⟩ := h.del hnd r hr o.type
  unfold Oper.wp
  simp [execOp, hop, resolve, invoke, builtin, hm, hx, hrun, Result.andThen]
  exact hK' _ _ (hK w' r1 ((Fx.refl _ w).grown r2 (fun g e => by cases e; exact .inl (List.mem_singleton.2 rfl))))
theorem ok_nod {tb : Tb} {s : Ls} (ok : OKl tb s) (r : Int) : OKl tb ⟨nodR s.L r, s.i, s.g⟩ := by
  refine ⟨ok.nd.sublist (List.filter_sublist.map _), fun x z hx => ok.own x z (List.mem_filter.1 hx).1, ok.i, ok.g⟩
theorem own_wf {tb : Tb} (tk : OKt tb) {o : Own} {b : Ob} (hob : obs tb o = some b) {r : Int} (hr : r ∈ b.own) : (Lit.int .i64 r).wf = true := by
  obtain ⟨h0, x, hx, _⟩ := (tk.own o b hob).2 r hr
  have := (List.getElem?_eq_some_iff.1 hx).1
  have := tk.ress
  exact WalkArith.wf_i64 (by omega)
set_option maxHeartbeats 4000000 in
set_option maxRecDepth 100000 in
theorem Release_bar (h : Lk w tb Z y B s) (o : Own) (ho : o.wf) (r : Int) (hr : asks tb o r = true) (hl : (hld s.L o).getLast? ≠ some r) : Calls Tryz.prog 143 #[lp B, .agg #[.bool o.isr, I o.id], I r] w fun e w' => e = .returned (I 5) ∧ Below w.heap.size w w' := by
  have hb := below_alloc w (.cells #[.bool o.isr, I o.id] 109)
  obtain ⟨y0, y1⟩ := box_own w o
  obtain ⟨b, hob⟩ : ∃ b, obs tb o = some b := by
    unfold asks at hr
    cases hz : obs tb o with
    | none => rw [hz] at hr; simp at hr
    | some b => exact ⟨b, rfl⟩
  obtain ⟨-, q, hq, -, -⟩ := h.ps o b hob
  have hF := asker_ok (h.below hb) o ho r hr q hq
  have HL : Hid (∀ w', Below (w.alloc (.cells #[.bool o.isr, I o.id] 109)).heap.size (w.alloc (.cells #[.bool o.isr, I o.id] 109)) w' → Lk w' tb Z y B s) := fun w' hb' => (h.below hb).below hb'
  have HB : Hid (∀ w', Below (w.alloc (.cells #[.bool o.isr, I o.id] 109)).heap.size (w.alloc (.cells #[.bool o.isr, I o.id] 109)) w' → Below w.heap.size w w') := fun w' hb' => hb.trans (hb'.mono (by simp))
  have HQ : Hid (y.p o = some q) := hq
  have HO : Hid (obs tb o = some b) := hob
  have HLL : Hid ((hld s.L o).getLast? ≠ some r) := hl
  clear h hb hr hq hob hl
  go_enter Tryz.func143, Tryz.ntmps143
  go_upto_region 1 with fail
  generalize w.alloc (.cells #[.bool o.isr, I o.id] 109) = w1 at *
  go_upto_region 4 with (first | (go_at_call 231; refine hF.mono ?_; clear hF; rintro e w2 ⟨rfl, hb2⟩))
  have h2 := HL.out _ hb2
  have HB2 : Hid (Below w.heap.size w w2) := HB.out _ hb2
  clear HL HB hb2 y0 y1
  obtain ⟨b', hob', -, hB, hzb⟩ := h2.pq HQ.out
  rw [HO.out] at hob'
  cases hob'
  obtain ⟨d0, d1, d2, d3, d4, d5⟩ := hB.cells
  obtain ⟨hi, hK⟩ := hB.k
  rcases List.eq_nil_or_concat (hld s.L o) with hn | ⟨xs, x, hn⟩
  · rw [hn] at hK
    have hT := St.iTopN hK
    clear h2 hB hK hzb hn
    go_wp2_with (first | (go_at_call 119; refine hT.mono ?_; clear hT; rintro e w3 ⟨rfl, rfl⟩))
    go_ret
    exact ⟨rfl, HB2.out⟩
  · rw [List.concat_eq_append] at hn
    rw [hn] at hK
    have hT := St.iTopQ x hK
    have hne : ¬ (x = r) := fun e => HLL.out (by rw [hn, e]; simp)
    have hne2 : (x == r) = false := beq_eq_false_iff_ne.2 hne
    clear h2 hB hK hzb hn
    go_wp2_with (first | (go_at_call 119; refine hT.mono ?_; clear hT; rintro e w3 ⟨rfl, hb3⟩))
    go_ret
    exact ⟨rfl, HB2.out.trans (hb3.mono HB2.out.size)⟩
set_option maxHeartbeats 4000000 in
set_option maxRecDepth 100000 in
theorem Release_ok (h : Lk w tb Z y B s) (o : Own) (ho : o.wf) (r : Int) (hr : asks tb o r = true) (xs : List Int) (hl : hld s.L o = xs ++ [r]) : Calls Tryz.prog 143 #[lp B, .agg #[.bool o.isr, I o.id], I r] w fun e w' => e = .returned (I 0) ∧ Lk w' tb Z y B ⟨nodR s.L r, s.i, s.g⟩ ∧ Fz (y.M B) w w' := by
  have hb := below_alloc w (.cells #[.bool o.isr, I o.id] 109)
  obtain ⟨y0, y1⟩ := box_own w o
  obtain ⟨b, hob⟩ : ∃ b, obs tb o = some b := by
    unfold asks at hr
    cases hz : obs tb o with
    | none => rw [hz] at hr; simp at hr
    | some b => exact ⟨b, rfl⟩
  obtain ⟨-, q, hq, -, -⟩ := h.ps o b hob
  have hF := asker_ok (h.below hb) o ho r hr q hq
  have HL : Hid (∀ w', Below (w.alloc (.cells #[.bool o.isr, I o.id] 109)).heap.size (w.alloc (.cells #[.bool o.isr, I o.id] 109)) w' → Lk w' tb Z y B s) := fun w' hb' => (h.below hb).below hb'
  have HB : Hid (∀ w', Below (w.alloc (.cells #[.bool o.isr, I o.id] 109)).heap.size (w.alloc (.cells #[.bool o.isr, I o.id] 109)) w' → Below w.heap.size w w') := fun w' hb' => hb.trans (hb'.mono (by simp))
  have HQ : Hid (y.p o = some q) := hq
  have HO : Hid (obs tb o = some b) := hob
  have HLL : Hid (hld s.L o = xs ++ [r]) := hl
  clear h hb hr hq hob hl
  go_enter Tryz.func143, Tryz.ntmps143
  go_upto_region 1 with fail
  generalize w.alloc (.cells #[.bool o.isr, I o.id] 109) = w1 at *
  go_upto_region 4 with (first | (go_at_call 231; refine hF.mono ?_; clear hF; rintro e w2 ⟨rfl, hb2⟩))
  have h2 := HL.out _ hb2
  have HB2 : Hid (Below w.heap.size w w2) := HB.out _ hb2
  clear HL HB hb2 y0 y1
  have HLK : Hid (Lk w2 tb Z y B s) := h2
  obtain ⟨b', hob', -, hB, hzb⟩ := h2.pq HQ.out
  rw [HO.out] at hob'
  cases hob'
  obtain ⟨d0, d1, d2, d3, d4, d5⟩ := hB.cells
  obtain ⟨hi, hK⟩ := hB.k
  rw [HLL.out] at hK
  have hT := St.iTopQ r hK
  clear h2 hB hK hzb
  go_upto_region 7 with (first | (go_at_call 119; refine hT.mono ?_; clear hT; rintro e w3 ⟨rfl, hb3⟩))
  have h3 := HLK.out.below hb3
  have HB3 : Hid (Below w.heap.size w w3) := HB2.out.trans (hb3.mono HB2.out.size)
  have H3 : Hid (Lk w3 tb Z y B s) := h3
  clear d0 d1 d2 d3 d4 d5 hb3 HB2 HLK
  obtain ⟨b', hob', -, hB, hzb⟩ := h3.pq HQ.out
  rw [HO.out] at hob'
  cases hob'
  obtain ⟨d0, d1, d2, d3, d4, d5⟩ := hB.cells
  obtain ⟨hi, hK⟩ := hB.k
  rw [HLL.out] at hK
  have hP := St.iPopQ r hK
  clear h3 hB hK hzb
  go_upto_region 8 with (first | (go_at_call 121; refine hP.mono ?_; clear hP; rintro e w4 ⟨rfl, hk4, hf4⟩))
  have ha := H3.out.apt HQ.out
  have hBn : B ∉ [y.sb o, y.gb o] := by
    simp only [List.mem_cons, List.not_mem_nil, or_false, not_or]
    exact ⟨ha.a.2.1.symm, ha.a.2.2.symm⟩
  have hmn : y.mh ∉ [y.sb o, y.gb o] := by
    simp only [List.mem_cons, List.not_mem_nil, or_false, not_or]
    exact ⟨ha.c.2.1.symm, ha.c.2.2.symm⟩
  have k2 := hf4.cell H3.out.cells.2.2.1 hBn
  have hm4 := H3.out.h.kept (hf4.block _ H3.out.h.lt hmn)
  have hnd := H3.out.ok.nd
  have hrm : (Lit.int .i64 r).wf = true := by
    obtain ⟨b', hb', hr'⟩ := H3.out.ok.own o r (mem_hld.1 (by rw [HLL.out]; simp))
    exact own_wf H3.out.tk hb' hr'
  have HK4 : Hid (iQ w4 (y.sb o) (y.gb o) b.own.length hi xs ∧ Fx [y.sb o, y.gb o] w3 w4) := ⟨hk4, hf4⟩
  clear hk4 hf4 ha hBn hmn d0 d1 d2 d3 d4 d5
  go_wp2_with (first | (at_delete; refine wpList_del rfl (.tmp 44) (.tmp 45) rfl y.mh s.L rfl hm4 hnd r hrm rfl ?_; clear hm4 hnd hrm k2; intro w5 hm5 hf5))
  go_ret
  obtain ⟨k4, f4⟩ := HK4.out
  have ha := H3.out.apt HQ.out
  have hs1 : y.sb o ∉ [y.mh] := by simp only [List.mem_singleton]; exact ha.c.2.1
  have hs2 : y.gb o ∉ [y.mh] := by simp only [List.mem_singleton]; exact ha.c.2.2
  have f35 : Fx [y.sb o, y.gb o, y.mh] w3 w5 := (f4.mono (by intro x hx; simp only [List.mem_cons, List.not_mem_nil, or_false] at hx ⊢; rcases hx with h | h <;> simp [h])).trans (hf5.mono (by intro x hx; simp only [List.mem_singleton] at hx; simp [hx]))
  have hnx := hld_nodup H3.out.ok.nd o
  have hxs : hld (nodR s.L r) o = xs := by
    rw [hld_nod, HLL.out, List.filter_append]
    rw [HLL.out, List.nodup_append] at hnx
    have h1 : xs.filter (fun y => decide (y ≠ r)) = xs := List.filter_eq_self.2 (fun z hz => by simp only [decide_eq_true_eq]; exact hnx.2.2 z hz r (by simp))
    rw [h1]
    simp
  obtain ⟨hn, hf⟩ := H3.out.turn HO.out HQ.out (L' := nodR s.L r) (fun x hx => by
    rw [hld_nod]
    refine List.filter_eq_self.2 (fun z hz => ?_)
    simp only [decide_eq_true_eq]
    rintro rfl
    have h1 := hdr_mem H3.out.ok.nd (mem_hld.1 hz)
    have h2 := hdr_mem H3.out.ok.nd (mem_hld.1 (show z ∈ hld s.L o by rw [HLL.out]; simp))
    rw [h1] at h2
    exact hx (by injection h2)) (ok_nod H3.out.ok r) f35 ⟨_, by rw [hxs]; exact k4.keptZ (Fz.of_fx (M := fun b => b ∈ [y.mh]) hf5 (fun _ h => h)) hs1 hs2⟩ hm5
  exact ⟨rfl, hn, (Fz.of_below HB3.out).trans hf⟩
end
end Go.Proofs.YtglnfifdjlgbcaaGreatDoor

namespace Go.Proofs.YtglnfifdjlgbcaaGreatDoor
open Go.RowKit Go.Maps Go.Shelf Go.Sort
open Go.Proofs.YtglnfifdjlgbcaaGreatDoor.St (Fx Fz iQ iP iV)
set_option linter.unusedVariables false
set_option linter.unusedSimpArgs false

/-! ### Drop -/
def nodS (L : Tks) (D : List Int) : Tks := L.filter fun t => decide (t.2 ∉ D)
def nodO (L : Tks) (o : Own) : Tks := L.filter fun t => decide (t.1 ≠ o)
theorem nodS_nil (L : Tks) : nodS L [] = L := List.filter_eq_self.2 (fun x _ => by simp)
theorem nodS_snoc (L : Tks) (D : List Int) (r : Int) : nodR (nodS L D) r = nodS L (D ++ [r]) := by
  unfold nodR nodS
  rw [List.filter_filter]
  apply List.filter_congr
  intro t _
  simp [not_or, Bool.and_comm]
theorem nodS_own {L : Tks} (hn : (L.map (·.2)).Nodup) (o : Own) : nodS L (hld L o).reverse = nodO L o := by
  unfold nodS nodO
  apply List.filter_congr
  intro t ht
  have : t.2 ∈ (hld L o).reverse ↔ t.1 = o := by
    rw [List.mem_reverse, mem_hld]
    constructor
    · intro h
      have h1 := hdr_mem hn h
      have h2 := hdr_mem hn (show (t.1, t.2) ∈ L from ht)
      rw [h1] at h2
      injection h2 with h2
      exact h2.symm
    · rintro rfl
      exact ht
  simp [this]
theorem hld_nodO (L : Tks) (o x : Own) : hld (nodO L o) x = if x = o then [] else hld L x := by
  unfold hld nodO
  rw [List.filter_filter]
  by_cases e : x = o
  · rw [if_pos e]
    have : L.filter (fun t => decide (t.1 = x) && decide (t.1 ≠ o)) = [] := List.filter_eq_nil_iff.2 (fun t _ => by simp [e])
    rw [this]
    rfl
  · rw [if_neg e]
    congr 1
    apply List.filter_congr
    intro t _
    by_cases h : t.1 = x
    · simp [h, e]
    · simp [h]
theorem ok_nodO {tb : Tb} {s : Ls} (ok : OKl tb s) (o : Own) : OKl tb ⟨nodO s.L o, s.i, s.g⟩ := by
  refine ⟨ok.nd.sublist (List.filter_sublist.map _), fun x z hx => ok.own x z (List.mem_filter.1 hx).1, ok.i, ok.g⟩
theorem row_at {w : World} {b e n X cap : Nat} {xs : List Value} (h : w.ownsRow b e 1 (.slice (some ⟨X, 0, none⟩) n cap) n xs) : b ≤ X ∧ X < w.heap.size ∧ n ≤ cap ∧ cap ≤ maxLen ∧ ∀ j v, xs[j]? = some v → w.cell? ⟨X, j, none⟩ = some v := by
  obtain ⟨hl, ⟨h1, _⟩ | ⟨g, cap', cur, hv, hb, hh, h1, h2, h3, h4⟩⟩ := h
  · cases h1
  · cases hv
    refine ⟨hb, heap_lt hh, h1, h2, fun j v hj => ?_⟩
    rw [cell_of_row w _ j _ _ (0, 0) hh, ← Array.getElem?_toList]
    have hlt := (List.getElem?_eq_some_iff.1 hj).1
    rw [← h4] at hj hlt
    rw [List.length_take] at hlt
    rw [List.getElem?_take_of_lt (by omega)] at hj
    exact hj
section
variable {w w' : World} {tb : Tb} {Z : Nat → Prop} {y : Ly} {B : Nat} {s : Ls}
theorem Lk.wfr (h : Lk w tb Z y B s) {o : Own} {r : Int} (hr : r ∈ hld s.L o) : (Lit.int .i64 r).wf = true := by
  obtain ⟨b, hb, hr⟩ := h.ok.own o r (mem_hld.1 hr)
  exact own_wf h.tk hb hr
set_option maxHeartbeats 4000000 in
set_option maxRecDepth 100000 in
theorem Drop_none (h : Lk w tb Z y B s) (o : Own) (ho : o.wf) (hl : hld s.L o = []) : Calls Tryz.prog 144 #[lp B, .agg #[.bool o.isr, I o.id]] w fun e w' => e = .returned (.tuple #[I (-1), .bool false]) ∧ Below w.heap.size w w' := by
  have hb := below_alloc w (.cells #[.bool o.isr, I o.id] 109)
  obtain ⟨y0, y1⟩ := box_own w o
  have h1 := h.below hb
  have hF := find_any h1 o ho
  have HL : Hid (∀ w', Below (w.alloc (.cells #[.bool o.isr, I o.id] 109)).heap.size (w.alloc (.cells #[.bool o.isr, I o.id] 109)) w' → Lk w' tb Z y B s) := fun w' hb' => h1.below hb'
  have HB : Hid (∀ w', Below (w.alloc (.cells #[.bool o.isr, I o.id] 109)).heap.size (w.alloc (.cells #[.bool o.isr, I o.id] 109)) w' → Below w.heap.size w w') := fun w' hb' => hb.trans (hb'.mono (by simp))
  have HLL : Hid (hld s.L o = []) := hl
  clear h h1 hb hl
  go_enter Tryz.func144, Tryz.ntmps144
  go_upto_region 1 with fail
  generalize w.alloc (.cells #[.bool o.isr, I o.id] 109) = w1 at *
  go_upto_region 2 with (first | (go_at_call 219; refine hF.mono ?_; clear hF; rintro e w2 ⟨rfl, hb2⟩))
  have h2 := HL.out _ hb2
  have HB2 : Hid (Below w.heap.size w w2) := HB.out _ hb2
  clear HL HB hb2 y0 y1
  cases hp : y.p o with
  | none =>
    simp only [opV, Option.isSome_none]
    clear h2 hp
    go_wp2
    go_ret2
    exact ⟨rfl, HB2.out⟩
  | some q =>
    simp only [opV, Option.isSome_some]
    obtain ⟨b, -, -, hB, -⟩ := h2.pq hp
    obtain ⟨d0, d1, d2, d3, d4, d5⟩ := hB.cells
    obtain ⟨hi, hK⟩ := hB.k
    rw [HLL.out] at hK
    have hT := St.iLenQ hK
    simp only [List.length_nil, Int.ofNat_zero] at hT
    clear h2 hB hK hp
    go_wp2_with (first | (go_at_call 49; refine hT.mono ?_; clear hT; rintro e w3 ⟨rfl, rfl⟩))
    go_ret2
    exact ⟨rfl, HB2.out⟩
set_option maxHeartbeats 4000000 in
set_option maxRecDepth 100000 in
theorem Drop_ok (h : Lk w tb Z y B s) (o : Own) (ho : o.wf) (xs : List Int) (r : Int) (hl : hld s.L o = xs ++ [r]) : Calls Tryz.prog 144 #[lp B, .agg #[.bool o.isr, I o.id]] w fun e w' => e = .returned (.tuple #[I r, .bool true]) ∧ Lk w' tb Z y B ⟨nodO s.L o, s.i, s.g⟩ ∧ Fz (y.M B) w w' := by
  have hb := below_alloc w (.cells #[.bool o.isr, I o.id] 109)
  obtain ⟨y0, y1⟩ := box_own w o
  have h1 := h.below hb
  have hF := find_any h1 o ho
  obtain ⟨b, hob, -⟩ := h.ok.own o r (mem_hld.1 (by rw [hl]; simp))
  obtain ⟨-, q, hq, -, -⟩ := h.ps o b hob
  rw [hq] at hF
  have HL : Hid (∀ w', Below (w.alloc (.cells #[.bool o.isr, I o.id] 109)).heap.size (w.alloc (.cells #[.bool o.isr, I o.id] 109)) w' → Lk w' tb Z y B s) := fun w' hb' => h1.below hb'
  have HB : Hid (∀ w', Below (w.alloc (.cells #[.bool o.isr, I o.id] 109)).heap.size (w.alloc (.cells #[.bool o.isr, I o.id] 109)) w' → Below w.heap.size w w') := fun w' hb' => hb.trans (hb'.mono (by simp))
  have HLL : Hid (hld s.L o = xs ++ [r]) := hl
  have HQ : Hid (y.p o = some q) := hq
  have HO : Hid (obs tb o = some b) := hob
  clear h h1 hb hl hq hob
  go_enter Tryz.func144, Tryz.ntmps144
  go_upto_region 1 with fail
  generalize w.alloc (.cells #[.bool o.isr, I o.id] 109) = w1 at *
  go_upto_region 2 with (first | (go_at_call 219; refine hF.mono ?_; clear hF; rintro e w2 ⟨rfl, hb2⟩))
  have h2 := HL.out _ hb2
  have HB2 : Hid (Below w.heap.size w w2) := HB.out _ hb2
  have H2 : Hid (Lk w2 tb Z y B s) := h2
  clear HL HB hb2 y0 y1
  simp only [opV, Option.isSome_some]
  obtain ⟨b', hob', -, hB, -⟩ := h2.pq HQ.out
  rw [HO.out] at hob'
  cases hob'
  obtain ⟨d0, d1, d2, d3, d4, d5⟩ := hB.cells
  obtain ⟨hi, hK⟩ := hB.k
  have hT := St.iLenQ hK
  have hCt := St.iCutQ hK 0 (Nat.zero_le _)
  simp only [Nat.sub_zero, List.drop_zero, List.take_zero, Int.ofNat_zero] at hCt
  have hlen : ¬ (((hld s.L o).length : Int) = 0) := by rw [HLL.out]; simp; omega
  have hlen2 : (((hld s.L o).length : Int) == 0) = false := beq_eq_false_iff_ne.2 hlen
  clear h2 hB hK
  go_upto_region 5 with (first | (go_at_call 49; refine hT.mono ?_; clear hT; rintro e w3 ⟨rfl, rfl⟩) | (go_at_call 92; refine hCt.mono ?_; clear hCt; rintro e w3 ⟨X, cap, rfl, hO3, hk3, hf3⟩))
  have ha := H2.out.apt HQ.out
  have hBn : B ∉ [y.sb o, y.gb o] := by
    simp only [List.mem_cons, List.not_mem_nil, or_false, not_or]
    exact ⟨ha.a.2.1.symm, ha.a.2.2.symm⟩
  have hmn : y.mh ∉ [y.sb o, y.gb o] := by
    simp only [List.mem_cons, List.not_mem_nil, or_false, not_or]
    exact ⟨ha.c.2.1.symm, ha.c.2.2.symm⟩
  have k2 := hf3.cell H2.out.cells.2.2.1 hBn
  have hm3 := H2.out.h.kept (hf3.block _ H2.out.h.lt hmn)
  obtain ⟨r1, r2, r3, r4, r5⟩ := row_at hO3
  unfold maxLen at r4
  have hXm : X ≠ y.mh := by have := H2.out.h.lt; omega
  have HR : Hid (∀ j z, (hld s.L o).reverse[j]? = some z → w3.cell? ⟨X, j, none⟩ = some (I z)) := fun j z hj => r5 j _ (by show (List.map _ _)[j]? = _; rw [List.getElem?_map, hj]; rfl)
  have HK3 : Hid (iQ w3 (y.sb o) (y.gb o) b.own.length hi [] ∧ Fx [y.sb o, y.gb o] w2 w3) := ⟨hk3, hf3⟩
  have HI : Hid (HdM w3 y.mh (nodS s.L ((hld s.L o).reverse.take 0)) ∧ Fx [y.mh] w3 w3) := ⟨by rw [List.take_zero, nodS_nil]; exact hm3, Fx.refl _ _⟩
  have HK2 : Hid (w3.cell? ⟨B, 2, none⟩ = some (.map (some y.mh)) ∧ B ≠ y.mh ∧ X ≠ y.mh) := ⟨k2, H2.out.h.ne H2.out.o, hXm⟩
  generalize hN : (hld s.L o).length = N at *
  have HN : Hid ((hld s.L o).length = N) := hN
  clear hk3 hf3 ha hBn hmn d0 d1 d2 d3 d4 d5 hm3 r1 r2 r5 hO3 hXm k2 hlen hlen2 hN
  go_wp2
  go_loopw [11, 38] (fun _ v38 wr => ∃ k : Nat, k ≤ N ∧ v38 = I k ∧ Hid (HdM wr y.mh (nodS s.L ((hld s.L o).reverse.take k)) ∧ Fx [y.mh] w3 wr)) (fun _ v38 _ => N - (intOf v38).toNat)
  case atStart => exact ⟨0, by omega, rfl, HI.out⟩
  case round =>
    clear HI
    obtain ⟨k, hk, rfl, HJ⟩ := hrel
    by_cases hlt : k < N
    · have hltI : (k : Int) < N := by omega
      obtain ⟨x, hx⟩ : ∃ x, (hld s.L o).reverse[k]? = some x := ⟨_, List.getElem?_eq_getElem (by rw [List.length_reverse, HN.out]; exact hlt)⟩
      have q0 := HJ.out.2.cell (HR.out k x hx) (by simp only [List.mem_singleton]; exact HK2.out.2.2)
      have k2 := HJ.out.2.cell HK2.out.1 (by simp only [List.mem_singleton]; exact HK2.out.2.1)
      have hm4 := HJ.out.1
      have hnd : ((nodS s.L ((hld s.L o).reverse.take k)).map (·.2)).Nodup := H2.out.ok.nd.sublist (List.filter_sublist.map _)
      have hrm : (Lit.int .i64 x).wf = true := H2.out.wfr (List.mem_reverse.1 (List.mem_of_getElem? hx))
      have HX : Hid ((hld s.L o).reverse[k]? = some x) := hx
      clear hx
      go_wp2_with (first | (at_delete; refine wpList_del rfl (.tmp 45) (.tmp 46) rfl y.mh _ rfl hm4 hnd x hrm rfl ?_; clear hm4 hnd hrm k2 q0; intro w5 hm5 hf5))
      go_roundw
      case rel => exact ⟨k + 1, by omega, by go_num, by rw [List.take_add_one, HX.out, Option.toList_some, ← nodS_snoc]; exact hm5, HJ.out.2.trans hf5⟩
      case measure => simp [intOf]; omega
    · have hkN : k = N := by omega
      subst hkN
      have hbr : ¬ ((k : Int) < k) := by omega
      obtain ⟨hm4, hf4⟩ := HJ.out
      have q0 := hf4.cell (HR.out 0 r (by rw [HLL.out]; simp)) (by simp only [List.mem_singleton]; exact HK2.out.2.2)
      have hkp : (0 : Int) < k := by have := HN.out; rw [HLL.out] at this; simp at this; omega
      have HJ2 : Hid (HdM wr y.mh (nodO s.L o) ∧ Fx [y.mh] w3 wr) := ⟨by rw [List.take_of_length_le (by rw [List.length_reverse, HN.out]; exact Nat.le_refl _), nodS_own H2.out.ok.nd] at hm4; exact hm4, hf4⟩
      clear hm4 hf4 HJ hlt
      go_wp2
      go_ret2
      obtain ⟨m5, f5⟩ := HJ2.out
      obtain ⟨k3, f3⟩ := HK3.out
      have ha := H2.out.apt HQ.out
      have hs1 : y.sb o ∉ [y.mh] := by simp only [List.mem_singleton]; exact ha.c.2.1
      have hs2 : y.gb o ∉ [y.mh] := by simp only [List.mem_singleton]; exact ha.c.2.2
      have f25 : Fx [y.sb o, y.gb o, y.mh] w2 wr := (f3.mono (by intro x hx; simp only [List.mem_cons, List.not_mem_nil, or_false] at hx ⊢; rcases hx with h | h <;> simp [h])).trans (f5.mono (by intro x hx; simp only [List.mem_singleton] at hx; simp [hx]))
      obtain ⟨hn, hf⟩ := H2.out.turn HO.out HQ.out (L' := nodO s.L o) (fun x hx => by rw [hld_nodO, if_neg hx]) (ok_nodO H2.out.ok o) f25 ⟨_, by rw [hld_nodO, if_pos rfl]; exact k3.keptZ (Fz.of_fx (M := fun b => b ∈ [y.mh]) f5 (fun _ h => h)) hs1 hs2⟩ m5
      exact ⟨rfl, hn, (Fz.of_below HB2.out).trans hf⟩
end
end Go.Proofs.YtglnfifdjlgbcaaGreatDoor

namespace Go.Proofs.YtglnfifdjlgbcaaGreatDoor
open Go.RowKit Go.Maps Go.Shelf Go.Sort
open Go.Proofs.YtglnfifdjlgbcaaGreatDoor.St (Fx Fz iQ iP iV)
set_option linter.unusedVariables false
set_option linter.unusedSimpArgs false

attribute [local go_sem] Oper.semAt_some

/-! ### Collect, Reverse, Held -/
theorem iinfo9 : (Tryz.prog.info? 3).map (fun i => (i.zero, i.size, i.bytes)) = some (some (.int .i64 0), 1, 8) := by kernel_rfl
theorem cell_one9 (w : World) (v : Value) (t : TypeId) : ∀ (j : Nat) (u : Value), [v][j]? = some u → (w.alloc (.cells #[v] t)).cell? ((⟨w.heap.size, 0, none⟩ : Addr).add j) = some u := by
  intro j u hu
  match j, hu with
  | 0, hu => cases hu; rw [St.addr_add]; rw [cell_of_row _ _ _ _ _ (0, 0) (heap_alloc_new w _)]; rfl
abbrev seqV (Bn : Nat) : Value := .func (.func 172) #[] #[.pointer (some ⟨Bn, 0, none⟩)]
set_option maxRecDepth 100000 in
set_option maxHeartbeats 4000000 in
theorem appendSeq_any (w : World) (Bn B g m hi : Nat) (xs : List Int) (hBn : w.cell? ⟨Bn, 0, none⟩ = some (iP B)) (hL : iQ w B g m hi xs.reverse) : Calls Tryz.prog 269 #[.slice none 0 0, seqV Bn] w fun e w' => ∃ v, e = .returned v ∧ w'.ownsRow w.heap.size 3 1 v xs.length (iV xs) ∧ Below w.heap.size w w' := by
  obtain ⟨i0, hi0, hz0, hz1, hz2⟩ := info_parts iinfo9
  have hse := St.seq_some
  have hxl : xs.length ≤ 65536 := by have h1 := hL.le; have h2 := hL.m; rw [List.length_reverse] at h1; omega
  have hBl : Bn < w.heap.size := World.block_lt_of_cell? w _ hBn
  have hw0 : Bn < (w.alloc (.cells #[.slice none 0 0] 31)).heap.size := by simp; omega
  have hB0 := below_alloc w (.cells #[.slice none 0 0] 31)
  have hBn2 : (w.alloc (.cells #[.slice none 0 0] 31)).cell? ⟨Bn, 0, none⟩ = some (iP B) := (cell_below hB0 _ _ hBl).trans hBn
  refine (callsIn_wide (n := 3)).1 ?_
  refine callsIn_of_wp_marks Tryz.func269 rfl trivial ?_ rfl
  simp only [Tryz.ntmps269, List.size_toArray, List.length_cons, List.length_nil, Nat.reduceAdd, Nat.reduceSub, Array.replicate_succ, Array.replicate_zero, List.push_toArray, List.append_toArray, List.nil_append, List.cons_append]
  gi_wp2
  have bO2 := Boxed.new w 31 (.slice none 0 0)
  refine wpIn_rangeFunc_ownG rfl (by omega) (gf := 172) (lb := #[.pointer (some ⟨Bn, 0, none⟩)]) rfl trivial (enters_of Tryz.func172 (by kernel_rfl) rfl)
    (St.All_stops (3 - 1) (by omega) Bn (St.Mbox w.heap.size) xs B g m hi _ hw0 hBn2 (hL.below hB0) (fun W' b hb hm => by
      rcases hm with e | ⟨u, hu, e⟩
      · simp; omega
      · rw [hb.cell (p := ⟨w.heap.size, 0, none⟩) (by simp), bO2.cell] at hu
        cases hu
        cases e)) St.Kq.trans (St.Kq.put (fun W l o b hl hm => by
      have hne : w.heap.size ≠ l := by simp at hl; omega
      rcases hm with e | ⟨u, hu, e⟩
      · exact .inl e
      · exact .inr ⟨u, by rw [← hu]; exact (World.cell?_of_block (World.putObj_heap_other hne)).symm, e⟩)) (Below.refl _ _) (fun _ => rfl)
    (fun pre W => (∃ v, Boxed W w.heap.size 31 v ∧ W.ownsRow w.heap.size 3 1 v pre.length (iV pre) ∧ True) ∧ Below w.heap.size w W)
    (fun _ _ _ => False)
    (OwnFrom.and (Own.from (holdsRow_own w.heap.size w.heap.size 31 3 1 (fun pre => List.length pre) (fun pre => iV pre) (fun pre v => True)) _) (ownFrom_below (Nat.le_refl _) (by simp)))
    (fun _ _ _ _ _ hs _ _ => hs)
    ⟨⟨_, bO2, World.ownsRow_nil _ _ _ _, trivial⟩, hB0⟩
    (fun x => { tmps := #[.slice none 0 0, seqV Bn, .pointer (some ⟨w.heap.size, 0, none⟩), undef, .slice none 0 0, .int .i64 x, seqV Bn, .int .i64 x, undef, undef, undef, undef, undef], defers := [] }) ?assign ?body ?done ?stop
  case assign =>
    intro l x W K hK
    gi_wp2
    exact hK
  case body =>
    rintro l pre x W ⟨⟨v, hv, hrow, _⟩, hB⟩ hlt
    have hc := hv.cell
    gi_wp2_with (gi_at_builtin; refine wpListIn_append_own_at _ rfl _ _ 31 rfl w.heap.size 3 i0 (.int .i64 0) 1 8 Tryz.underlying31 hi0 hz0 hz1 hz2 rfl (by decide) _ _ _ rfl (hrow.alloc _) ⟨W.heap.size, 0, none⟩ 1 1 [.int .i64 x] rfl rfl (cell_one9 _ _ _) (by simp [Value.oneCell']) (by unfold maxLen; omega) (by omega) (by have := hB.size; simp; omega) ?_; intro v' w1 hown' hgrow _ hat; obtain ⟨g', cap', rfl⟩ := ownsRow_succ hown'; obtain ⟨hv1, hv2, hr2, hk2, hb2⟩ := hv.appended (by decide) hrow hB.size (Nat.le_refl _) hown' hgrow; have hc1 := hv1.cell; have hf1 := hv1.frozen; have hKq := St.Mbox.app hv hv2 hgrow hat)
    exact ⟨hk2.from _, hKq, ⟨_, hv2, by simpa [iV] using hr2, trivial⟩, hB.trans hb2⟩
  case done =>
    rintro D ys W hD rfl ⟨⟨v, hv, hrow, _⟩, hB⟩ hK
    have hc := hv.cell
    gi_wp2
    refine ⟨by simp, .inl ⟨_, _, rfl, run_takeDeferred hK, ?_⟩⟩
    exact ⟨_, results_tmp rfl _ _ _, v, rfl, ownsRow_putObj hrow _ hK rfl, hB.trans (belowK_b (w := w) (Nat.le_refl _) W D _ _ (by simp at hD; omega) hK rfl rfl)⟩
  case stop =>
    rintro D c pre W _ _ h _
    exact h.elim
set_option maxRecDepth 100000 in
theorem collect_any (w : World) (Bn B g m hi : Nat) (xs : List Int) (hBn : w.cell? ⟨Bn, 0, none⟩ = some (iP B)) (hL : iQ w B g m hi xs.reverse) : Calls Tryz.prog 233 #[seqV Bn] w fun e w' => ∃ v, e = .returned v ∧ w'.ownsRow w.heap.size 3 1 v xs.length (iV xs) ∧ Below w.heap.size w w' := by
  have hA := appendSeq_any w Bn B g m hi xs hBn hL
  clear hBn hL
  go_enter Tryz.func233, Tryz.ntmps233
  go_wp2_with (first | (go_at_call 269; refine hA.mono ?_; clear hA; rintro e w1 ⟨v, rfl, hO, hb⟩))
  go_ret
  exact ⟨v, rfl, hO, hb⟩
end Go.Proofs.YtglnfifdjlgbcaaGreatDoor

