import Derived.Test.YtmllocfeflhjoaaGreatQdz
import Derived.Test.YtmllocfeflhjoaaGreatXQu
import Derived.Deep.CutBlock
import Derived.Deep.CutRange
import Derived.Test.YtmllocfeflhjoaaGreatRows
import Derived.ProofKit
import Derived.OpenShut
import Derived.ShutString
import Derived.ChangeOld
import Derived.SizedLaws
import Derived.Test.YtmllocfeflhjoaaGreatXQy
namespace Go.Proofs.YtmllocfeflhjoaaGreat
open Go.RowKit Go.Maps Go.Shelf Go.Sort
open Go.Proofs.YtmllocfeflhjoaaGreat.St (Fx Fz iQ iP iV)
set_option linter.unusedVariables false
set_option linter.unusedSimpArgs false
set_option maxRecDepth 100000
set_option maxHeartbeats 16000000
theorem ozV_get (q : Option Own) : ozV q = .agg #[.bool (q.getD ⟨false, 0⟩).isr, I (q.getD ⟨false, 0⟩).id] := by
  cases q <;> rfl
theorem call_at {w : World} {sc : Sl} {l : List Cl} (h : RowsAt w 8 clP sc l) {k : Nat} {x : Cl} (hx : l[k]? = some x) : ∃ g off, sc.a = some ⟨g, off, none⟩ ∧ g < w.heap.size ∧ w.cell? ⟨g, off + k * 8, none⟩ = some (I x.kind) ∧ w.cell? ⟨g, off + k * 8 + 1, none⟩ = some (.bool x.o.isr) ∧ w.cell? ⟨g, off + k * 8 + 2, none⟩ = some (I x.o.id) ∧ w.cell? ⟨g, off + k * 8 + 3, none⟩ = some (I x.n) ∧ w.cell? ⟨g, off + k * 8 + 4, none⟩ = some (.bool x.all) ∧ w.cell? ⟨g, off + k * 8 + 5, none⟩ = some (.bool x.g.shut) ∧ w.cell? ⟨g, off + k * 8 + 6, none⟩ = some (I x.g.all) ∧ w.cell? ⟨g, off + k * 8 + 7, none⟩ = some (I x.g.os) ∧ x.o.wf ∧ (Lit.int .i64 x.n).wf = true := by
  obtain ⟨g, off, e, hg, hr⟩ := h.row k x hx
  obtain ⟨u0, a0, b0, b8, b9⟩ := hr 0 (by omega)
  obtain ⟨u1, a1, b1, -⟩ := hr 1 (by omega)
  obtain ⟨u2, a2, b2, -⟩ := hr 2 (by omega)
  obtain ⟨u3, a3, b3, -⟩ := hr 3 (by omega)
  obtain ⟨u4, a4, b4, -⟩ := hr 4 (by omega)
  obtain ⟨u5, a5, b5, -⟩ := hr 5 (by omega)
  obtain ⟨u6, a6, b6, -⟩ := hr 6 (by omega)
  obtain ⟨u7, a7, b7, -⟩ := hr 7 (by omega)
  have c0 : u0 = I x.kind := b0
  have c1 : u1 = .bool x.o.isr := b1
  have c2 : u2 = I x.o.id := b2
  have c3 : u3 = I x.n := b3
  have c4 : u4 = .bool x.all := b4
  have c5 : u5 = .bool x.g.shut := b5
  have c6 : u6 = I x.g.all := b6
  have c7 : u7 = I x.g.os := b7
  subst c0 c1 c2 c3 c4 c5 c6 c7
  exact ⟨g, off, e, hg, a0, a1, a2, a3, a4, a5, a6, a7, b8, b9⟩
abbrev clA (x : Cl) : Array Value := #[I x.kind, .bool x.o.isr, I x.o.id, I x.n, .bool x.all, .bool x.g.shut, I x.g.all, I x.g.os]
/-- The cells of a call's box. -/
theorem call_box {w : World} {Q : Nat} {x : Cl} (h : w.heap[Q]? = some (.cells (clA x) 51)) : w.cell? ⟨Q, 0, none⟩ = some (I x.kind) ∧ w.cell? ⟨Q, 1, none⟩ = some (.bool x.o.isr) ∧ w.cell? ⟨Q, 2, none⟩ = some (I x.o.id) ∧ w.cell? ⟨Q, 3, none⟩ = some (I x.n) ∧ w.cell? ⟨Q, 4, none⟩ = some (.bool x.all) ∧ w.cell? ⟨Q, 5, none⟩ = some (.bool x.g.shut) ∧ w.cell? ⟨Q, 6, none⟩ = some (I x.g.all) ∧ w.cell? ⟨Q, 7, none⟩ = some (I x.g.os) := by
  have a1 := fun i => cell_of_row _ _ i _ _ (0, 0) h
  exact ⟨a1 0, a1 1, a1 2, a1 3, a1 4, a1 5, a1 6, a1 7⟩
section
variable {w w' : World} {tb : Tb} {Z : Nat → Prop} {y : Ly} {B : Nat} {s : Ls}
theorem Get_some (h : Lk w tb Z y B s) (o : Own) (ho : o.wf) (r : Int) (hw : (Lit.int .i64 r).wf = true) : Calls Tryz.prog 11 #[lp B, .agg #[.bool o.isr, I o.id], I r] w fun e w' => (∃ v, e = .returned (I v)) ∧ (∃ s', Lk w' tb Z y B s') ∧ Fz (y.M B) w w' := by
  cases hr : asks tb o r with
  | false => exact (Get_no h o ho r hr).mono (fun e w' k => ⟨⟨_, k.1⟩, ⟨s, h.below k.2⟩, Fz.of_below k.2⟩)
  | true =>
    cases hg : gets tb s o r with
    | false => exact (Get_bar h o ho r hw hr hg).mono (fun e w' k => ⟨⟨_, k.1⟩, ⟨s, h.below k.2⟩, Fz.of_below k.2⟩)
    | true => exact (Get_ok h o ho r hw hr hg).mono (fun e w' k => ⟨⟨_, k.1⟩, ⟨_, k.2.1⟩, k.2.2⟩)
theorem Enter_some (h : Lk w tb Z y B s) (i : Int) (hi : (tkO i).wf) : Calls Tryz.prog 12 #[lp B, I i] w fun e w' => (∃ v, e = .returned (I v)) ∧ (∃ s', Lk w' tb Z y B s') ∧ Fz (y.M B) w w' := by
  cases hob : obs tb (tkO i) with
  | none => exact (Enter_no h i hi hob).mono (fun e w' k => ⟨⟨_, k.1⟩, ⟨s, h.below k.2⟩, Fz.of_below k.2⟩)
  | some b => exact (Enter_ok h i hi b hob).mono (fun e w' k => ⟨⟨_, k.1⟩, ⟨_, k.2.1⟩, k.2.2⟩)
end
section
variable {W w w' : World} {tb : Tb} {v : Ts} {Z : Nat → Prop} {y : Ly} {B P : Nat} {a b : Value} {s t : Ss}
theorem Bt.hok (h : Bt W w tb v Z y B P a b s t) (o : Own) : ∀ r ∈ hld s.L o, 0 ≤ r ∧ ∃ x, tb.ress[r.toNat]? = some x := fun r hr => by
  obtain ⟨q, hq, hm⟩ := h.k.ok.own o r (mem_hld.1 hr)
  obtain ⟨h0, x, hx, -⟩ := (h.k.tk.own o q hq).2 r hm
  exact ⟨h0, x, hx⟩
theorem dPrio (h : Bt W w tb v Z y B P a b s s) (o : Own) : Calls Tryz.prog 53 #[lp P, .agg #[.bool o.isr, I o.id]] w fun e w' => e = .returned (I (prioO tb s.p o)) ∧ Below w.heap.size w w' := by
  unfold prioO
  cases ho : obs tb o with
  | none => exact dPriority_no h.d o ho
  | some q => exact dPriority_ok h.d o ho (h.hok o)
theorem Bt.tl (h : Bt W w tb v Z y B P a b s s) (o : Own) (ho : o.wf) (n : Int) (hn : (Lit.int .i64 n).wf = true) : Tl w B P o n (hld s.L o) ((hdr s.L n).getD ⟨false, 0⟩) (hdr s.L n).isSome (prioO tb s.p o) (hasI s.i n) (takesB tb s.p n) s.g := by
  refine ⟨fun Z' hb => Held_any (h.below hb).k o ho, fun Z' hb => dHeld (h.below hb).d o, fun Z' hb => ?_, fun Z' hb => ?_, fun Z' hb => Priority_any (h.below hb).k o ho, fun Z' hb => dPrio (h.below hb) o, fun Z' hb => ?_, fun Z' hb => ?_, fun Z' hb => Takes_any (h.below hb).k n hn, fun Z' hb => ?_, fun Z' hb => Gate_any (h.below hb).k, fun Z' hb => ?_, ?_⟩
  · have := Holder_any (h.below hb).k n hn
    rw [ozV_get] at this
    exact this
  · have := dHolder (h.below hb).d n
    rw [ozV_get] at this
    exact this
  · have := Has_any (h.below hb).k n hn
    rw [show s.p.i (tkO n) = hasI s.i n by simp [Ss.p, fI]] at this
    exact this
  · exact (dHas (h.below hb).d n).mono (fun e w' k => ⟨k.1, by rw [← k.2]; exact Below.refl _ _⟩)
  · exact (dTakes (h.below hb).d h.k.ok.g (fI s.i) n).mono (fun e w' k => ⟨k.1, by rw [← k.2]; exact Below.refl _ _⟩)
  · obtain ⟨-, -, -, -, -, c15, c16, c17⟩ := (h.below hb).d.cells
    exact ⟨c15, c16, c17⟩
  · unfold hld
    rw [List.length_map]
    exact Nat.le_trans (List.length_filter_le _ _) h.d.m
/-- a copy of both, apart from the old ones -/
theorem Bt.copied (h : Bt W w tb v Z y B P a b s s) {w1 w2 : World} {B' C : Nat} {Z' : Nat → Prop} {y' : Ly} {a' b' : Value} (k1 : Lk w1 tb Z' y' B' s.p) (b1 : Below w.heap.size w w1) (m1 : ∀ x, y'.M B' x → w.heap.size ≤ x) (z1 : ∀ x, Z' x → (Z x ∨ w.heap.size ≤ x) ∧ x < w1.heap.size) (d2 : Dl W w2 tb v C a' b' s.L s.i s.g) (m2 : ∀ x, Dm C a' b' x → w1.heap.size ≤ x) (b2 : Below w1.heap.size w1 w2) : Bt W w2 tb v Z' y' B' C a' b' s s := by
  have hW := h.d.lo.size
  have hs1 := b1.size
  have hs2 := b2.size
  refine ⟨k1.below b2, d2, ?_, fun x hx => by have := (z1 x hx).2; omega, ?_⟩
  · rintro x (e | e)
    · have := m1 x e; omega
    · rcases (z1 x e).1 with e2 | e2
      · exact h.lo x (.inr e2)
      · omega
  · rintro x (e | e) hd
    · have := k1.lts e; have := m2 x hd; omega
    · have := (z1 x e).2; have := m2 x hd; omega
/-- what the old lock writes is none of the copy's -/
theorem Bt.apart (h : Bt W w tb v Z y B P a b s s) {w1 : World} {B' C : Nat} {Z' : Nat → Prop} {y' : Ly} {a' b' : Value} (b1 : Below w.heap.size w w1) (m1 : ∀ x, y'.M B' x → w.heap.size ≤ x) (z1 : ∀ x, Z' x → (Z x ∨ w.heap.size ≤ x) ∧ x < w1.heap.size) (m2 : ∀ x, Dm C a' b' x → w1.heap.size ≤ x) : ∀ x, y.M B x → W.heap.size ≤ x ∧ ¬ y'.M B' x ∧ ¬ Z' x ∧ ¬ Dm C a' b' x := fun x hx => by
  have h1 := h.k.lts hx
  have h2 := b1.size
  refine ⟨h.lo x (.inl hx), fun e => by have := m1 x e; omega, fun e => ?_, fun e => by have := m2 x e; omega⟩
  rcases (z1 x e).1 with e2 | e2
  · exact h.k.z x e2 hx
  · omega
end
theorem plays_bar (w : World) (tb : Tb) (v : Ts) (ht : TbAt w tb v) (hw : WfT tb) (u : Value) (hc : chkP tb = false) (hd : chkD tb = false) : Calls Tryz.prog 4 #[.agg (tbC tb v), u] w fun e w' => e = .returned (.bool true) ∧ Below w.heap.size w w' := by
  have hb0 := below_alloc w (.cells (tbC tb v) 42)
  have hV := heap_alloc_new w (.cells (tbC tb v) 42)
  have hN := New_no _ tb v (ht.below hb0) hw hc
  have hH := heads_any
  have HT : Hid (∀ w', Below (w.alloc (.cells (tbC tb v) 42)).heap.size (w.alloc (.cells (tbC tb v) 42)) w' → Below w.heap.size w w' ∧ TbAt w' tb v ∧ w'.heap[w.heap.size]? = some (.cells (tbC tb v) 42)) := fun w' hb => ⟨hb0.trans (hb.mono hb0.size), (ht.below hb0).below hb, (hb.block _ (heap_lt hV)).trans hV⟩
  have hD := fun w' (h : TbAt w' tb v) => dNew_no w' tb v h hd
  have hV13 := fun (w' : World) h => var13 (w := w') (tb := tb) (v := v) (b := w.heap.size) h
  obtain ⟨c0, c1, c2, c3, c4, c5, c6, c7, c8, c9, c10, c11, c12⟩ := var13 hV
  clear ht hb0 hV hw hc hd
  unfold tbC at *
  go_enter Tryz.func4, Tryz.ntmps4
  go_upto_region 1 with fail
  generalize w.alloc (.cells #[I tb.uses, I tb.modes, .slice v.t.a v.t.n v.t.c, .slice v.g.a v.g.n v.g.c, .slice v.r.a v.r.n v.r.c, .slice v.k.a v.k.n v.k.c, .slice v.a.a v.a.n v.a.c, .slice v.i.a v.i.n v.i.c, .slice v.s.a v.s.n v.s.c, I tb.depth, I tb.frames, I tb.errors, I tb.calls] 42) = w1 at *
  go_upto_region 2 with (first | (go_at_call 7; refine hN.mono ?_; clear hN; rintro e w2 ⟨rfl, hb2⟩))
  obtain ⟨bw, ht, hV⟩ := HT.out _ hb2
  clear c0 c1 c2 c3 c4 c5 c6 c7 c8 c9 c10 c11 c12
  obtain ⟨c0, c1, c2, c3, c4, c5, c6, c7, c8, c9, c10, c11, c12⟩ := hV13 _ hV
  have hD2 := hD _ ht
  have HB : Hid (Below w.heap.size w w2) := bw
  clear ht hV bw hb2 hD hV13
  go_wp2_with (first
    | (go_at_call 8; refine hD2.mono ?_; clear hD2; rintro e w3 ⟨rfl, hb3⟩; have HB3 : Hid (Below w.heap.size w w3) := HB.out.trans (hb3.mono HB.out.size); clear hb3)
    | (go_at_call 6; refine (hH _).mono ?_; clear hH; rintro e w4 ⟨rfl, hb4⟩; have HB4 : Hid (Below w.heap.size w w4) := HB3.out.trans (hb4.mono HB3.out.size); clear hb4))
  go_ret
  exact ⟨rfl, HB4.out⟩
end Go.Proofs.YtmllocfeflhjoaaGreat

namespace Go.Proofs.YtmllocfeflhjoaaGreat
open Go.RowKit Go.Maps Go.Shelf Go.Sort
open Go.Proofs.YtmllocfeflhjoaaGreat.St (Fx Fz iQ iP iV)
set_option linter.unusedVariables false
set_option linter.unusedSimpArgs false
set_option maxRecDepth 100000
set_option maxHeartbeats 16000000
theorem plays_law (w : World) (tb : Tb) (v : Ts) (ht : TbAt w tb v) (hw : WfT tb) (hcs : chkP tb = chkD tb) (sc : Sl) (l : List Cl) (hl : RowsAt w 8 clP sc l) : Calls Tryz.prog 4 #[.agg (tbC tb v), .slice sc.a sc.n sc.c] w fun e w' => e = .returned (.bool true) ∧ Below w.heap.size w w' := by
  cases hc : chkP tb with
  | false => exact plays_bar w tb v ht hw _ hc (by rw [← hcs]; exact hc)
  | true =>
  have hd : chkD tb = true := by rw [← hcs]; exact hc
  have hb0 := below_alloc w (.cells (tbC tb v) 42)
  have hV := heap_alloc_new w (.cells (tbC tb v) 42)
  have hN := New_ok _ tb v (ht.below hb0) hw hc
  have hH := heads_any
  have ok := okt_of hc
  have HT : Hid (∀ w', Below (w.alloc (.cells (tbC tb v) 42)).heap.size (w.alloc (.cells (tbC tb v) 42)) w' → Below w.heap.size w w' ∧ TbAt w' tb v ∧ w'.heap[w.heap.size]? = some (.cells (tbC tb v) 42)) := fun w' hb => ⟨hb0.trans (hb.mono hb0.size), (ht.below hb0).below hb, (hb.block _ (heap_lt hV)).trans hV⟩
  have hD := fun w' (h : TbAt w' tb v) (hb : Below w.heap.size w w') => dNew_ok w' tb v h hd ok ht hb
  have hV13 := fun (w' : World) h => var13 (w := w') (tb := tb) (v := v) (b := w.heap.size) h
  obtain ⟨c0, c1, c2, c3, c4, c5, c6, c7, c8, c9, c10, c11, c12⟩ := var13 hV
  have HR : Hid (∀ w', Below w.heap.size w w' → RowsAt w' 8 clP sc l) := fun w' hb => hl.below hb (fun _ _ _ _ h => h)
  have HNN : Hid (sc.n = l.length) := hl.n
  have hsn : sc.n ≤ 9223372036854775807 := by have h1 := hl.c; have h2 : sc.c ≤ maxLen := hl.m; unfold maxLen at h2; omega
  have HS0 : Hid (w.heap.size ≤ (w.alloc (.cells (tbC tb v) 42)).heap.size) := hb0.size
  clear ht hb0 hV hw hc hd hl ok hcs
  unfold tbC at *
  go_enter Tryz.func4, Tryz.ntmps4
  go_upto_region 1 with fail
  generalize w.alloc (.cells #[I tb.uses, I tb.modes, .slice v.t.a v.t.n v.t.c, .slice v.g.a v.g.n v.g.c, .slice v.r.a v.r.n v.r.c, .slice v.k.a v.k.n v.k.c, .slice v.a.a v.a.n v.a.c, .slice v.i.a v.i.n v.i.c, .slice v.s.a v.s.n v.s.c, I tb.depth, I tb.frames, I tb.errors, I tb.calls] 42) = w1 at *
  go_upto_region 2 with (first | (go_at_call 7; refine hN.mono ?_; clear hN; rintro e w2 ⟨B, Z, y, rfl, hl2, hb2, hM, hZ⟩))
  obtain ⟨bw, ht, hV⟩ := HT.out _ hb2
  clear c0 c1 c2 c3 c4 c5 c6 c7 c8 c9 c10 c11 c12
  obtain ⟨c0, c1, c2, c3, c4, c5, c6, c7, c8, c9, c10, c11, c12⟩ := hV13 _ hV
  have hD2 := hD _ ht bw
  have HB : Hid (Below w.heap.size w w2 ∧ Lk w2 tb Z y B zeroL ∧ (∀ b, y.M B b → w1.heap.size ≤ b) ∧ (∀ b, Z b → w1.heap.size ≤ b ∧ b < w2.heap.size)) := ⟨bw, hl2, hM, hZ⟩
  clear ht hV bw hb2 hD hV13 hl2 hM hZ HT
  go_upto_region 7 with (first
    | (go_at_call 8; refine hD2.mono ?_; clear hD2 c0 c1 c2 c3 c4 c5 c6 c7 c8 c9 c10 c11 c12; rintro e w3 ⟨P, b, rfl, d3, m3, b3⟩; have HB3 : Hid (Bt w w3 tb v Z y B P (.slice none 0 0) b (rstS tb) (rstS tb)) := (by
        obtain ⟨f1, f2, f3, f4⟩ := HB.out
        have g1 := HS0.out
        have g2 := b3.size
        refine ⟨?_, d3, ?_, fun x hx => by have := (f4 x hx).2; omega, ?_⟩
        · have f5 : Lk w3 tb Z y B zeroL := f2.below b3
          unfold Ss.p rstS
          rw [fI_none]
          exact f5
        · rintro x (e | e)
          · have := f3 x e; omega
          · have := (f4 x e).1; omega
        · rintro x (e | e) hx
          · have := f2.lts e; have := m3 x hx; omega
          · have := (f4 x e).2; have := m3 x hx; omega); clear d3 m3 b3)
    | (go_at_call 6; refine (hH _).mono ?_; clear hH; rintro e w4 ⟨rfl, hb4⟩; have HI : Hid (Bt w w4 tb v Z y B P (.slice none 0 0) b (rstS tb) (rstS tb)) := HB3.out.below hb4; clear hb4 HB3 HB))
  go_wp2
  go_loopw [5, 7, 9, 10, 11, 12, 13] (fun v5 v7 v9 _ _ _ _ wr => ∃ (k B P : Nat), k ≤ sc.n ∧ v5 = lp B ∧ v7 = lp P ∧ v9 = I k ∧ Hid (∃ Z y a b s, Bt w wr tb v Z y B P a b s s)) (fun _ _ v9 _ _ _ _ _ => sc.n - (intOf v9).toNat)
  case atStart => exact ⟨0, B, P, by omega, rfl, rfl, rfl, _, _, _, _, _, HI.out⟩
  case round =>
    clear HI
    obtain ⟨k, B, P, hk, rfl, rfl, rfl, HJ⟩ := hrel
    by_cases hlt : k < sc.n
    · have hltI : (k : Int) < sc.n := by omega
      obtain ⟨Z, y, a, b, s, hJ⟩ := HJ.out
      obtain ⟨x, hx⟩ : ∃ x, l[k]? = some x := ⟨_, List.getElem?_eq_getElem (by rw [← HNN.out]; exact hlt)⟩
      obtain ⟨g, off, f1, f2, q0, q1, q2, q3, q4, q5, q6, q7, hwo, hwn⟩ := call_at (HR.out _ hJ.d.lo) hx
      rw [f1]
      have hV2 := heap_alloc_new wr (.cells (clA x) 51)
      have HJ2 : Hid (Bt w (wr.alloc (.cells (clA x) 51)) tb v Z y B P a b s s ∧ (wr.alloc (.cells (clA x) 51)).heap[wr.heap.size]? = some (.cells (clA x) 51) ∧ ¬ Nb y B P a b wr.heap.size) := ⟨hJ.below (below_alloc _ _), hV2, fun e => by have := hJ.X e; omega⟩
      have HW : Hid (x.o.wf ∧ (Lit.int .i64 x.n).wf = true) := ⟨hwo, hwn⟩
      clear HJ hJ hx hV2 hwo hwn f1
      go_upto_region 11 with fail
      clear q0 q1 q2 q3 q4 q5 q6 q7
      unfold clA at HJ2
      generalize (wr.alloc (.cells #[I x.kind, .bool x.o.isr, I x.o.id, I x.n, .bool x.all, .bool x.g.shut, I x.g.all, I x.g.os] 51)) = w4 at *
      generalize wr.heap.size = Q at *
      obtain ⟨p0, p1, p2, p3, p4, p5, p6, p7⟩ := call_box (x := x) HJ2.out.2.1
      go_upto_if 52 with fail
      go_cut [5, 7] from 40 to 86 (fun s5 s7 wz => ∃ B' P', s5 = lp B' ∧ s7 = lp P' ∧ Hid (∃ Z y a b s, Bt w wz tb v Z y B' P' a b s s ∧ wz.heap[Q]? = some (.cells #[I x.kind, .bool x.o.isr, I x.o.id, I x.n, .bool x.all, .bool x.g.shut, I x.g.all, I x.g.os] 51) ∧ ¬ Nb y B' P' a b Q))
      case first =>
        by_cases k12 : x.kind = 12
        · have kb : (x.kind == 12) = true := beq_iff_eq.2 k12
          clear k12
          have hC := Copy_any HJ2.out.1.k HJ2.out.1.zl
          go_wp2_with (first
            | (go_at_call 9; refine hC.mono ?_; clear hC; rintro e w5 ⟨B', Z', y', rfl, k1, b1, m1, z1⟩; have hDc := dCopy (HJ2.out.1.below b1).d; have H5 : Hid (Lk w5 tb Z' y' B' s.p ∧ Below w4.heap.size w4 w5 ∧ (∀ x, y'.M B' x → w4.heap.size ≤ x) ∧ (∀ x, Z' x → (Z x ∨ w4.heap.size ≤ x) ∧ x < w5.heap.size)) := ⟨k1, b1, m1, z1⟩; clear k1 b1 m1 z1)
            | (go_at_call 10; refine hDc.mono ?_; clear hDc; rintro e w6 ⟨C, a', b', rfl, d2, m2, b2⟩; have hQ := heap_lt HJ2.out.2.1; have H6 : Hid (Bt w w6 tb v Z' y' B' C a' b' s s ∧ (∀ x, y.M B x → w.heap.size ≤ x ∧ ¬ y'.M B' x ∧ ¬ Z' x ∧ ¬ Dm C a' b' x) ∧ Lk w6 tb Z y B s.p ∧ w6.heap[Q]? = some (.cells #[I x.kind, .bool x.o.isr, I x.o.id, I x.n, .bool x.all, .bool x.g.shut, I x.g.all, I x.g.os] 51) ∧ ¬ y.M B Q ∧ ¬ Nb y' B' C a' b' Q) := (by
                obtain ⟨k1, b1, m1, z1⟩ := H5.out
                have b12 := b1.trans (b2.mono b1.size)
                refine ⟨HJ2.out.1.copied k1 b1 m1 z1 d2 m2 b2, HJ2.out.1.apart b1 m1 z1 m2, HJ2.out.1.k.below b12, (b12.block _ hQ).trans HJ2.out.2.1, fun e => HJ2.out.2.2 (.inl e), ?_⟩
                rintro (e | e)
                · have := m1 _ e; omega
                · have := m2 _ e; have := b1.size; omega); obtain ⟨p0, p1, p2, p3, p4, p5, p6, p7⟩ := call_box (x := x) H6.out.2.2.2.1; have hG := Get_some H6.out.2.2.1 x.o HW.out.1 x.n HW.out.2; clear d2 m2 b2 hQ H5)
            | (go_at_call 11; refine hG.mono ?_; clear hG p0 p1 p2 p3 p4 p5 p6 p7; rintro e w7 ⟨⟨vv, rfl⟩, ⟨s7, k7⟩, f7⟩; have H7 : Hid (Bt w w7 tb v Z' y' B' C a' b' s s ∧ w7.heap[Q]? = some (.cells #[I x.kind, .bool x.o.isr, I x.o.id, I x.n, .bool x.all, .bool x.g.shut, I x.g.all, I x.g.os] 51) ∧ Lk w7 tb Z y B s7) := ⟨H6.out.1.keptN f7 H6.out.2.1, f7.heap H6.out.2.2.2.1 H6.out.2.2.2.2.1, k7⟩; obtain ⟨p0, p1, p2, p3, p4, p5, p6, p7⟩ := call_box (x := x) H7.out.2.1; have hE := Enter_some k7 x.n HW.out.2; clear k7 f7)
            | (go_at_call 12; refine hE.mono ?_; clear hE p0 p1 p2 p3 p4 p5 p6 p7; rintro e w8 ⟨⟨vv, rfl⟩, ⟨s8, k8⟩, f8⟩; have H8 : Hid (Bt w w8 tb v Z' y' B' C a' b' s s ∧ w8.heap[Q]? = some (.cells #[I x.kind, .bool x.o.isr, I x.o.id, I x.n, .bool x.all, .bool x.g.shut, I x.g.all, I x.g.os] 51)) := ⟨H7.out.1.keptN f8 H6.out.2.1, f8.heap H7.out.2.1 H6.out.2.2.2.2.1⟩; have hO := Close_any k8; clear k8 f8)
            | (go_at_call 13; refine hO.mono ?_; clear hO; rintro e w9 ⟨rfl, -, f9⟩; have H9 : Hid (Bt w w9 tb v Z' y' B' C a' b' s s ∧ w9.heap[Q]? = some (.cells #[I x.kind, .bool x.o.isr, I x.o.id, I x.n, .bool x.all, .bool x.g.shut, I x.g.all, I x.g.os] 51)) := ⟨H8.out.1.keptN f9 H6.out.2.1, f9.heap H8.out.2 H6.out.2.2.2.2.1⟩; clear f9))
          go_meet
          case rel => exact ⟨B', C, rfl, rfl, Z', y', a', b', s, H9.out.1, H9.out.2, H6.out.2.2.2.2.2⟩
        · have kb : (x.kind == 12) = false := beq_eq_false_iff_ne.2 k12
          clear p1 p2 p3 p4 p5 p6 p7
          go_wp2
          go_meet
          case rel => exact ⟨B, P, rfl, rfl, Z, y, a, b, s, HJ2.out⟩
      obtain ⟨B', P', rfl, rfl, HC⟩ := hcut
      clear p0 p1 p2 p3 p4 p5 p6 p7 HJ2
      obtain ⟨Z5, y5, a5, b5, s5, h5, hV5, hNQ⟩ := HC.out
      obtain ⟨p0, p1, p2, p3, p4, p5, p6, p7⟩ := call_box (x := x) hV5
      have hDo := does_any h5 x HW.out.1 HW.out.2
      have H5 : Hid (wc.heap[Q]? = some (.cells #[I x.kind, .bool x.o.isr, I x.o.id, I x.n, .bool x.all, .bool x.g.shut, I x.g.all, I x.g.os] 51) ∧ ¬ Nb y5 B' P' a5 b5 Q) := ⟨hV5, hNQ⟩
      clear HC h5 hV5 hNQ
      go_wp2_with (first
        | (go_at_call 14; refine hDo.mono ?_; clear hDo p0 p1 p2 p3 p4 p5 p6 p7; rintro e w6 ⟨rfl, ⟨a6, b6, s6, k6⟩, f6⟩; obtain ⟨p0, p1, p2, p3, p4, p5, p6, p7⟩ := call_box (x := x) (f6.heap H5.out.1 H5.out.2); have hTe := tells_gen (k6.tl x.o HW.out.1 x.n HW.out.2); have H6 : Hid (Bt w w6 tb v Z5 y5 B' P' a6 b6 s6 s6) := k6; clear k6 f6)
        | (go_at_call 15; refine hTe.mono ?_; clear hTe; rintro e w7 ⟨rfl, b7⟩; have H7 : Hid (Bt w w7 tb v Z5 y5 B' P' a6 b6 s6 s6) := H6.out.below b7; clear b7))
      go_roundw
      case rel => exact ⟨k + 1, B', P', by omega, rfl, rfl, by go_num, _, _, _, _, _, H7.out⟩
      case measure => simp [intOf]; omega
    · obtain rfl : k = sc.n := by omega
      have hge : ¬ ((sc.n : Int) < sc.n) := by omega
      go_wp2
      go_ret
      obtain ⟨Z, y, a, b, s, hJ⟩ := HJ.out
      exact ⟨rfl, hJ.d.lo⟩
theorem plays_any (w : World) (tb : Tb) (v : Ts) (ht : TbAt w tb v) (hw : WfT tb) (sc : Sl) (l : List Cl) (hl : RowsAt w 8 clP sc l) : Calls Tryz.prog 4 #[.agg (tbC tb v), .slice sc.a sc.n sc.c] w fun e w' => e = .returned (.bool true) ∧ Below w.heap.size w w' := plays_law w tb v ht hw (chk_same (fun x hx => (hw.s x hx).1)) sc l hl
end Go.Proofs.YtmllocfeflhjoaaGreat

namespace Go.Proofs.YtmllocfeflhjoaaGreat
open Go.ChangeShapes Go.WideShapes Go.ChangeAt Go.RowKit
set_option linter.unusedVariables false

theorem ownQec : ownKnob Tryz.prog.godebug = none := by kernel_rfl
theorem laidOutQec : laidOutB Tryz.prog = true := by kernel_rfl
set_option maxRecDepth 100000 in
theorem lockPlays_lifted (os : Os) (started : os.Started) (H : Type) (enc : TypeId × Value → H) :
    ReturnsInHanded {} Tryz.checked os 4 .any (Rows.lockPlaysSpec.pre6 enc Tryz.prog Tryz.f4 Rows.lockPlaysRow.domain false) (Rows.lockPlaysSpec.post enc Tryz.prog Tryz.f4 false true false false) := by
  refine returnsInHanded_of_change_sized (C := Tryz.checked) ownQec started (by kernel_rfl) Tryz.func4
    (ChangeSpec.witness6 (enc := enc) (C := Tryz.checked) false ⟨#[], #[.agg #[.int .i64 0, .int .i64 0, .slice none 0 0, .slice none 0 0, .slice none 0 0, .slice none 0 0, .slice none 0 0, .slice none 0 0, .slice none 0 0, .int .i64 0, .int .i64 0, .int .i64 0, .int .i64 0], .slice none 0 0], []⟩ 8 (by kernel_rfl) (by kernel_rfl) (by kernel_rfl) (by kernel_rfl)) ?_
  intro W base args ds gs before hval0 hW hcnd hsz0 _
  have hval : ∀ (j : Nat) t v, Tryz.f4.params[j]? = some t → args[j]? = some v → Value.okWide Tryz.prog W .any base t v := hval0
  have hsz : (DataW.weightsEach Tryz.prog (Tryz.f4.params.toList ++ Rows.lockPlaysSpec.plain.varTypes Tryz.prog) (ds ++ gs)).all (· ≤ reachBytes) = true := hsz0
  have hW' := hW
  obtain ⟨p, q, hA0, hV, rfl, hfz, hnd⟩ := hW
  have hA : DataW.TrodAll enc Tryz.prog W 0 (fun _ => true) true Tryz.f4.params.toList args.toList ds p := hA0
  rw [Tryz.params4] at hA hval hsz
  obtain ⟨v0, vs0, d0, ds0, p0, q0, hargs, rfl, rfl, h0, r0⟩ := trodAll_cons hA
  obtain ⟨v1, vs1, d1, ds1, p1, q1, rfl, rfl, rfl, h1, r1⟩ := trodAll_cons r0
  obtain ⟨rfl, rfl, rfl⟩ := trodAll_nil r1
  obtain rfl : args = #[v0, v1] := by cases args; simp_all
  obtain ⟨rfl, rfl⟩ := trodVars_none hV
  have k0 := h0
  have lt0 : ∀ x ∈ p0, x.block < W.heap.size := by obtain ⟨m, hm⟩ := k0; exact DataW.trod_lt m _ _ _ hm
  obtain ⟨tb0, tv0, rfl, ht0, hw0⟩ := tables_open (hval 0 42 v0 rfl rfl) h0
  have k1 := h1
  have lt1 : ∀ x ∈ p1, x.block < W.heap.size := by obtain ⟨m, hm⟩ := k1; exact DataW.trod_lt m _ _ _ hm
  have z1 : Sized (d1.weights Tryz.prog 43) := fun n hn => sized_of_all hsz n (DataW.weights_mem_each (j := 1) rfl rfl n hn)
  obtain ⟨aa1, nn1, cc1, rfl⟩ := okWide_slice Tryz.underlying43 (hval 1 43 v1 rfl rfl)
  obtain ⟨fu1, hfu1⟩ := h1
  obtain ⟨⟨sa1, sn1, sc1⟩, l1, e1, hr1, hz1⟩ := rows_open ⟨⟨0, ⟨false, 0⟩, 0, false, ⟨false, 0, 0⟩⟩⟩ (by omega) Tryz.underlying43 p_call hfu1 one_call
  cases e1
  have hzz1 := hz1 z1
  rw [show Tryz.prog.bytesOf 51 = 64 by kernel_rfl] at hzz1
  unfold reachBytes at hzz1
  clear hA0 hval0
  refine (plays_any W tb0 tv0 ht0 hw0 ⟨sa1, sn1, sc1⟩ l1 hr1).mono fun e W' ⟨he, bel⟩ => ?_
  subst he
  exact ⟨_, rfl, _, _, _, [], _, [], hW', trodAll_mk1 (shut_bool Tryz.underlying4 _), (trodAll_cons_mk (Below.trod laidOutQec (by kernel_rfl) (of_decide_eq_true (by kernel_rfl)) k0 bel lt0) (trodAll_cons_mk (Below.trod laidOutQec (by kernel_rfl) (of_decide_eq_true (by kernel_rfl)) k1 bel lt1) trodAll_mk0)), rfl, bel.frame _, fun h => by cases h⟩
theorem lockPlays_over : Rows.lockPlaysRow.holds Tryz.pinned (OpenSpec.ofChange Rows.lockPlaysSpec) :=
  OpenClaim.holds_of_wide 4 Tryz.f4 rfl rfl rfl rfl rfl rfl rfl ⟨rfl, rfl, rfl, rfl, rfl⟩ rfl rfl rfl rfl rfl (by kernel_rfl) Tryz.func4 (by kernel_rfl)
    (of_decide_eq_true (by kernel_rfl)) (by unfold Func.isWrapper; first | (rw [if_pos (by decide +kernel)]; kernel_rfl) | (rw [if_neg (by decide +kernel)]; exact ⟨rfl, rfl⟩))
    (fun os started H enc _ => lockPlays_lifted os started H enc)
theorem lockPlays_holds : Rows.LockPlaysSaid := lockPlays_over
#print axioms lockPlays_holds
end Go.Proofs.YtmllocfeflhjoaaGreat

