import Derived.Test.YtmllocfeflhjoaaGreatQdy
namespace Go.Proofs.YtmllocfeflhjoaaGreat
open Go.RowKit Go.Maps Go.Shelf Go.Sort
open Go.Proofs.YtmllocfeflhjoaaGreat.St (Fx Fz iQ iP iV)
set_option linter.unusedVariables false
set_option linter.unusedSimpArgs false
set_option maxRecDepth 100000
set_option maxHeartbeats 8000000
section
variable {W w w' : World} {tb : Tb} {v : Ts} {Z : Nat → Prop} {y : Ly} {B P : Nat} {a b : Value} {s t : Ss}
theorem does_3 (h : Bt W w tb v Z y B P a b s s) (x : Cl) (ho : x.o.wf) (hn : (Lit.int .i64 x.n).wf = true) : Calls Tryz.prog 14 #[lp B, lp P, .agg #[I 3, .bool x.o.isr, I x.o.id, I x.n, .bool x.all, .bool x.g.shut, I x.g.all, I x.g.os]] w (DzQ W w tb v Z y B P a b) := by
  have hb := below_alloc w (.cells #[I 3, .bool x.o.isr, I x.o.id, I x.n, .bool x.all, .bool x.g.shut, I x.g.all, I x.g.os] 51)
  have hV := heap_alloc_new w (.cells #[I 3, .bool x.o.isr, I x.o.id, I x.n, .bool x.all, .bool x.g.shut, I x.g.all, I x.g.os] 51)
  have h1 := h.below hb
  have HF : Hid (Fz (Nb y B P a b) w (w.alloc (.cells #[I 3, .bool x.o.isr, I x.o.id, I x.n, .bool x.all, .bool x.g.shut, I x.g.all, I x.g.os] 51))) := Fz.of_below hb
  have HX : Hid (¬ Nb y B P a b w.heap.size) := fun e => by have := h.X e; omega
  obtain ⟨ho1, hn1⟩ : Hid x.o.wf ∧ Hid ((Lit.int .i64 x.n).wf = true) := ⟨ho, hn⟩
  have hl : Hid (s.i.length = tb.tasks.length) := h.d.n
  have hnd : Hid ((s.L.map (·.2)).Nodup) := h.k.ok.nd
  have cc := fun j => cell_of_row _ _ j _ _ (0, 0) hV
  have hp : (w.alloc (.cells #[I 3, .bool x.o.isr, I x.o.id, I x.n, .bool x.all, .bool x.g.shut, I x.g.all, I x.g.os] 51)).cell? ⟨w.heap.size, 0, none⟩ = some (I 3) ∧ (w.alloc (.cells #[I 3, .bool x.o.isr, I x.o.id, I x.n, .bool x.all, .bool x.g.shut, I x.g.all, I x.g.os] 51)).cell? ⟨w.heap.size, 1, none⟩ = some (.bool x.o.isr) ∧ (w.alloc (.cells #[I 3, .bool x.o.isr, I x.o.id, I x.n, .bool x.all, .bool x.g.shut, I x.g.all, I x.g.os] 51)).cell? ⟨w.heap.size, 2, none⟩ = some (I x.o.id) ∧ (w.alloc (.cells #[I 3, .bool x.o.isr, I x.o.id, I x.n, .bool x.all, .bool x.g.shut, I x.g.all, I x.g.os] 51)).cell? ⟨w.heap.size, 3, none⟩ = some (I x.n) ∧ (w.alloc (.cells #[I 3, .bool x.o.isr, I x.o.id, I x.n, .bool x.all, .bool x.g.shut, I x.g.all, I x.g.os] 51)).cell? ⟨w.heap.size, 4, none⟩ = some (.bool x.all) ∧ (w.alloc (.cells #[I 3, .bool x.o.isr, I x.o.id, I x.n, .bool x.all, .bool x.g.shut, I x.g.all, I x.g.os] 51)).cell? ⟨w.heap.size, 5, none⟩ = some (.bool x.g.shut) ∧ (w.alloc (.cells #[I 3, .bool x.o.isr, I x.o.id, I x.n, .bool x.all, .bool x.g.shut, I x.g.all, I x.g.os] 51)).cell? ⟨w.heap.size, 6, none⟩ = some (I x.g.all) ∧ (w.alloc (.cells #[I 3, .bool x.o.isr, I x.o.id, I x.n, .bool x.all, .bool x.g.shut, I x.g.all, I x.g.os] 51)).cell? ⟨w.heap.size, 7, none⟩ = some (I x.g.os) := ⟨cc 0, cc 1, cc 2, cc 3, cc 4, cc 5, cc 6, cc 7⟩
  obtain ⟨p0, p1, p2, p3, p4, p5, p6, p7⟩ := hp
  clear h hb hV cc ho hn
  unfold DzQ
  go_enter Tryz.func14, Tryz.ntmps14
  go_upto_region 1 with fail
  generalize w.alloc (.cells #[I 3, .bool x.o.isr, I x.o.id, I x.n, .bool x.all, .bool x.g.shut, I x.g.all, I x.g.os] 51) = w1 at *
  generalize w.heap.size = X at *
  have hST : Hid (∀ W', Fz (Nb y B P a b) w1 W' → W'.cell? ⟨X, 0, none⟩ = some (I 3) ∧ W'.cell? ⟨X, 1, none⟩ = some (.bool x.o.isr) ∧ W'.cell? ⟨X, 2, none⟩ = some (I x.o.id) ∧ W'.cell? ⟨X, 3, none⟩ = some (I x.n) ∧ W'.cell? ⟨X, 4, none⟩ = some (.bool x.all) ∧ W'.cell? ⟨X, 5, none⟩ = some (.bool x.g.shut) ∧ W'.cell? ⟨X, 6, none⟩ = some (I x.g.all) ∧ W'.cell? ⟨X, 7, none⟩ = some (I x.g.os)) := fun W' hf => ⟨hf.cell p0 HX.out, hf.cell p1 HX.out, hf.cell p2 HX.out, hf.cell p3 HX.out, hf.cell p4 HX.out, hf.cell p5 HX.out, hf.cell p6 HX.out, hf.cell p7 HX.out⟩
  have H1 : Hid (Bt W w1 tb v Z y B P a b s s) := h1
  clear h1
  have hG : Calls Tryz.prog 17 #[lp B, .agg #[.bool x.o.isr, I x.o.id]] w1 fun e w' => e = .returned (.tuple #[I (drA s x.o), .bool (drK s x.o)]) ∧ Bt W w' tb v Z y B P a b (drS s x.o) s ∧ Fz (Nb y B P a b) w1 w' := (pDrop H1.out x.o ho1.out).mono (fun e w' k => PrQ.up (Below.refl _ _) k)
  have hD : ∀ W2, Bt W W2 tb v Z y B P a b (drS s x.o) s → Fz (Nb y B P a b) w1 W2 → Calls Tryz.prog 45 #[lp P, .agg #[.bool x.o.isr, I x.o.id]] W2 fun e w' => e = .returned (.tuple #[I (drA s x.o), .bool (drK s x.o)]) ∧ (∃ a' b', Bt W w' tb v Z y B P a' b' (drS s x.o) (drS s x.o)) ∧ Fz (Nb y B P a b) w1 w' := fun W2 hk hf => (dDrop hk x.o rfl).mono (fun e w' k => DoQ.up hf (Below.refl _ _) k)
  generalize drA s x.o = A at *
  generalize drK s x.o = Ab at *
  go_wp2_with (first
    | (go_at_call 17; refine hG.mono ?_; clear hG p0 p1 p2 p3 p4 p5 p6 p7; rintro e w2 ⟨rfl, k2, f2⟩; obtain ⟨p0, p1, p2, p3, p4, p5, p6, p7⟩ := hST.out w2 f2; have hD2 := hD w2 k2 f2; clear hD k2 f2)
    | (go_at_call 45; refine hD2.mono ?_; clear hD2; rintro e w3 ⟨rfl, k3, f3⟩; have HK : Hid ((∃ a' b', Bt W w3 tb v Z y B P a' b' (drS s x.o) (drS s x.o)) ∧ Fz (Nb y B P a b) w1 w3) := ⟨k3, f3⟩; clear k3 f3))
  go_ret
  obtain ⟨a', b', hk⟩ := HK.out.1
  exact ⟨rfl, ⟨a', b', _, hk⟩, HF.out.trans HK.out.2⟩
theorem does_6 (h : Bt W w tb v Z y B P a b s s) (x : Cl) (ho : x.o.wf) (hn : (Lit.int .i64 x.n).wf = true) : Calls Tryz.prog 14 #[lp B, lp P, .agg #[I 6, .bool x.o.isr, I x.o.id, I x.n, .bool x.all, .bool x.g.shut, I x.g.all, I x.g.os]] w (DzQ W w tb v Z y B P a b) := by
  have hb := below_alloc w (.cells #[I 6, .bool x.o.isr, I x.o.id, I x.n, .bool x.all, .bool x.g.shut, I x.g.all, I x.g.os] 51)
  have hV := heap_alloc_new w (.cells #[I 6, .bool x.o.isr, I x.o.id, I x.n, .bool x.all, .bool x.g.shut, I x.g.all, I x.g.os] 51)
  have h1 := h.below hb
  have HF : Hid (Fz (Nb y B P a b) w (w.alloc (.cells #[I 6, .bool x.o.isr, I x.o.id, I x.n, .bool x.all, .bool x.g.shut, I x.g.all, I x.g.os] 51))) := Fz.of_below hb
  have HX : Hid (¬ Nb y B P a b w.heap.size) := fun e => by have := h.X e; omega
  obtain ⟨ho1, hn1⟩ : Hid x.o.wf ∧ Hid ((Lit.int .i64 x.n).wf = true) := ⟨ho, hn⟩
  have hl : Hid (s.i.length = tb.tasks.length) := h.d.n
  have hnd : Hid ((s.L.map (·.2)).Nodup) := h.k.ok.nd
  have cc := fun j => cell_of_row _ _ j _ _ (0, 0) hV
  have hp : (w.alloc (.cells #[I 6, .bool x.o.isr, I x.o.id, I x.n, .bool x.all, .bool x.g.shut, I x.g.all, I x.g.os] 51)).cell? ⟨w.heap.size, 0, none⟩ = some (I 6) ∧ (w.alloc (.cells #[I 6, .bool x.o.isr, I x.o.id, I x.n, .bool x.all, .bool x.g.shut, I x.g.all, I x.g.os] 51)).cell? ⟨w.heap.size, 1, none⟩ = some (.bool x.o.isr) ∧ (w.alloc (.cells #[I 6, .bool x.o.isr, I x.o.id, I x.n, .bool x.all, .bool x.g.shut, I x.g.all, I x.g.os] 51)).cell? ⟨w.heap.size, 2, none⟩ = some (I x.o.id) ∧ (w.alloc (.cells #[I 6, .bool x.o.isr, I x.o.id, I x.n, .bool x.all, .bool x.g.shut, I x.g.all, I x.g.os] 51)).cell? ⟨w.heap.size, 3, none⟩ = some (I x.n) ∧ (w.alloc (.cells #[I 6, .bool x.o.isr, I x.o.id, I x.n, .bool x.all, .bool x.g.shut, I x.g.all, I x.g.os] 51)).cell? ⟨w.heap.size, 4, none⟩ = some (.bool x.all) ∧ (w.alloc (.cells #[I 6, .bool x.o.isr, I x.o.id, I x.n, .bool x.all, .bool x.g.shut, I x.g.all, I x.g.os] 51)).cell? ⟨w.heap.size, 5, none⟩ = some (.bool x.g.shut) ∧ (w.alloc (.cells #[I 6, .bool x.o.isr, I x.o.id, I x.n, .bool x.all, .bool x.g.shut, I x.g.all, I x.g.os] 51)).cell? ⟨w.heap.size, 6, none⟩ = some (I x.g.all) ∧ (w.alloc (.cells #[I 6, .bool x.o.isr, I x.o.id, I x.n, .bool x.all, .bool x.g.shut, I x.g.all, I x.g.os] 51)).cell? ⟨w.heap.size, 7, none⟩ = some (I x.g.os) := ⟨cc 0, cc 1, cc 2, cc 3, cc 4, cc 5, cc 6, cc 7⟩
  obtain ⟨p0, p1, p2, p3, p4, p5, p6, p7⟩ := hp
  clear h hb hV cc ho hn
  unfold DzQ
  go_enter Tryz.func14, Tryz.ntmps14
  go_upto_region 1 with fail
  generalize w.alloc (.cells #[I 6, .bool x.o.isr, I x.o.id, I x.n, .bool x.all, .bool x.g.shut, I x.g.all, I x.g.os] 51) = w1 at *
  generalize w.heap.size = X at *
  have hST : Hid (∀ W', Fz (Nb y B P a b) w1 W' → W'.cell? ⟨X, 0, none⟩ = some (I 6) ∧ W'.cell? ⟨X, 1, none⟩ = some (.bool x.o.isr) ∧ W'.cell? ⟨X, 2, none⟩ = some (I x.o.id) ∧ W'.cell? ⟨X, 3, none⟩ = some (I x.n) ∧ W'.cell? ⟨X, 4, none⟩ = some (.bool x.all) ∧ W'.cell? ⟨X, 5, none⟩ = some (.bool x.g.shut) ∧ W'.cell? ⟨X, 6, none⟩ = some (I x.g.all) ∧ W'.cell? ⟨X, 7, none⟩ = some (I x.g.os)) := fun W' hf => ⟨hf.cell p0 HX.out, hf.cell p1 HX.out, hf.cell p2 HX.out, hf.cell p3 HX.out, hf.cell p4 HX.out, hf.cell p5 HX.out, hf.cell p6 HX.out, hf.cell p7 HX.out⟩
  have H1 : Hid (Bt W w1 tb v Z y B P a b s s) := h1
  clear h1
  obtain ⟨-, -, -, -, -, c15, -, -⟩ := H1.out.d.cells
  have fr := H1.out.d.frz 15
  obtain ⟨h2, f2⟩ := H1.out.shut true
  have hG := pClose h2
  have HK0 : Hid (Fz (Nb y B P a b) w1 (w1.setCell ⟨P, 15, none⟩ (.bool true))) := f2.mono (fun z e => .inr e)
  clear h2 f2
  go_wp2_with (first
    | (go_at_call 13; refine hG.mono ?_; clear hG; rintro e w2 ⟨rfl, k2, f2⟩; have HK : Hid (Bt W w2 tb v Z y B P a b (gatS s ⟨true, s.g.all, s.g.os⟩) (gatS s ⟨true, s.g.all, s.g.os⟩) ∧ Fz (Nb y B P a b) w1 w2) := ⟨k2, HK0.out.trans (f2.mono (fun z e => .inl e))⟩; clear k2 f2))
  go_ret
  exact ⟨rfl, ⟨a, b, _, HK.out.1⟩, HF.out.trans HK.out.2⟩
theorem does_7 (h : Bt W w tb v Z y B P a b s s) (x : Cl) (ho : x.o.wf) (hn : (Lit.int .i64 x.n).wf = true) : Calls Tryz.prog 14 #[lp B, lp P, .agg #[I 7, .bool x.o.isr, I x.o.id, I x.n, .bool x.all, .bool x.g.shut, I x.g.all, I x.g.os]] w (DzQ W w tb v Z y B P a b) := by
  have hb := below_alloc w (.cells #[I 7, .bool x.o.isr, I x.o.id, I x.n, .bool x.all, .bool x.g.shut, I x.g.all, I x.g.os] 51)
  have hV := heap_alloc_new w (.cells #[I 7, .bool x.o.isr, I x.o.id, I x.n, .bool x.all, .bool x.g.shut, I x.g.all, I x.g.os] 51)
  have h1 := h.below hb
  have HF : Hid (Fz (Nb y B P a b) w (w.alloc (.cells #[I 7, .bool x.o.isr, I x.o.id, I x.n, .bool x.all, .bool x.g.shut, I x.g.all, I x.g.os] 51))) := Fz.of_below hb
  have HX : Hid (¬ Nb y B P a b w.heap.size) := fun e => by have := h.X e; omega
  obtain ⟨ho1, hn1⟩ : Hid x.o.wf ∧ Hid ((Lit.int .i64 x.n).wf = true) := ⟨ho, hn⟩
  have hl : Hid (s.i.length = tb.tasks.length) := h.d.n
  have hnd : Hid ((s.L.map (·.2)).Nodup) := h.k.ok.nd
  have cc := fun j => cell_of_row _ _ j _ _ (0, 0) hV
  have hp : (w.alloc (.cells #[I 7, .bool x.o.isr, I x.o.id, I x.n, .bool x.all, .bool x.g.shut, I x.g.all, I x.g.os] 51)).cell? ⟨w.heap.size, 0, none⟩ = some (I 7) ∧ (w.alloc (.cells #[I 7, .bool x.o.isr, I x.o.id, I x.n, .bool x.all, .bool x.g.shut, I x.g.all, I x.g.os] 51)).cell? ⟨w.heap.size, 1, none⟩ = some (.bool x.o.isr) ∧ (w.alloc (.cells #[I 7, .bool x.o.isr, I x.o.id, I x.n, .bool x.all, .bool x.g.shut, I x.g.all, I x.g.os] 51)).cell? ⟨w.heap.size, 2, none⟩ = some (I x.o.id) ∧ (w.alloc (.cells #[I 7, .bool x.o.isr, I x.o.id, I x.n, .bool x.all, .bool x.g.shut, I x.g.all, I x.g.os] 51)).cell? ⟨w.heap.size, 3, none⟩ = some (I x.n) ∧ (w.alloc (.cells #[I 7, .bool x.o.isr, I x.o.id, I x.n, .bool x.all, .bool x.g.shut, I x.g.all, I x.g.os] 51)).cell? ⟨w.heap.size, 4, none⟩ = some (.bool x.all) ∧ (w.alloc (.cells #[I 7, .bool x.o.isr, I x.o.id, I x.n, .bool x.all, .bool x.g.shut, I x.g.all, I x.g.os] 51)).cell? ⟨w.heap.size, 5, none⟩ = some (.bool x.g.shut) ∧ (w.alloc (.cells #[I 7, .bool x.o.isr, I x.o.id, I x.n, .bool x.all, .bool x.g.shut, I x.g.all, I x.g.os] 51)).cell? ⟨w.heap.size, 6, none⟩ = some (I x.g.all) ∧ (w.alloc (.cells #[I 7, .bool x.o.isr, I x.o.id, I x.n, .bool x.all, .bool x.g.shut, I x.g.all, I x.g.os] 51)).cell? ⟨w.heap.size, 7, none⟩ = some (I x.g.os) := ⟨cc 0, cc 1, cc 2, cc 3, cc 4, cc 5, cc 6, cc 7⟩
  obtain ⟨p0, p1, p2, p3, p4, p5, p6, p7⟩ := hp
  clear h hb hV cc ho hn
  unfold DzQ
  go_enter Tryz.func14, Tryz.ntmps14
  go_upto_region 1 with fail
  generalize w.alloc (.cells #[I 7, .bool x.o.isr, I x.o.id, I x.n, .bool x.all, .bool x.g.shut, I x.g.all, I x.g.os] 51) = w1 at *
  generalize w.heap.size = X at *
  have hST : Hid (∀ W', Fz (Nb y B P a b) w1 W' → W'.cell? ⟨X, 0, none⟩ = some (I 7) ∧ W'.cell? ⟨X, 1, none⟩ = some (.bool x.o.isr) ∧ W'.cell? ⟨X, 2, none⟩ = some (I x.o.id) ∧ W'.cell? ⟨X, 3, none⟩ = some (I x.n) ∧ W'.cell? ⟨X, 4, none⟩ = some (.bool x.all) ∧ W'.cell? ⟨X, 5, none⟩ = some (.bool x.g.shut) ∧ W'.cell? ⟨X, 6, none⟩ = some (I x.g.all) ∧ W'.cell? ⟨X, 7, none⟩ = some (I x.g.os)) := fun W' hf => ⟨hf.cell p0 HX.out, hf.cell p1 HX.out, hf.cell p2 HX.out, hf.cell p3 HX.out, hf.cell p4 HX.out, hf.cell p5 HX.out, hf.cell p6 HX.out, hf.cell p7 HX.out⟩
  have H1 : Hid (Bt W w1 tb v Z y B P a b s s) := h1
  clear h1
  obtain ⟨-, -, -, -, -, c15, -, -⟩ := H1.out.d.cells
  have fr := H1.out.d.frz 15
  obtain ⟨h2, f2⟩ := H1.out.shut false
  have hG := pOpen h2
  have HK0 : Hid (Fz (Nb y B P a b) w1 (w1.setCell ⟨P, 15, none⟩ (.bool false))) := f2.mono (fun z e => .inr e)
  clear h2 f2
  go_wp2_with (first
    | (go_at_call 25; refine hG.mono ?_; clear hG; rintro e w2 ⟨rfl, k2, f2⟩; have HK : Hid (Bt W w2 tb v Z y B P a b (gatS s ⟨false, s.g.all, s.g.os⟩) (gatS s ⟨false, s.g.all, s.g.os⟩) ∧ Fz (Nb y B P a b) w1 w2) := ⟨k2, HK0.out.trans (f2.mono (fun z e => .inl e))⟩; clear k2 f2))
  go_ret
  exact ⟨rfl, ⟨a, b, _, HK.out.1⟩, HF.out.trans HK.out.2⟩
theorem does_8 (h : Bt W w tb v Z y B P a b s s) (x : Cl) (ho : x.o.wf) (hn : (Lit.int .i64 x.n).wf = true) : Calls Tryz.prog 14 #[lp B, lp P, .agg #[I 8, .bool x.o.isr, I x.o.id, I x.n, .bool x.all, .bool x.g.shut, I x.g.all, I x.g.os]] w (DzQ W w tb v Z y B P a b) := by
  have hb := below_alloc w (.cells #[I 8, .bool x.o.isr, I x.o.id, I x.n, .bool x.all, .bool x.g.shut, I x.g.all, I x.g.os] 51)
  have hV := heap_alloc_new w (.cells #[I 8, .bool x.o.isr, I x.o.id, I x.n, .bool x.all, .bool x.g.shut, I x.g.all, I x.g.os] 51)
  have h1 := h.below hb
  have HF : Hid (Fz (Nb y B P a b) w (w.alloc (.cells #[I 8, .bool x.o.isr, I x.o.id, I x.n, .bool x.all, .bool x.g.shut, I x.g.all, I x.g.os] 51))) := Fz.of_below hb
  have HX : Hid (¬ Nb y B P a b w.heap.size) := fun e => by have := h.X e; omega
  obtain ⟨ho1, hn1⟩ : Hid x.o.wf ∧ Hid ((Lit.int .i64 x.n).wf = true) := ⟨ho, hn⟩
  have hl : Hid (s.i.length = tb.tasks.length) := h.d.n
  have hnd : Hid ((s.L.map (·.2)).Nodup) := h.k.ok.nd
  have cc := fun j => cell_of_row _ _ j _ _ (0, 0) hV
  have hp : (w.alloc (.cells #[I 8, .bool x.o.isr, I x.o.id, I x.n, .bool x.all, .bool x.g.shut, I x.g.all, I x.g.os] 51)).cell? ⟨w.heap.size, 0, none⟩ = some (I 8) ∧ (w.alloc (.cells #[I 8, .bool x.o.isr, I x.o.id, I x.n, .bool x.all, .bool x.g.shut, I x.g.all, I x.g.os] 51)).cell? ⟨w.heap.size, 1, none⟩ = some (.bool x.o.isr) ∧ (w.alloc (.cells #[I 8, .bool x.o.isr, I x.o.id, I x.n, .bool x.all, .bool x.g.shut, I x.g.all, I x.g.os] 51)).cell? ⟨w.heap.size, 2, none⟩ = some (I x.o.id) ∧ (w.alloc (.cells #[I 8, .bool x.o.isr, I x.o.id, I x.n, .bool x.all, .bool x.g.shut, I x.g.all, I x.g.os] 51)).cell? ⟨w.heap.size, 3, none⟩ = some (I x.n) ∧ (w.alloc (.cells #[I 8, .bool x.o.isr, I x.o.id, I x.n, .bool x.all, .bool x.g.shut, I x.g.all, I x.g.os] 51)).cell? ⟨w.heap.size, 4, none⟩ = some (.bool x.all) ∧ (w.alloc (.cells #[I 8, .bool x.o.isr, I x.o.id, I x.n, .bool x.all, .bool x.g.shut, I x.g.all, I x.g.os] 51)).cell? ⟨w.heap.size, 5, none⟩ = some (.bool x.g.shut) ∧ (w.alloc (.cells #[I 8, .bool x.o.isr, I x.o.id, I x.n, .bool x.all, .bool x.g.shut, I x.g.all, I x.g.os] 51)).cell? ⟨w.heap.size, 6, none⟩ = some (I x.g.all) ∧ (w.alloc (.cells #[I 8, .bool x.o.isr, I x.o.id, I x.n, .bool x.all, .bool x.g.shut, I x.g.all, I x.g.os] 51)).cell? ⟨w.heap.size, 7, none⟩ = some (I x.g.os) := ⟨cc 0, cc 1, cc 2, cc 3, cc 4, cc 5, cc 6, cc 7⟩
  obtain ⟨p0, p1, p2, p3, p4, p5, p6, p7⟩ := hp
  clear h hb hV cc ho hn
  unfold DzQ
  go_enter Tryz.func14, Tryz.ntmps14
  go_upto_region 1 with fail
  generalize w.alloc (.cells #[I 8, .bool x.o.isr, I x.o.id, I x.n, .bool x.all, .bool x.g.shut, I x.g.all, I x.g.os] 51) = w1 at *
  generalize w.heap.size = X at *
  have hST : Hid (∀ W', Fz (Nb y B P a b) w1 W' → W'.cell? ⟨X, 0, none⟩ = some (I 8) ∧ W'.cell? ⟨X, 1, none⟩ = some (.bool x.o.isr) ∧ W'.cell? ⟨X, 2, none⟩ = some (I x.o.id) ∧ W'.cell? ⟨X, 3, none⟩ = some (I x.n) ∧ W'.cell? ⟨X, 4, none⟩ = some (.bool x.all) ∧ W'.cell? ⟨X, 5, none⟩ = some (.bool x.g.shut) ∧ W'.cell? ⟨X, 6, none⟩ = some (I x.g.all) ∧ W'.cell? ⟨X, 7, none⟩ = some (I x.g.os)) := fun W' hf => ⟨hf.cell p0 HX.out, hf.cell p1 HX.out, hf.cell p2 HX.out, hf.cell p3 HX.out, hf.cell p4 HX.out, hf.cell p5 HX.out, hf.cell p6 HX.out, hf.cell p7 HX.out⟩
  have H1 : Hid (Bt W w1 tb v Z y B P a b s s) := h1
  clear h1
  have hG : Calls Tryz.prog 47 #[lp P, .bool x.all, I 1] w1 fun e w' => e = .returned (.tuple #[]) ∧ (∃ a' b', Bt W w' tb v Z y B P a' b' s (gatS s (cntG s.g x.all 1))) ∧ Fz (Nb y B P a b) w1 w' := (dCnt H1.out x.all 1 (by simp)).mono (fun e w' k => DoQ.up (Fz.refl _ _) (Below.refl _ _) k)
  go_wp2_with (first
    | (go_at_call 47; refine hG.mono ?_; clear hG p0 p1 p2 p3 p4 p5 p6 p7; rintro e w2 ⟨rfl, ⟨a2, b2, k2⟩, f2⟩; obtain ⟨p0, p1, p2, p3, p4, p5, p6, p7⟩ := hST.out w2 f2; have hD := pSuspend k2 x.all; have F2 : Hid (Fz (Nb y B P a b) w1 w2) := f2; clear k2 f2)
    | (go_at_call 26; refine hD.mono ?_; clear hD; rintro e w3 ⟨rfl, k3, f3⟩; have HK : Hid (Bt W w3 tb v Z y B P a2 b2 (gatS s (cntG s.g x.all 1)) (gatS s (cntG s.g x.all 1)) ∧ Fz (Nb y B P a b) w1 w3) := ⟨k3, F2.out.trans (f3.mono (fun z e => .inl e))⟩; clear k3 f3))
  go_ret
  exact ⟨rfl, ⟨_, _, _, HK.out.1⟩, HF.out.trans HK.out.2⟩
theorem does_9 (h : Bt W w tb v Z y B P a b s s) (x : Cl) (ho : x.o.wf) (hn : (Lit.int .i64 x.n).wf = true) : Calls Tryz.prog 14 #[lp B, lp P, .agg #[I 9, .bool x.o.isr, I x.o.id, I x.n, .bool x.all, .bool x.g.shut, I x.g.all, I x.g.os]] w (DzQ W w tb v Z y B P a b) := by
  have hb := below_alloc w (.cells #[I 9, .bool x.o.isr, I x.o.id, I x.n, .bool x.all, .bool x.g.shut, I x.g.all, I x.g.os] 51)
  have hV := heap_alloc_new w (.cells #[I 9, .bool x.o.isr, I x.o.id, I x.n, .bool x.all, .bool x.g.shut, I x.g.all, I x.g.os] 51)
  have h1 := h.below hb
  have HF : Hid (Fz (Nb y B P a b) w (w.alloc (.cells #[I 9, .bool x.o.isr, I x.o.id, I x.n, .bool x.all, .bool x.g.shut, I x.g.all, I x.g.os] 51))) := Fz.of_below hb
  have HX : Hid (¬ Nb y B P a b w.heap.size) := fun e => by have := h.X e; omega
  obtain ⟨ho1, hn1⟩ : Hid x.o.wf ∧ Hid ((Lit.int .i64 x.n).wf = true) := ⟨ho, hn⟩
  have hl : Hid (s.i.length = tb.tasks.length) := h.d.n
  have hnd : Hid ((s.L.map (·.2)).Nodup) := h.k.ok.nd
  have cc := fun j => cell_of_row _ _ j _ _ (0, 0) hV
  have hp : (w.alloc (.cells #[I 9, .bool x.o.isr, I x.o.id, I x.n, .bool x.all, .bool x.g.shut, I x.g.all, I x.g.os] 51)).cell? ⟨w.heap.size, 0, none⟩ = some (I 9) ∧ (w.alloc (.cells #[I 9, .bool x.o.isr, I x.o.id, I x.n, .bool x.all, .bool x.g.shut, I x.g.all, I x.g.os] 51)).cell? ⟨w.heap.size, 1, none⟩ = some (.bool x.o.isr) ∧ (w.alloc (.cells #[I 9, .bool x.o.isr, I x.o.id, I x.n, .bool x.all, .bool x.g.shut, I x.g.all, I x.g.os] 51)).cell? ⟨w.heap.size, 2, none⟩ = some (I x.o.id) ∧ (w.alloc (.cells #[I 9, .bool x.o.isr, I x.o.id, I x.n, .bool x.all, .bool x.g.shut, I x.g.all, I x.g.os] 51)).cell? ⟨w.heap.size, 3, none⟩ = some (I x.n) ∧ (w.alloc (.cells #[I 9, .bool x.o.isr, I x.o.id, I x.n, .bool x.all, .bool x.g.shut, I x.g.all, I x.g.os] 51)).cell? ⟨w.heap.size, 4, none⟩ = some (.bool x.all) ∧ (w.alloc (.cells #[I 9, .bool x.o.isr, I x.o.id, I x.n, .bool x.all, .bool x.g.shut, I x.g.all, I x.g.os] 51)).cell? ⟨w.heap.size, 5, none⟩ = some (.bool x.g.shut) ∧ (w.alloc (.cells #[I 9, .bool x.o.isr, I x.o.id, I x.n, .bool x.all, .bool x.g.shut, I x.g.all, I x.g.os] 51)).cell? ⟨w.heap.size, 6, none⟩ = some (I x.g.all) ∧ (w.alloc (.cells #[I 9, .bool x.o.isr, I x.o.id, I x.n, .bool x.all, .bool x.g.shut, I x.g.all, I x.g.os] 51)).cell? ⟨w.heap.size, 7, none⟩ = some (I x.g.os) := ⟨cc 0, cc 1, cc 2, cc 3, cc 4, cc 5, cc 6, cc 7⟩
  obtain ⟨p0, p1, p2, p3, p4, p5, p6, p7⟩ := hp
  clear h hb hV cc ho hn
  unfold DzQ
  go_enter Tryz.func14, Tryz.ntmps14
  go_upto_region 1 with fail
  generalize w.alloc (.cells #[I 9, .bool x.o.isr, I x.o.id, I x.n, .bool x.all, .bool x.g.shut, I x.g.all, I x.g.os] 51) = w1 at *
  generalize w.heap.size = X at *
  have hST : Hid (∀ W', Fz (Nb y B P a b) w1 W' → W'.cell? ⟨X, 0, none⟩ = some (I 9) ∧ W'.cell? ⟨X, 1, none⟩ = some (.bool x.o.isr) ∧ W'.cell? ⟨X, 2, none⟩ = some (I x.o.id) ∧ W'.cell? ⟨X, 3, none⟩ = some (I x.n) ∧ W'.cell? ⟨X, 4, none⟩ = some (.bool x.all) ∧ W'.cell? ⟨X, 5, none⟩ = some (.bool x.g.shut) ∧ W'.cell? ⟨X, 6, none⟩ = some (I x.g.all) ∧ W'.cell? ⟨X, 7, none⟩ = some (I x.g.os)) := fun W' hf => ⟨hf.cell p0 HX.out, hf.cell p1 HX.out, hf.cell p2 HX.out, hf.cell p3 HX.out, hf.cell p4 HX.out, hf.cell p5 HX.out, hf.cell p6 HX.out, hf.cell p7 HX.out⟩
  have H1 : Hid (Bt W w1 tb v Z y B P a b s s) := h1
  clear h1
  have hG : Calls Tryz.prog 47 #[lp P, .bool x.all, I (-1)] w1 fun e w' => e = .returned (.tuple #[]) ∧ (∃ a' b', Bt W w' tb v Z y B P a' b' s (gatS s (cntG s.g x.all (-1)))) ∧ Fz (Nb y B P a b) w1 w' := (dCnt H1.out x.all (-1) (by simp)).mono (fun e w' k => DoQ.up (Fz.refl _ _) (Below.refl _ _) k)
  go_wp2_with (first
    | (go_at_call 47; refine hG.mono ?_; clear hG p0 p1 p2 p3 p4 p5 p6 p7; rintro e w2 ⟨rfl, ⟨a2, b2, k2⟩, f2⟩; obtain ⟨p0, p1, p2, p3, p4, p5, p6, p7⟩ := hST.out w2 f2; have hD := pResume k2 x.all; have F2 : Hid (Fz (Nb y B P a b) w1 w2) := f2; clear k2 f2)
    | (go_at_call 27; refine hD.mono ?_; clear hD; rintro e w3 ⟨rfl, k3, f3⟩; have HK : Hid (Bt W w3 tb v Z y B P a2 b2 (gatS s (cntG s.g x.all (-1))) (gatS s (cntG s.g x.all (-1))) ∧ Fz (Nb y B P a b) w1 w3) := ⟨k3, F2.out.trans (f3.mono (fun z e => .inl e))⟩; clear k3 f3))
  go_ret
  exact ⟨rfl, ⟨_, _, _, HK.out.1⟩, HF.out.trans HK.out.2⟩
theorem does_11 (h : Bt W w tb v Z y B P a b s s) (x : Cl) (ho : x.o.wf) (hn : (Lit.int .i64 x.n).wf = true) : Calls Tryz.prog 14 #[lp B, lp P, .agg #[I 11, .bool x.o.isr, I x.o.id, I x.n, .bool x.all, .bool x.g.shut, I x.g.all, I x.g.os]] w (DzQ W w tb v Z y B P a b) := by
  have hb := below_alloc w (.cells #[I 11, .bool x.o.isr, I x.o.id, I x.n, .bool x.all, .bool x.g.shut, I x.g.all, I x.g.os] 51)
  have hV := heap_alloc_new w (.cells #[I 11, .bool x.o.isr, I x.o.id, I x.n, .bool x.all, .bool x.g.shut, I x.g.all, I x.g.os] 51)
  have h1 := h.below hb
  have HF : Hid (Fz (Nb y B P a b) w (w.alloc (.cells #[I 11, .bool x.o.isr, I x.o.id, I x.n, .bool x.all, .bool x.g.shut, I x.g.all, I x.g.os] 51))) := Fz.of_below hb
  have HX : Hid (¬ Nb y B P a b w.heap.size) := fun e => by have := h.X e; omega
  obtain ⟨ho1, hn1⟩ : Hid x.o.wf ∧ Hid ((Lit.int .i64 x.n).wf = true) := ⟨ho, hn⟩
  have hl : Hid (s.i.length = tb.tasks.length) := h.d.n
  have hnd : Hid ((s.L.map (·.2)).Nodup) := h.k.ok.nd
  have cc := fun j => cell_of_row _ _ j _ _ (0, 0) hV
  have hp : (w.alloc (.cells #[I 11, .bool x.o.isr, I x.o.id, I x.n, .bool x.all, .bool x.g.shut, I x.g.all, I x.g.os] 51)).cell? ⟨w.heap.size, 0, none⟩ = some (I 11) ∧ (w.alloc (.cells #[I 11, .bool x.o.isr, I x.o.id, I x.n, .bool x.all, .bool x.g.shut, I x.g.all, I x.g.os] 51)).cell? ⟨w.heap.size, 1, none⟩ = some (.bool x.o.isr) ∧ (w.alloc (.cells #[I 11, .bool x.o.isr, I x.o.id, I x.n, .bool x.all, .bool x.g.shut, I x.g.all, I x.g.os] 51)).cell? ⟨w.heap.size, 2, none⟩ = some (I x.o.id) ∧ (w.alloc (.cells #[I 11, .bool x.o.isr, I x.o.id, I x.n, .bool x.all, .bool x.g.shut, I x.g.all, I x.g.os] 51)).cell? ⟨w.heap.size, 3, none⟩ = some (I x.n) ∧ (w.alloc (.cells #[I 11, .bool x.o.isr, I x.o.id, I x.n, .bool x.all, .bool x.g.shut, I x.g.all, I x.g.os] 51)).cell? ⟨w.heap.size, 4, none⟩ = some (.bool x.all) ∧ (w.alloc (.cells #[I 11, .bool x.o.isr, I x.o.id, I x.n, .bool x.all, .bool x.g.shut, I x.g.all, I x.g.os] 51)).cell? ⟨w.heap.size, 5, none⟩ = some (.bool x.g.shut) ∧ (w.alloc (.cells #[I 11, .bool x.o.isr, I x.o.id, I x.n, .bool x.all, .bool x.g.shut, I x.g.all, I x.g.os] 51)).cell? ⟨w.heap.size, 6, none⟩ = some (I x.g.all) ∧ (w.alloc (.cells #[I 11, .bool x.o.isr, I x.o.id, I x.n, .bool x.all, .bool x.g.shut, I x.g.all, I x.g.os] 51)).cell? ⟨w.heap.size, 7, none⟩ = some (I x.g.os) := ⟨cc 0, cc 1, cc 2, cc 3, cc 4, cc 5, cc 6, cc 7⟩
  obtain ⟨p0, p1, p2, p3, p4, p5, p6, p7⟩ := hp
  clear h hb hV cc ho hn
  unfold DzQ
  go_enter Tryz.func14, Tryz.ntmps14
  go_upto_region 1 with fail
  generalize w.alloc (.cells #[I 11, .bool x.o.isr, I x.o.id, I x.n, .bool x.all, .bool x.g.shut, I x.g.all, I x.g.os] 51) = w1 at *
  generalize w.heap.size = X at *
  have hST : Hid (∀ W', Fz (Nb y B P a b) w1 W' → W'.cell? ⟨X, 0, none⟩ = some (I 11) ∧ W'.cell? ⟨X, 1, none⟩ = some (.bool x.o.isr) ∧ W'.cell? ⟨X, 2, none⟩ = some (I x.o.id) ∧ W'.cell? ⟨X, 3, none⟩ = some (I x.n) ∧ W'.cell? ⟨X, 4, none⟩ = some (.bool x.all) ∧ W'.cell? ⟨X, 5, none⟩ = some (.bool x.g.shut) ∧ W'.cell? ⟨X, 6, none⟩ = some (I x.g.all) ∧ W'.cell? ⟨X, 7, none⟩ = some (I x.g.os)) := fun W' hf => ⟨hf.cell p0 HX.out, hf.cell p1 HX.out, hf.cell p2 HX.out, hf.cell p3 HX.out, hf.cell p4 HX.out, hf.cell p5 HX.out, hf.cell p6 HX.out, hf.cell p7 HX.out⟩
  have H1 : Hid (Bt W w1 tb v Z y B P a b s s) := h1
  clear h1
  have hG : Calls Tryz.prog 49 #[lp P] w1 fun e w' => e = .returned (.tuple #[]) ∧ (∃ a' b', Bt W w' tb v Z y B P a' b' s (rstS tb)) ∧ Fz (Nb y B P a b) w1 w' := (dRst H1.out).mono (fun e w' k => DoQ.up (Fz.refl _ _) (Below.refl _ _) k)
  go_wp2_with (first
    | (go_at_call 49; refine hG.mono ?_; clear hG p0 p1 p2 p3 p4 p5 p6 p7; rintro e w2 ⟨rfl, ⟨a2, b2, k2⟩, f2⟩; have hD := pRst k2; have F2 : Hid (Fz (Nb y B P a b) w1 w2) := f2; clear k2 f2)
    | (go_at_call 29; refine hD.mono ?_; clear hD; rintro e w3 ⟨rfl, k3, f3⟩; have HK : Hid (Bt W w3 tb v Z y B P a2 b2 (rstS tb) (rstS tb) ∧ Fz (Nb y B P a b) w1 w3) := ⟨k3, F2.out.trans (f3.mono (fun z e => .inl e))⟩; clear k3 f3))
  go_ret
  exact ⟨rfl, ⟨_, _, _, HK.out.1⟩, HF.out.trans HK.out.2⟩
theorem does_0 (h : Bt W w tb v Z y B P a b s s) (x : Cl) (ho : x.o.wf) (hn : (Lit.int .i64 x.n).wf = true) (q1 : ¬ (x.kind = 1)) (q2 : ¬ (x.kind = 2)) (q3 : ¬ (x.kind = 3)) (q4 : ¬ (x.kind = 4)) (q5 : ¬ (x.kind = 5)) (q6 : ¬ (x.kind = 6)) (q7 : ¬ (x.kind = 7)) (q8 : ¬ (x.kind = 8)) (q9 : ¬ (x.kind = 9)) (q10 : ¬ (x.kind = 10)) (q11 : ¬ (x.kind = 11)) : Calls Tryz.prog 14 #[lp B, lp P, .agg #[I x.kind, .bool x.o.isr, I x.o.id, I x.n, .bool x.all, .bool x.g.shut, I x.g.all, I x.g.os]] w (DzQ W w tb v Z y B P a b) := by
  have hb := below_alloc w (.cells #[I x.kind, .bool x.o.isr, I x.o.id, I x.n, .bool x.all, .bool x.g.shut, I x.g.all, I x.g.os] 51)
  have hV := heap_alloc_new w (.cells #[I x.kind, .bool x.o.isr, I x.o.id, I x.n, .bool x.all, .bool x.g.shut, I x.g.all, I x.g.os] 51)
  have h1 := h.below hb
  have HF : Hid (Fz (Nb y B P a b) w (w.alloc (.cells #[I x.kind, .bool x.o.isr, I x.o.id, I x.n, .bool x.all, .bool x.g.shut, I x.g.all, I x.g.os] 51))) := Fz.of_below hb
  have HX : Hid (¬ Nb y B P a b w.heap.size) := fun e => by have := h.X e; omega
  obtain ⟨ho1, hn1⟩ : Hid x.o.wf ∧ Hid ((Lit.int .i64 x.n).wf = true) := ⟨ho, hn⟩
  have hl : Hid (s.i.length = tb.tasks.length) := h.d.n
  have hnd : Hid ((s.L.map (·.2)).Nodup) := h.k.ok.nd
  have cc := fun j => cell_of_row _ _ j _ _ (0, 0) hV
  have hp : (w.alloc (.cells #[I x.kind, .bool x.o.isr, I x.o.id, I x.n, .bool x.all, .bool x.g.shut, I x.g.all, I x.g.os] 51)).cell? ⟨w.heap.size, 0, none⟩ = some (I x.kind) ∧ (w.alloc (.cells #[I x.kind, .bool x.o.isr, I x.o.id, I x.n, .bool x.all, .bool x.g.shut, I x.g.all, I x.g.os] 51)).cell? ⟨w.heap.size, 1, none⟩ = some (.bool x.o.isr) ∧ (w.alloc (.cells #[I x.kind, .bool x.o.isr, I x.o.id, I x.n, .bool x.all, .bool x.g.shut, I x.g.all, I x.g.os] 51)).cell? ⟨w.heap.size, 2, none⟩ = some (I x.o.id) ∧ (w.alloc (.cells #[I x.kind, .bool x.o.isr, I x.o.id, I x.n, .bool x.all, .bool x.g.shut, I x.g.all, I x.g.os] 51)).cell? ⟨w.heap.size, 3, none⟩ = some (I x.n) ∧ (w.alloc (.cells #[I x.kind, .bool x.o.isr, I x.o.id, I x.n, .bool x.all, .bool x.g.shut, I x.g.all, I x.g.os] 51)).cell? ⟨w.heap.size, 4, none⟩ = some (.bool x.all) ∧ (w.alloc (.cells #[I x.kind, .bool x.o.isr, I x.o.id, I x.n, .bool x.all, .bool x.g.shut, I x.g.all, I x.g.os] 51)).cell? ⟨w.heap.size, 5, none⟩ = some (.bool x.g.shut) ∧ (w.alloc (.cells #[I x.kind, .bool x.o.isr, I x.o.id, I x.n, .bool x.all, .bool x.g.shut, I x.g.all, I x.g.os] 51)).cell? ⟨w.heap.size, 6, none⟩ = some (I x.g.all) ∧ (w.alloc (.cells #[I x.kind, .bool x.o.isr, I x.o.id, I x.n, .bool x.all, .bool x.g.shut, I x.g.all, I x.g.os] 51)).cell? ⟨w.heap.size, 7, none⟩ = some (I x.g.os) := ⟨cc 0, cc 1, cc 2, cc 3, cc 4, cc 5, cc 6, cc 7⟩
  obtain ⟨p0, p1, p2, p3, p4, p5, p6, p7⟩ := hp
  clear h hb hV cc ho hn
  unfold DzQ
  go_enter Tryz.func14, Tryz.ntmps14
  go_upto_region 1 with fail
  generalize w.alloc (.cells #[I x.kind, .bool x.o.isr, I x.o.id, I x.n, .bool x.all, .bool x.g.shut, I x.g.all, I x.g.os] 51) = w1 at *
  generalize w.heap.size = X at *
  have hST : Hid (∀ W', Fz (Nb y B P a b) w1 W' → W'.cell? ⟨X, 0, none⟩ = some (I x.kind) ∧ W'.cell? ⟨X, 1, none⟩ = some (.bool x.o.isr) ∧ W'.cell? ⟨X, 2, none⟩ = some (I x.o.id) ∧ W'.cell? ⟨X, 3, none⟩ = some (I x.n) ∧ W'.cell? ⟨X, 4, none⟩ = some (.bool x.all) ∧ W'.cell? ⟨X, 5, none⟩ = some (.bool x.g.shut) ∧ W'.cell? ⟨X, 6, none⟩ = some (I x.g.all) ∧ W'.cell? ⟨X, 7, none⟩ = some (I x.g.os)) := fun W' hf => ⟨hf.cell p0 HX.out, hf.cell p1 HX.out, hf.cell p2 HX.out, hf.cell p3 HX.out, hf.cell p4 HX.out, hf.cell p5 HX.out, hf.cell p6 HX.out, hf.cell p7 HX.out⟩
  have H1 : Hid (Bt W w1 tb v Z y B P a b s s) := h1
  clear h1
  go_wp2
  go_ret
  exact ⟨rfl, ⟨a, b, s, H1.out⟩, HF.out⟩
theorem does_any (h : Bt W w tb v Z y B P a b s s) (x : Cl) (ho : x.o.wf) (hn : (Lit.int .i64 x.n).wf = true) : Calls Tryz.prog 14 #[lp B, lp P, .agg #[I x.kind, .bool x.o.isr, I x.o.id, I x.n, .bool x.all, .bool x.g.shut, I x.g.all, I x.g.os]] w (DzQ W w tb v Z y B P a b) := by
  by_cases q1 : x.kind = 1
  · rw [q1]
    exact does_1 h x ho hn
  by_cases q2 : x.kind = 2
  · rw [q2]
    exact does_2 h x ho hn
  by_cases q3 : x.kind = 3
  · rw [q3]
    exact does_3 h x ho hn
  by_cases q4 : x.kind = 4
  · rw [q4]
    exact does_4 h x ho hn
  by_cases q5 : x.kind = 5
  · rw [q5]
    exact does_5 h x ho hn
  by_cases q6 : x.kind = 6
  · rw [q6]
    exact does_6 h x ho hn
  by_cases q7 : x.kind = 7
  · rw [q7]
    exact does_7 h x ho hn
  by_cases q8 : x.kind = 8
  · rw [q8]
    exact does_8 h x ho hn
  by_cases q9 : x.kind = 9
  · rw [q9]
    exact does_9 h x ho hn
  by_cases q10 : x.kind = 10
  · rw [q10]
    exact does_10 h x ho hn
  by_cases q11 : x.kind = 11
  · rw [q11]
    exact does_11 h x ho hn
  exact does_0 h x ho hn q1 q2 q3 q4 q5 q6 q7 q8 q9 q10 q11
end
end Go.Proofs.YtmllocfeflhjoaaGreat
