import Derived.Test.YtmllocfeflhjoaaGreatXQy
namespace Go.Proofs.YtmllocfeflhjoaaGreat
open Go.RowKit Go.Maps Go.Shelf Go.Sort
open Go.Proofs.YtmllocfeflhjoaaGreat.St (Fx Fz iQ iP iV)
set_option linter.unusedVariables false
set_option linter.unusedSimpArgs false
set_option maxRecDepth 100000
set_option maxHeartbeats 8000000
section
variable {W w w' : World} {tb : Tb} {v : Ts} {Z : Nat → Prop} {y : Ly} {B P : Nat} {a b : Value} {s t : Ss}
def Nb (y : Ly) (B P : Nat) (a b : Value) (z : Nat) : Prop := y.M B z ∨ Dm P a b z
theorem PrQ.up {w1 W' : World} {s' : Ss} {u : Value} {e : Ending} (hb : Below w1.heap.size w1 W') (k : PrQ W W' tb v Z y B P a b s' t u e w') : e = .returned u ∧ Bt W w' tb v Z y B P a b s' t ∧ Fz (Nb y B P a b) w1 w' := ⟨k.1, k.2.1, (Fz.of_below hb).trans (k.2.2.mono (fun x e => .inl e))⟩
theorem DoQ.up {w1 W2 W' : World} {t' : Ss} {u : Value} {e : Ending} (hf : Fz (Nb y B P a b) w1 W2) (hb : Below W2.heap.size W2 W') (k : DoQ W W' tb v Z y B P a b s t' u e w') : e = .returned u ∧ (∃ a' b', Bt W w' tb v Z y B P a' b' s t') ∧ Fz (Nb y B P a b) w1 w' := ⟨k.1, k.2.1, hf.trans ((Fz.of_below hb).trans (k.2.2.mono (fun x e => .inr e)))⟩
def DzQ (W w : World) (tb : Tb) (v : Ts) (Z : Nat → Prop) (y : Ly) (B P : Nat) (a b : Value) (e : Ending) (w' : World) : Prop := e = .returned (.bool true) ∧ (∃ a' b' s', Bt W w' tb v Z y B P a' b' s' s') ∧ Fz (Nb y B P a b) w w'
theorem Bt.X (h : Bt W w tb v Z y B P a b s t) {z : Nat} (hz : Nb y B P a b z) : z < w.heap.size := by
  rcases hz with e | e
  · exact h.k.lts e
  · exact (h.d.low e).2
theorem does_1 (h : Bt W w tb v Z y B P a b s s) (x : Cl) (ho : x.o.wf) (hn : (Lit.int .i64 x.n).wf = true) : Calls Tryz.prog 14 #[lp B, lp P, .agg #[I 1, .bool x.o.isr, I x.o.id, I x.n, .bool x.all, .bool x.g.shut, I x.g.all, I x.g.os]] w (DzQ W w tb v Z y B P a b) := by
  have hb := below_alloc w (.cells #[I 1, .bool x.o.isr, I x.o.id, I x.n, .bool x.all, .bool x.g.shut, I x.g.all, I x.g.os] 51)
  have hV := heap_alloc_new w (.cells #[I 1, .bool x.o.isr, I x.o.id, I x.n, .bool x.all, .bool x.g.shut, I x.g.all, I x.g.os] 51)
  have h1 := h.below hb
  have HF : Hid (Fz (Nb y B P a b) w (w.alloc (.cells #[I 1, .bool x.o.isr, I x.o.id, I x.n, .bool x.all, .bool x.g.shut, I x.g.all, I x.g.os] 51))) := Fz.of_below hb
  have HX : Hid (¬ Nb y B P a b w.heap.size) := fun e => by have := h.X e; omega
  obtain ⟨ho1, hn1⟩ : Hid x.o.wf ∧ Hid ((Lit.int .i64 x.n).wf = true) := ⟨ho, hn⟩
  have hl : Hid (s.i.length = tb.tasks.length) := h.d.n
  have hnd : Hid ((s.L.map (·.2)).Nodup) := h.k.ok.nd
  have cc := fun j => cell_of_row _ _ j _ _ (0, 0) hV
  have hp : (w.alloc (.cells #[I 1, .bool x.o.isr, I x.o.id, I x.n, .bool x.all, .bool x.g.shut, I x.g.all, I x.g.os] 51)).cell? ⟨w.heap.size, 0, none⟩ = some (I 1) ∧ (w.alloc (.cells #[I 1, .bool x.o.isr, I x.o.id, I x.n, .bool x.all, .bool x.g.shut, I x.g.all, I x.g.os] 51)).cell? ⟨w.heap.size, 1, none⟩ = some (.bool x.o.isr) ∧ (w.alloc (.cells #[I 1, .bool x.o.isr, I x.o.id, I x.n, .bool x.all, .bool x.g.shut, I x.g.all, I x.g.os] 51)).cell? ⟨w.heap.size, 2, none⟩ = some (I x.o.id) ∧ (w.alloc (.cells #[I 1, .bool x.o.isr, I x.o.id, I x.n, .bool x.all, .bool x.g.shut, I x.g.all, I x.g.os] 51)).cell? ⟨w.heap.size, 3, none⟩ = some (I x.n) ∧ (w.alloc (.cells #[I 1, .bool x.o.isr, I x.o.id, I x.n, .bool x.all, .bool x.g.shut, I x.g.all, I x.g.os] 51)).cell? ⟨w.heap.size, 4, none⟩ = some (.bool x.all) ∧ (w.alloc (.cells #[I 1, .bool x.o.isr, I x.o.id, I x.n, .bool x.all, .bool x.g.shut, I x.g.all, I x.g.os] 51)).cell? ⟨w.heap.size, 5, none⟩ = some (.bool x.g.shut) ∧ (w.alloc (.cells #[I 1, .bool x.o.isr, I x.o.id, I x.n, .bool x.all, .bool x.g.shut, I x.g.all, I x.g.os] 51)).cell? ⟨w.heap.size, 6, none⟩ = some (I x.g.all) ∧ (w.alloc (.cells #[I 1, .bool x.o.isr, I x.o.id, I x.n, .bool x.all, .bool x.g.shut, I x.g.all, I x.g.os] 51)).cell? ⟨w.heap.size, 7, none⟩ = some (I x.g.os) := ⟨cc 0, cc 1, cc 2, cc 3, cc 4, cc 5, cc 6, cc 7⟩
  obtain ⟨p0, p1, p2, p3, p4, p5, p6, p7⟩ := hp
  clear h hb hV cc ho hn
  unfold DzQ
  go_enter Tryz.func14, Tryz.ntmps14
  go_upto_region 1 with fail
  generalize w.alloc (.cells #[I 1, .bool x.o.isr, I x.o.id, I x.n, .bool x.all, .bool x.g.shut, I x.g.all, I x.g.os] 51) = w1 at *
  generalize w.heap.size = X at *
  have hST : Hid (∀ W', Fz (Nb y B P a b) w1 W' → W'.cell? ⟨X, 0, none⟩ = some (I 1) ∧ W'.cell? ⟨X, 1, none⟩ = some (.bool x.o.isr) ∧ W'.cell? ⟨X, 2, none⟩ = some (I x.o.id) ∧ W'.cell? ⟨X, 3, none⟩ = some (I x.n) ∧ W'.cell? ⟨X, 4, none⟩ = some (.bool x.all) ∧ W'.cell? ⟨X, 5, none⟩ = some (.bool x.g.shut) ∧ W'.cell? ⟨X, 6, none⟩ = some (I x.g.all) ∧ W'.cell? ⟨X, 7, none⟩ = some (I x.g.os)) := fun W' hf => ⟨hf.cell p0 HX.out, hf.cell p1 HX.out, hf.cell p2 HX.out, hf.cell p3 HX.out, hf.cell p4 HX.out, hf.cell p5 HX.out, hf.cell p6 HX.out, hf.cell p7 HX.out⟩
  have H1 : Hid (Bt W w1 tb v Z y B P a b s s) := h1
  clear h1
  have hG : ∀ W', Below w1.heap.size w1 W' → Calls Tryz.prog 11 #[lp B, .agg #[.bool x.o.isr, I x.o.id], I x.n] W' fun e w' => e = .returned (I (getA tb s x.o x.n)) ∧ Bt W w' tb v Z y B P a b (getS tb s x.o x.n) s ∧ Fz (Nb y B P a b) w1 w' := fun W' hb => (pGet (H1.out.below hb) x.o ho1.out x.n hn1.out).mono (fun e w' k => PrQ.up hb k)
  have hD : ∀ W2, Bt W W2 tb v Z y B P a b (getS tb s x.o x.n) s → Fz (Nb y B P a b) w1 W2 → ∀ W', Below W2.heap.size W2 W' → Calls Tryz.prog 43 #[lp P, .agg #[.bool x.o.isr, I x.o.id], I x.n] W' fun e w' => e = .returned (I (getA tb s x.o x.n)) ∧ (∃ a' b', Bt W w' tb v Z y B P a' b' (getS tb s x.o x.n) (getS tb s x.o x.n)) ∧ Fz (Nb y B P a b) w1 w' := fun W2 hk hf W' hb => (dGet (hk.below hb) x.o x.n rfl).mono (fun e w' k => DoQ.up hf hb k)
  generalize getA tb s x.o x.n = A at *
  go_upto_region 3 with fail
  go_region_held_law (fun W' => W'.cell? ⟨X, 0, none⟩ = some (I 1) ∧ W'.cell? ⟨X, 1, none⟩ = some (.bool x.o.isr) ∧ W'.cell? ⟨X, 2, none⟩ = some (I x.o.id) ∧ W'.cell? ⟨X, 3, none⟩ = some (I x.n) ∧ W'.cell? ⟨X, 4, none⟩ = some (.bool x.all) ∧ W'.cell? ⟨X, 5, none⟩ = some (.bool x.g.shut) ∧ W'.cell? ⟨X, 6, none⟩ = some (I x.g.all) ∧ W'.cell? ⟨X, 7, none⟩ = some (I x.g.os)) (first | exact ⟨p0, p1, p2, p3, p4, p5, p6, p7⟩ | exact c3 | exact c2 | (go_keep; done)) (first
    | (go_at_call 11; refine (hG _ (by first | exact (Below.refl _ _).drew | exact Below.refl _ _ | exact (Below.refl _ _).drew.drew | exact St.below_drewN _ (Below.refl _ _))).mono ?_; rintro e w2 ⟨rfl, k2, f2⟩; have c2 := hST.out w2 f2)
    | (go_at_call 43; refine (hD _ k2 f2 _ (by first | exact (Below.refl _ _).drew | exact Below.refl _ _ | exact (Below.refl _ _).drew.drew | exact St.below_drewN _ (Below.refl _ _))).mono ?_; rintro e w3 ⟨rfl, k3, f3⟩; have c3 := hST.out w3 f3))
  have HK : Hid ((∃ a' b', Bt W w3 tb v Z y B P a' b' (getS tb s x.o x.n) (getS tb s x.o x.n)) ∧ Fz (Nb y B P a b) w1 w3) := ⟨k3, f3⟩
  clear k3 f3 c3 c2 k2 f2 hG hD p0 p1 p2 p3 p4 p5 p6 p7 hST
  go_wp2
  go_ret
  obtain ⟨a', b', hk⟩ := HK.out.1
  exact ⟨rfl, ⟨a', b', _, hk⟩, HF.out.trans HK.out.2⟩
theorem does_2 (h : Bt W w tb v Z y B P a b s s) (x : Cl) (ho : x.o.wf) (hn : (Lit.int .i64 x.n).wf = true) : Calls Tryz.prog 14 #[lp B, lp P, .agg #[I 2, .bool x.o.isr, I x.o.id, I x.n, .bool x.all, .bool x.g.shut, I x.g.all, I x.g.os]] w (DzQ W w tb v Z y B P a b) := by
  have hb := below_alloc w (.cells #[I 2, .bool x.o.isr, I x.o.id, I x.n, .bool x.all, .bool x.g.shut, I x.g.all, I x.g.os] 51)
  have hV := heap_alloc_new w (.cells #[I 2, .bool x.o.isr, I x.o.id, I x.n, .bool x.all, .bool x.g.shut, I x.g.all, I x.g.os] 51)
  have h1 := h.below hb
  have HF : Hid (Fz (Nb y B P a b) w (w.alloc (.cells #[I 2, .bool x.o.isr, I x.o.id, I x.n, .bool x.all, .bool x.g.shut, I x.g.all, I x.g.os] 51))) := Fz.of_below hb
  have HX : Hid (¬ Nb y B P a b w.heap.size) := fun e => by have := h.X e; omega
  obtain ⟨ho1, hn1⟩ : Hid x.o.wf ∧ Hid ((Lit.int .i64 x.n).wf = true) := ⟨ho, hn⟩
  have hl : Hid (s.i.length = tb.tasks.length) := h.d.n
  have hnd : Hid ((s.L.map (·.2)).Nodup) := h.k.ok.nd
  have cc := fun j => cell_of_row _ _ j _ _ (0, 0) hV
  have hp : (w.alloc (.cells #[I 2, .bool x.o.isr, I x.o.id, I x.n, .bool x.all, .bool x.g.shut, I x.g.all, I x.g.os] 51)).cell? ⟨w.heap.size, 0, none⟩ = some (I 2) ∧ (w.alloc (.cells #[I 2, .bool x.o.isr, I x.o.id, I x.n, .bool x.all, .bool x.g.shut, I x.g.all, I x.g.os] 51)).cell? ⟨w.heap.size, 1, none⟩ = some (.bool x.o.isr) ∧ (w.alloc (.cells #[I 2, .bool x.o.isr, I x.o.id, I x.n, .bool x.all, .bool x.g.shut, I x.g.all, I x.g.os] 51)).cell? ⟨w.heap.size, 2, none⟩ = some (I x.o.id) ∧ (w.alloc (.cells #[I 2, .bool x.o.isr, I x.o.id, I x.n, .bool x.all, .bool x.g.shut, I x.g.all, I x.g.os] 51)).cell? ⟨w.heap.size, 3, none⟩ = some (I x.n) ∧ (w.alloc (.cells #[I 2, .bool x.o.isr, I x.o.id, I x.n, .bool x.all, .bool x.g.shut, I x.g.all, I x.g.os] 51)).cell? ⟨w.heap.size, 4, none⟩ = some (.bool x.all) ∧ (w.alloc (.cells #[I 2, .bool x.o.isr, I x.o.id, I x.n, .bool x.all, .bool x.g.shut, I x.g.all, I x.g.os] 51)).cell? ⟨w.heap.size, 5, none⟩ = some (.bool x.g.shut) ∧ (w.alloc (.cells #[I 2, .bool x.o.isr, I x.o.id, I x.n, .bool x.all, .bool x.g.shut, I x.g.all, I x.g.os] 51)).cell? ⟨w.heap.size, 6, none⟩ = some (I x.g.all) ∧ (w.alloc (.cells #[I 2, .bool x.o.isr, I x.o.id, I x.n, .bool x.all, .bool x.g.shut, I x.g.all, I x.g.os] 51)).cell? ⟨w.heap.size, 7, none⟩ = some (I x.g.os) := ⟨cc 0, cc 1, cc 2, cc 3, cc 4, cc 5, cc 6, cc 7⟩
  obtain ⟨p0, p1, p2, p3, p4, p5, p6, p7⟩ := hp
  clear h hb hV cc ho hn
  unfold DzQ
  go_enter Tryz.func14, Tryz.ntmps14
  go_upto_region 1 with fail
  generalize w.alloc (.cells #[I 2, .bool x.o.isr, I x.o.id, I x.n, .bool x.all, .bool x.g.shut, I x.g.all, I x.g.os] 51) = w1 at *
  generalize w.heap.size = X at *
  have hST : Hid (∀ W', Fz (Nb y B P a b) w1 W' → W'.cell? ⟨X, 0, none⟩ = some (I 2) ∧ W'.cell? ⟨X, 1, none⟩ = some (.bool x.o.isr) ∧ W'.cell? ⟨X, 2, none⟩ = some (I x.o.id) ∧ W'.cell? ⟨X, 3, none⟩ = some (I x.n) ∧ W'.cell? ⟨X, 4, none⟩ = some (.bool x.all) ∧ W'.cell? ⟨X, 5, none⟩ = some (.bool x.g.shut) ∧ W'.cell? ⟨X, 6, none⟩ = some (I x.g.all) ∧ W'.cell? ⟨X, 7, none⟩ = some (I x.g.os)) := fun W' hf => ⟨hf.cell p0 HX.out, hf.cell p1 HX.out, hf.cell p2 HX.out, hf.cell p3 HX.out, hf.cell p4 HX.out, hf.cell p5 HX.out, hf.cell p6 HX.out, hf.cell p7 HX.out⟩
  have H1 : Hid (Bt W w1 tb v Z y B P a b s s) := h1
  clear h1
  have hG : ∀ W', Below w1.heap.size w1 W' → Calls Tryz.prog 16 #[lp B, .agg #[.bool x.o.isr, I x.o.id], I x.n] W' fun e w' => e = .returned (I (relA tb s x.o x.n)) ∧ Bt W w' tb v Z y B P a b (relS tb s x.o x.n) s ∧ Fz (Nb y B P a b) w1 w' := fun W' hb => (pRelease (H1.out.below hb) x.o ho1.out x.n).mono (fun e w' k => PrQ.up hb k)
  have hD : ∀ W2, Bt W W2 tb v Z y B P a b (relS tb s x.o x.n) s → Fz (Nb y B P a b) w1 W2 → ∀ W', Below W2.heap.size W2 W' → Calls Tryz.prog 44 #[lp P, .agg #[.bool x.o.isr, I x.o.id], I x.n] W' fun e w' => e = .returned (I (relA tb s x.o x.n)) ∧ (∃ a' b', Bt W w' tb v Z y B P a' b' (relS tb s x.o x.n) (relS tb s x.o x.n)) ∧ Fz (Nb y B P a b) w1 w' := fun W2 hk hf W' hb => (dRelease (hk.below hb) x.o x.n rfl hnd.out).mono (fun e w' k => DoQ.up hf hb k)
  generalize relA tb s x.o x.n = A at *
  go_upto_region 5 with fail
  go_region_held_law (fun W' => W'.cell? ⟨X, 0, none⟩ = some (I 2) ∧ W'.cell? ⟨X, 1, none⟩ = some (.bool x.o.isr) ∧ W'.cell? ⟨X, 2, none⟩ = some (I x.o.id) ∧ W'.cell? ⟨X, 3, none⟩ = some (I x.n) ∧ W'.cell? ⟨X, 4, none⟩ = some (.bool x.all) ∧ W'.cell? ⟨X, 5, none⟩ = some (.bool x.g.shut) ∧ W'.cell? ⟨X, 6, none⟩ = some (I x.g.all) ∧ W'.cell? ⟨X, 7, none⟩ = some (I x.g.os)) (first | exact ⟨p0, p1, p2, p3, p4, p5, p6, p7⟩ | exact c3 | exact c2 | (go_keep; done)) (first
    | (go_at_call 16; refine (hG _ (by first | exact (Below.refl _ _).drew | exact Below.refl _ _ | exact (Below.refl _ _).drew.drew | exact St.below_drewN _ (Below.refl _ _))).mono ?_; rintro e w2 ⟨rfl, k2, f2⟩; have c2 := hST.out w2 f2)
    | (go_at_call 44; refine (hD _ k2 f2 _ (by first | exact (Below.refl _ _).drew | exact Below.refl _ _ | exact (Below.refl _ _).drew.drew | exact St.below_drewN _ (Below.refl _ _))).mono ?_; rintro e w3 ⟨rfl, k3, f3⟩; have c3 := hST.out w3 f3))
  have HK : Hid ((∃ a' b', Bt W w3 tb v Z y B P a' b' (relS tb s x.o x.n) (relS tb s x.o x.n)) ∧ Fz (Nb y B P a b) w1 w3) := ⟨k3, f3⟩
  clear k3 f3 c3 c2 k2 f2 hG hD p0 p1 p2 p3 p4 p5 p6 p7 hST
  go_wp2
  go_ret
  obtain ⟨a', b', hk⟩ := HK.out.1
  exact ⟨rfl, ⟨a', b', _, hk⟩, HF.out.trans HK.out.2⟩
theorem does_4 (h : Bt W w tb v Z y B P a b s s) (x : Cl) (ho : x.o.wf) (hn : (Lit.int .i64 x.n).wf = true) : Calls Tryz.prog 14 #[lp B, lp P, .agg #[I 4, .bool x.o.isr, I x.o.id, I x.n, .bool x.all, .bool x.g.shut, I x.g.all, I x.g.os]] w (DzQ W w tb v Z y B P a b) := by
  have hb := below_alloc w (.cells #[I 4, .bool x.o.isr, I x.o.id, I x.n, .bool x.all, .bool x.g.shut, I x.g.all, I x.g.os] 51)
  have hV := heap_alloc_new w (.cells #[I 4, .bool x.o.isr, I x.o.id, I x.n, .bool x.all, .bool x.g.shut, I x.g.all, I x.g.os] 51)
  have h1 := h.below hb
  have HF : Hid (Fz (Nb y B P a b) w (w.alloc (.cells #[I 4, .bool x.o.isr, I x.o.id, I x.n, .bool x.all, .bool x.g.shut, I x.g.all, I x.g.os] 51))) := Fz.of_below hb
  have HX : Hid (¬ Nb y B P a b w.heap.size) := fun e => by have := h.X e; omega
  obtain ⟨ho1, hn1⟩ : Hid x.o.wf ∧ Hid ((Lit.int .i64 x.n).wf = true) := ⟨ho, hn⟩
  have hl : Hid (s.i.length = tb.tasks.length) := h.d.n
  have hnd : Hid ((s.L.map (·.2)).Nodup) := h.k.ok.nd
  have cc := fun j => cell_of_row _ _ j _ _ (0, 0) hV
  have hp : (w.alloc (.cells #[I 4, .bool x.o.isr, I x.o.id, I x.n, .bool x.all, .bool x.g.shut, I x.g.all, I x.g.os] 51)).cell? ⟨w.heap.size, 0, none⟩ = some (I 4) ∧ (w.alloc (.cells #[I 4, .bool x.o.isr, I x.o.id, I x.n, .bool x.all, .bool x.g.shut, I x.g.all, I x.g.os] 51)).cell? ⟨w.heap.size, 1, none⟩ = some (.bool x.o.isr) ∧ (w.alloc (.cells #[I 4, .bool x.o.isr, I x.o.id, I x.n, .bool x.all, .bool x.g.shut, I x.g.all, I x.g.os] 51)).cell? ⟨w.heap.size, 2, none⟩ = some (I x.o.id) ∧ (w.alloc (.cells #[I 4, .bool x.o.isr, I x.o.id, I x.n, .bool x.all, .bool x.g.shut, I x.g.all, I x.g.os] 51)).cell? ⟨w.heap.size, 3, none⟩ = some (I x.n) ∧ (w.alloc (.cells #[I 4, .bool x.o.isr, I x.o.id, I x.n, .bool x.all, .bool x.g.shut, I x.g.all, I x.g.os] 51)).cell? ⟨w.heap.size, 4, none⟩ = some (.bool x.all) ∧ (w.alloc (.cells #[I 4, .bool x.o.isr, I x.o.id, I x.n, .bool x.all, .bool x.g.shut, I x.g.all, I x.g.os] 51)).cell? ⟨w.heap.size, 5, none⟩ = some (.bool x.g.shut) ∧ (w.alloc (.cells #[I 4, .bool x.o.isr, I x.o.id, I x.n, .bool x.all, .bool x.g.shut, I x.g.all, I x.g.os] 51)).cell? ⟨w.heap.size, 6, none⟩ = some (I x.g.all) ∧ (w.alloc (.cells #[I 4, .bool x.o.isr, I x.o.id, I x.n, .bool x.all, .bool x.g.shut, I x.g.all, I x.g.os] 51)).cell? ⟨w.heap.size, 7, none⟩ = some (I x.g.os) := ⟨cc 0, cc 1, cc 2, cc 3, cc 4, cc 5, cc 6, cc 7⟩
  obtain ⟨p0, p1, p2, p3, p4, p5, p6, p7⟩ := hp
  clear h hb hV cc ho hn
  unfold DzQ
  go_enter Tryz.func14, Tryz.ntmps14
  go_upto_region 1 with fail
  generalize w.alloc (.cells #[I 4, .bool x.o.isr, I x.o.id, I x.n, .bool x.all, .bool x.g.shut, I x.g.all, I x.g.os] 51) = w1 at *
  generalize w.heap.size = X at *
  have hST : Hid (∀ W', Fz (Nb y B P a b) w1 W' → W'.cell? ⟨X, 0, none⟩ = some (I 4) ∧ W'.cell? ⟨X, 1, none⟩ = some (.bool x.o.isr) ∧ W'.cell? ⟨X, 2, none⟩ = some (I x.o.id) ∧ W'.cell? ⟨X, 3, none⟩ = some (I x.n) ∧ W'.cell? ⟨X, 4, none⟩ = some (.bool x.all) ∧ W'.cell? ⟨X, 5, none⟩ = some (.bool x.g.shut) ∧ W'.cell? ⟨X, 6, none⟩ = some (I x.g.all) ∧ W'.cell? ⟨X, 7, none⟩ = some (I x.g.os)) := fun W' hf => ⟨hf.cell p0 HX.out, hf.cell p1 HX.out, hf.cell p2 HX.out, hf.cell p3 HX.out, hf.cell p4 HX.out, hf.cell p5 HX.out, hf.cell p6 HX.out, hf.cell p7 HX.out⟩
  have H1 : Hid (Bt W w1 tb v Z y B P a b s s) := h1
  clear h1
  have hG : ∀ W', Below w1.heap.size w1 W' → Calls Tryz.prog 12 #[lp B, I x.n] W' fun e w' => e = .returned (I (entA tb x.n)) ∧ Bt W w' tb v Z y B P a b (entS tb s x.n true) s ∧ Fz (Nb y B P a b) w1 w' := fun W' hb => (pEnter (H1.out.below hb) hl.out x.n hn1.out).mono (fun e w' k => PrQ.up hb k)
  have hD : ∀ W2, Bt W W2 tb v Z y B P a b (entS tb s x.n true) s → Fz (Nb y B P a b) w1 W2 → ∀ W', Below W2.heap.size W2 W' → Calls Tryz.prog 46 #[lp P, I x.n, .bool true] W' fun e w' => e = .returned (I (entA tb x.n)) ∧ (∃ a' b', Bt W w' tb v Z y B P a' b' (entS tb s x.n true) (entS tb s x.n true)) ∧ Fz (Nb y B P a b) w1 w' := fun W2 hk hf W' hb => (dEnter (hk.below hb) x.n true rfl).mono (fun e w' k => DoQ.up hf hb k)
  generalize entA tb x.n = A at *
  go_upto_region 11 with fail
  go_region_held_law (fun W' => W'.cell? ⟨X, 0, none⟩ = some (I 4) ∧ W'.cell? ⟨X, 1, none⟩ = some (.bool x.o.isr) ∧ W'.cell? ⟨X, 2, none⟩ = some (I x.o.id) ∧ W'.cell? ⟨X, 3, none⟩ = some (I x.n) ∧ W'.cell? ⟨X, 4, none⟩ = some (.bool x.all) ∧ W'.cell? ⟨X, 5, none⟩ = some (.bool x.g.shut) ∧ W'.cell? ⟨X, 6, none⟩ = some (I x.g.all) ∧ W'.cell? ⟨X, 7, none⟩ = some (I x.g.os)) (first | exact ⟨p0, p1, p2, p3, p4, p5, p6, p7⟩ | exact c3 | exact c2 | (go_keep; done)) (first
    | (go_at_call 12; refine (hG _ (by first | exact (Below.refl _ _).drew | exact Below.refl _ _ | exact (Below.refl _ _).drew.drew | exact St.below_drewN _ (Below.refl _ _))).mono ?_; rintro e w2 ⟨rfl, k2, f2⟩; have c2 := hST.out w2 f2)
    | (go_at_call 46; refine (hD _ k2 f2 _ (by first | exact (Below.refl _ _).drew | exact Below.refl _ _ | exact (Below.refl _ _).drew.drew | exact St.below_drewN _ (Below.refl _ _))).mono ?_; rintro e w3 ⟨rfl, k3, f3⟩; have c3 := hST.out w3 f3))
  have HK : Hid ((∃ a' b', Bt W w3 tb v Z y B P a' b' (entS tb s x.n true) (entS tb s x.n true)) ∧ Fz (Nb y B P a b) w1 w3) := ⟨k3, f3⟩
  clear k3 f3 c3 c2 k2 f2 hG hD p0 p1 p2 p3 p4 p5 p6 p7 hST
  go_wp2
  go_ret
  obtain ⟨a', b', hk⟩ := HK.out.1
  exact ⟨rfl, ⟨a', b', _, hk⟩, HF.out.trans HK.out.2⟩
theorem does_5 (h : Bt W w tb v Z y B P a b s s) (x : Cl) (ho : x.o.wf) (hn : (Lit.int .i64 x.n).wf = true) : Calls Tryz.prog 14 #[lp B, lp P, .agg #[I 5, .bool x.o.isr, I x.o.id, I x.n, .bool x.all, .bool x.g.shut, I x.g.all, I x.g.os]] w (DzQ W w tb v Z y B P a b) := by
  have hb := below_alloc w (.cells #[I 5, .bool x.o.isr, I x.o.id, I x.n, .bool x.all, .bool x.g.shut, I x.g.all, I x.g.os] 51)
  have hV := heap_alloc_new w (.cells #[I 5, .bool x.o.isr, I x.o.id, I x.n, .bool x.all, .bool x.g.shut, I x.g.all, I x.g.os] 51)
  have h1 := h.below hb
  have HF : Hid (Fz (Nb y B P a b) w (w.alloc (.cells #[I 5, .bool x.o.isr, I x.o.id, I x.n, .bool x.all, .bool x.g.shut, I x.g.all, I x.g.os] 51))) := Fz.of_below hb
  have HX : Hid (¬ Nb y B P a b w.heap.size) := fun e => by have := h.X e; omega
  obtain ⟨ho1, hn1⟩ : Hid x.o.wf ∧ Hid ((Lit.int .i64 x.n).wf = true) := ⟨ho, hn⟩
  have hl : Hid (s.i.length = tb.tasks.length) := h.d.n
  have hnd : Hid ((s.L.map (·.2)).Nodup) := h.k.ok.nd
  have cc := fun j => cell_of_row _ _ j _ _ (0, 0) hV
  have hp : (w.alloc (.cells #[I 5, .bool x.o.isr, I x.o.id, I x.n, .bool x.all, .bool x.g.shut, I x.g.all, I x.g.os] 51)).cell? ⟨w.heap.size, 0, none⟩ = some (I 5) ∧ (w.alloc (.cells #[I 5, .bool x.o.isr, I x.o.id, I x.n, .bool x.all, .bool x.g.shut, I x.g.all, I x.g.os] 51)).cell? ⟨w.heap.size, 1, none⟩ = some (.bool x.o.isr) ∧ (w.alloc (.cells #[I 5, .bool x.o.isr, I x.o.id, I x.n, .bool x.all, .bool x.g.shut, I x.g.all, I x.g.os] 51)).cell? ⟨w.heap.size, 2, none⟩ = some (I x.o.id) ∧ (w.alloc (.cells #[I 5, .bool x.o.isr, I x.o.id, I x.n, .bool x.all, .bool x.g.shut, I x.g.all, I x.g.os] 51)).cell? ⟨w.heap.size, 3, none⟩ = some (I x.n) ∧ (w.alloc (.cells #[I 5, .bool x.o.isr, I x.o.id, I x.n, .bool x.all, .bool x.g.shut, I x.g.all, I x.g.os] 51)).cell? ⟨w.heap.size, 4, none⟩ = some (.bool x.all) ∧ (w.alloc (.cells #[I 5, .bool x.o.isr, I x.o.id, I x.n, .bool x.all, .bool x.g.shut, I x.g.all, I x.g.os] 51)).cell? ⟨w.heap.size, 5, none⟩ = some (.bool x.g.shut) ∧ (w.alloc (.cells #[I 5, .bool x.o.isr, I x.o.id, I x.n, .bool x.all, .bool x.g.shut, I x.g.all, I x.g.os] 51)).cell? ⟨w.heap.size, 6, none⟩ = some (I x.g.all) ∧ (w.alloc (.cells #[I 5, .bool x.o.isr, I x.o.id, I x.n, .bool x.all, .bool x.g.shut, I x.g.all, I x.g.os] 51)).cell? ⟨w.heap.size, 7, none⟩ = some (I x.g.os) := ⟨cc 0, cc 1, cc 2, cc 3, cc 4, cc 5, cc 6, cc 7⟩
  obtain ⟨p0, p1, p2, p3, p4, p5, p6, p7⟩ := hp
  clear h hb hV cc ho hn
  unfold DzQ
  go_enter Tryz.func14, Tryz.ntmps14
  go_upto_region 1 with fail
  generalize w.alloc (.cells #[I 5, .bool x.o.isr, I x.o.id, I x.n, .bool x.all, .bool x.g.shut, I x.g.all, I x.g.os] 51) = w1 at *
  generalize w.heap.size = X at *
  have hST : Hid (∀ W', Fz (Nb y B P a b) w1 W' → W'.cell? ⟨X, 0, none⟩ = some (I 5) ∧ W'.cell? ⟨X, 1, none⟩ = some (.bool x.o.isr) ∧ W'.cell? ⟨X, 2, none⟩ = some (I x.o.id) ∧ W'.cell? ⟨X, 3, none⟩ = some (I x.n) ∧ W'.cell? ⟨X, 4, none⟩ = some (.bool x.all) ∧ W'.cell? ⟨X, 5, none⟩ = some (.bool x.g.shut) ∧ W'.cell? ⟨X, 6, none⟩ = some (I x.g.all) ∧ W'.cell? ⟨X, 7, none⟩ = some (I x.g.os)) := fun W' hf => ⟨hf.cell p0 HX.out, hf.cell p1 HX.out, hf.cell p2 HX.out, hf.cell p3 HX.out, hf.cell p4 HX.out, hf.cell p5 HX.out, hf.cell p6 HX.out, hf.cell p7 HX.out⟩
  have H1 : Hid (Bt W w1 tb v Z y B P a b s s) := h1
  clear h1
  have hG : ∀ W', Below w1.heap.size w1 W' → Calls Tryz.prog 24 #[lp B, I x.n] W' fun e w' => e = .returned (I (entA tb x.n)) ∧ Bt W w' tb v Z y B P a b (entS tb s x.n false) s ∧ Fz (Nb y B P a b) w1 w' := fun W' hb => (pLeave (H1.out.below hb) hl.out x.n hn1.out).mono (fun e w' k => PrQ.up hb k)
  have hD : ∀ W2, Bt W W2 tb v Z y B P a b (entS tb s x.n false) s → Fz (Nb y B P a b) w1 W2 → ∀ W', Below W2.heap.size W2 W' → Calls Tryz.prog 46 #[lp P, I x.n, .bool false] W' fun e w' => e = .returned (I (entA tb x.n)) ∧ (∃ a' b', Bt W w' tb v Z y B P a' b' (entS tb s x.n false) (entS tb s x.n false)) ∧ Fz (Nb y B P a b) w1 w' := fun W2 hk hf W' hb => (dEnter (hk.below hb) x.n false rfl).mono (fun e w' k => DoQ.up hf hb k)
  generalize entA tb x.n = A at *
  go_upto_region 13 with fail
  go_region_held_law (fun W' => W'.cell? ⟨X, 0, none⟩ = some (I 5) ∧ W'.cell? ⟨X, 1, none⟩ = some (.bool x.o.isr) ∧ W'.cell? ⟨X, 2, none⟩ = some (I x.o.id) ∧ W'.cell? ⟨X, 3, none⟩ = some (I x.n) ∧ W'.cell? ⟨X, 4, none⟩ = some (.bool x.all) ∧ W'.cell? ⟨X, 5, none⟩ = some (.bool x.g.shut) ∧ W'.cell? ⟨X, 6, none⟩ = some (I x.g.all) ∧ W'.cell? ⟨X, 7, none⟩ = some (I x.g.os)) (first | exact ⟨p0, p1, p2, p3, p4, p5, p6, p7⟩ | exact c3 | exact c2 | (go_keep; done)) (first
    | (go_at_call 24; refine (hG _ (by first | exact (Below.refl _ _).drew | exact Below.refl _ _ | exact (Below.refl _ _).drew.drew | exact St.below_drewN _ (Below.refl _ _))).mono ?_; rintro e w2 ⟨rfl, k2, f2⟩; have c2 := hST.out w2 f2)
    | (go_at_call 46; refine (hD _ k2 f2 _ (by first | exact (Below.refl _ _).drew | exact Below.refl _ _ | exact (Below.refl _ _).drew.drew | exact St.below_drewN _ (Below.refl _ _))).mono ?_; rintro e w3 ⟨rfl, k3, f3⟩; have c3 := hST.out w3 f3))
  have HK : Hid ((∃ a' b', Bt W w3 tb v Z y B P a' b' (entS tb s x.n false) (entS tb s x.n false)) ∧ Fz (Nb y B P a b) w1 w3) := ⟨k3, f3⟩
  clear k3 f3 c3 c2 k2 f2 hG hD p0 p1 p2 p3 p4 p5 p6 p7 hST
  go_wp2
  go_ret
  obtain ⟨a', b', hk⟩ := HK.out.1
  exact ⟨rfl, ⟨a', b', _, hk⟩, HF.out.trans HK.out.2⟩
theorem does_10 (h : Bt W w tb v Z y B P a b s s) (x : Cl) (ho : x.o.wf) (hn : (Lit.int .i64 x.n).wf = true) : Calls Tryz.prog 14 #[lp B, lp P, .agg #[I 10, .bool x.o.isr, I x.o.id, I x.n, .bool x.all, .bool x.g.shut, I x.g.all, I x.g.os]] w (DzQ W w tb v Z y B P a b) := by
  have hb := below_alloc w (.cells #[I 10, .bool x.o.isr, I x.o.id, I x.n, .bool x.all, .bool x.g.shut, I x.g.all, I x.g.os] 51)
  have hV := heap_alloc_new w (.cells #[I 10, .bool x.o.isr, I x.o.id, I x.n, .bool x.all, .bool x.g.shut, I x.g.all, I x.g.os] 51)
  have h1 := h.below hb
  have HF : Hid (Fz (Nb y B P a b) w (w.alloc (.cells #[I 10, .bool x.o.isr, I x.o.id, I x.n, .bool x.all, .bool x.g.shut, I x.g.all, I x.g.os] 51))) := Fz.of_below hb
  have HX : Hid (¬ Nb y B P a b w.heap.size) := fun e => by have := h.X e; omega
  obtain ⟨ho1, hn1⟩ : Hid x.o.wf ∧ Hid ((Lit.int .i64 x.n).wf = true) := ⟨ho, hn⟩
  have hl : Hid (s.i.length = tb.tasks.length) := h.d.n
  have hnd : Hid ((s.L.map (·.2)).Nodup) := h.k.ok.nd
  have cc := fun j => cell_of_row _ _ j _ _ (0, 0) hV
  have hp : (w.alloc (.cells #[I 10, .bool x.o.isr, I x.o.id, I x.n, .bool x.all, .bool x.g.shut, I x.g.all, I x.g.os] 51)).cell? ⟨w.heap.size, 0, none⟩ = some (I 10) ∧ (w.alloc (.cells #[I 10, .bool x.o.isr, I x.o.id, I x.n, .bool x.all, .bool x.g.shut, I x.g.all, I x.g.os] 51)).cell? ⟨w.heap.size, 1, none⟩ = some (.bool x.o.isr) ∧ (w.alloc (.cells #[I 10, .bool x.o.isr, I x.o.id, I x.n, .bool x.all, .bool x.g.shut, I x.g.all, I x.g.os] 51)).cell? ⟨w.heap.size, 2, none⟩ = some (I x.o.id) ∧ (w.alloc (.cells #[I 10, .bool x.o.isr, I x.o.id, I x.n, .bool x.all, .bool x.g.shut, I x.g.all, I x.g.os] 51)).cell? ⟨w.heap.size, 3, none⟩ = some (I x.n) ∧ (w.alloc (.cells #[I 10, .bool x.o.isr, I x.o.id, I x.n, .bool x.all, .bool x.g.shut, I x.g.all, I x.g.os] 51)).cell? ⟨w.heap.size, 4, none⟩ = some (.bool x.all) ∧ (w.alloc (.cells #[I 10, .bool x.o.isr, I x.o.id, I x.n, .bool x.all, .bool x.g.shut, I x.g.all, I x.g.os] 51)).cell? ⟨w.heap.size, 5, none⟩ = some (.bool x.g.shut) ∧ (w.alloc (.cells #[I 10, .bool x.o.isr, I x.o.id, I x.n, .bool x.all, .bool x.g.shut, I x.g.all, I x.g.os] 51)).cell? ⟨w.heap.size, 6, none⟩ = some (I x.g.all) ∧ (w.alloc (.cells #[I 10, .bool x.o.isr, I x.o.id, I x.n, .bool x.all, .bool x.g.shut, I x.g.all, I x.g.os] 51)).cell? ⟨w.heap.size, 7, none⟩ = some (I x.g.os) := ⟨cc 0, cc 1, cc 2, cc 3, cc 4, cc 5, cc 6, cc 7⟩
  obtain ⟨p0, p1, p2, p3, p4, p5, p6, p7⟩ := hp
  clear h hb hV cc ho hn
  unfold DzQ
  go_enter Tryz.func14, Tryz.ntmps14
  go_upto_region 1 with fail
  generalize w.alloc (.cells #[I 10, .bool x.o.isr, I x.o.id, I x.n, .bool x.all, .bool x.g.shut, I x.g.all, I x.g.os] 51) = w1 at *
  generalize w.heap.size = X at *
  have hST : Hid (∀ W', Fz (Nb y B P a b) w1 W' → W'.cell? ⟨X, 0, none⟩ = some (I 10) ∧ W'.cell? ⟨X, 1, none⟩ = some (.bool x.o.isr) ∧ W'.cell? ⟨X, 2, none⟩ = some (I x.o.id) ∧ W'.cell? ⟨X, 3, none⟩ = some (I x.n) ∧ W'.cell? ⟨X, 4, none⟩ = some (.bool x.all) ∧ W'.cell? ⟨X, 5, none⟩ = some (.bool x.g.shut) ∧ W'.cell? ⟨X, 6, none⟩ = some (I x.g.all) ∧ W'.cell? ⟨X, 7, none⟩ = some (I x.g.os)) := fun W' hf => ⟨hf.cell p0 HX.out, hf.cell p1 HX.out, hf.cell p2 HX.out, hf.cell p3 HX.out, hf.cell p4 HX.out, hf.cell p5 HX.out, hf.cell p6 HX.out, hf.cell p7 HX.out⟩
  have H1 : Hid (Bt W w1 tb v Z y B P a b s s) := h1
  clear h1
  have hG : ∀ W', Below w1.heap.size w1 W' → Calls Tryz.prog 28 #[lp B, .agg #[.bool x.g.shut, I x.g.all, I x.g.os]] W' fun e w' => e = .returned (I (putA x.g)) ∧ Bt W w' tb v Z y B P a b (putS s x.g) s ∧ Fz (Nb y B P a b) w1 w' := fun W' hb => (pPut (H1.out.below hb) x.g).mono (fun e w' k => PrQ.up hb k)
  have hD : ∀ W2, Bt W W2 tb v Z y B P a b (putS s x.g) s → Fz (Nb y B P a b) w1 W2 → ∀ W', Below W2.heap.size W2 W' → Calls Tryz.prog 48 #[lp P, .agg #[.bool x.g.shut, I x.g.all, I x.g.os]] W' fun e w' => e = .returned (I (putA x.g)) ∧ (∃ a' b', Bt W w' tb v Z y B P a' b' (putS s x.g) (putS s x.g)) ∧ Fz (Nb y B P a b) w1 w' := fun W2 hk hf W' hb => (dPut (hk.below hb) x.g rfl).mono (fun e w' k => DoQ.up hf hb k)
  generalize putA x.g = A at *
  go_upto_region 27 with fail
  go_region_held_law (fun W' => W'.cell? ⟨X, 0, none⟩ = some (I 10) ∧ W'.cell? ⟨X, 1, none⟩ = some (.bool x.o.isr) ∧ W'.cell? ⟨X, 2, none⟩ = some (I x.o.id) ∧ W'.cell? ⟨X, 3, none⟩ = some (I x.n) ∧ W'.cell? ⟨X, 4, none⟩ = some (.bool x.all) ∧ W'.cell? ⟨X, 5, none⟩ = some (.bool x.g.shut) ∧ W'.cell? ⟨X, 6, none⟩ = some (I x.g.all) ∧ W'.cell? ⟨X, 7, none⟩ = some (I x.g.os)) (first | exact ⟨p0, p1, p2, p3, p4, p5, p6, p7⟩ | exact c3 | exact c2 | (go_keep; done)) (first
    | (go_at_call 28; refine (hG _ (by first | exact (Below.refl _ _).drew | exact Below.refl _ _ | exact (Below.refl _ _).drew.drew | exact St.below_drewN _ (Below.refl _ _))).mono ?_; rintro e w2 ⟨rfl, k2, f2⟩; have c2 := hST.out w2 f2)
    | (go_at_call 48; refine (hD _ k2 f2 _ (by first | exact (Below.refl _ _).drew | exact Below.refl _ _ | exact (Below.refl _ _).drew.drew | exact St.below_drewN _ (Below.refl _ _))).mono ?_; rintro e w3 ⟨rfl, k3, f3⟩; have c3 := hST.out w3 f3))
  have HK : Hid ((∃ a' b', Bt W w3 tb v Z y B P a' b' (putS s x.g) (putS s x.g)) ∧ Fz (Nb y B P a b) w1 w3) := ⟨k3, f3⟩
  clear k3 f3 c3 c2 k2 f2 hG hD p0 p1 p2 p3 p4 p5 p6 p7 hST
  go_wp2
  go_ret
  obtain ⟨a', b', hk⟩ := HK.out.1
  exact ⟨rfl, ⟨a', b', _, hk⟩, HF.out.trans HK.out.2⟩
end
end Go.Proofs.YtmllocfeflhjoaaGreat
