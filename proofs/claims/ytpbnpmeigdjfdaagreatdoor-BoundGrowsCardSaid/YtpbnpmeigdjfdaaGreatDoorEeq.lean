import Derived.Test.YtpbnpmeigdjfdaaGreatDoorEep
import Derived.Deep.Cut
namespace Go.Proofs.YtpbnpmeigdjfdaaGreatDoor.Ce
open Go.Maps Go.RowKit
set_option linter.unusedSimpArgs false
set_option linter.unusedVariables false
set_option maxHeartbeats 16000000
set_option maxRecDepth 100000
structure OwnC (w w' : World) (x : Ce) (s0 s2 s3 s4 : Sl) : Prop where
 a : w'.ownsRow w.heap.size 3 1 (.slice s0.a s0.n s0.c) x.res.length (x.res.map fun x => I x)
 b : w'.ownsRow w.heap.size 3 1 (.slice s2.a s2.n s2.c) x.run.length (x.run.map fun x => I x)
 c : w'.ownsRow w.heap.size 3 1 (.slice s3.a s3.n s3.c) x.tks.length (x.tks.map fun x => I x)
 d : w'.ownsRow w.heap.size 3 1 (.slice s4.a s4.n s4.c) x.isr.length (x.isr.map fun x => I x)
 ap : List.Pairwise (fun u v : Value => ∀ g, u.ownBlock = some g → v.ownBlock ≠ some g) [.slice s0.a s0.n s0.c, .slice s2.a s2.n s2.c, .slice s3.a s3.n s3.c, .slice s4.a s4.n s4.c]
def RckP (w : World) (x : Ce) (k : Int) (e : Ending) (w' : World) : Prop := ∃ s0 s2 s3 s4 : Sl, e = .returned (.tuple #[.agg (ceC x.sch s0 s2 s3 s4), I k]) ∧ OwnC w w' x s0 s2 s3 s4 ∧ Below w.heap.size w w'
def rckX (c : Cf) : Ce := if lookE c = 0 then ⟨ceilL c, schE c, c.tasks.map (runP c), cntT c c.tasks.length, cntI c c.isrs.length⟩ else ⟨[], 0, [], [], []⟩
def nilS : Sl := ⟨none, 0, 0⟩
theorem rck_nil {w w' : World} {x : Ce} {k k' : Int} (hx : x = ⟨[], 0, [], [], []⟩) (hk : k' = k) (hb : Below w.heap.size w w') : RckP w x k (.returned (.tuple #[.agg #[.slice none 0 0, I 0, .slice none 0 0, .slice none 0 0, .slice none 0 0], I k'])) w' := by
 subst hx
 subst hk
 refine ⟨nilS, nilS, nilS, nilS, rfl, ⟨World.ownsRow_nil _ _ _ _, World.ownsRow_nil _ _ _ _, World.ownsRow_nil _ _ _ _, World.ownsRow_nil _ _ _ _, ?_⟩, hb⟩
 simp [nilS, Value.ownBlock]
theorem res_ce {fn : Func} {n m : Nat} (hf : fn.results = #[.cell n 66, .tmp m]) (tmps : Array Value) (b : Nat) (w : World) (v0 v1 v2 v3 v4 v5 : Value)
  (h2 : tmps[n]? = some (.pointer (some ⟨b, 0, none⟩))) (h3 : tmps[m]? = some v5) (hk : w.heap[b]? = some (.cells #[v0, v1, v2, v3, v4] 66 (0, 0))) :
  (results fn tmps).run Tryz.prog w = .ok (.tuple #[.agg #[v0, v1, v2, v3, v4], v5]) w := by
 have a1 := fun i => cell_of_row w b i _ _ (0, 0) hk
 have z0 := a1 0; have z1 := a1 1; have z2 := a1 2; have z3 := a1 3; have z4 := a1 4
 simp at z0 z1 z2 z3 z4
 simp [results, hf, go_sem, h2, h3, z0, z1, z2, z3, z4]
theorem set5_at (w : World) (b : Nat) (t : TypeId) (o0 o1 o2 o3 o4 v0 v1 v2 v3 v4 : Value) (k : w.heap[b]? = some (.cells #[o0, o1, o2, o3, o4] t (0, 0))) : (((((w.setCell ⟨b, 0, none⟩ v0).setCell ⟨b, 1, none⟩ v1).setCell ⟨b, 2, none⟩ v2).setCell ⟨b, 3, none⟩ v3).setCell ⟨b, 4, none⟩ v4).heap[b]? = some (.cells #[v0, v1, v2, v3, v4] t (0, 0)) := by
 have h0 := heap_setCell_same w b 0 _ _ v0 k
 have h1 := heap_setCell_same _ b 1 _ _ v1 h0
 have h2 := heap_setCell_same _ b 2 _ _ v2 h1
 have h3 := heap_setCell_same _ b 3 _ _ v3 h2
 exact heap_setCell_same _ b 4 _ _ v4 h3
theorem grown_set5 (w : World) (b : Nat) (v0 v1 v2 v3 v4 : Value) : w.grownBy (((((w.setCell ⟨b, 0, none⟩ v0).setCell ⟨b, 1, none⟩ v1).setCell ⟨b, 2, none⟩ v2).setCell ⟨b, 3, none⟩ v3).setCell ⟨b, 4, none⟩ v4) (some b) := grown_same (grown_same (grown_same (grown_same (grown_set w b 0 v0) (grown_set _ b 1 v1)) (grown_set _ b 2 v2)) (grown_set _ b 3 v3)) (grown_set _ b 4 v4)
theorem row5 {w : World} {b : Nat} {t : TypeId} {v0 v1 v2 v3 v4 : Value} (k : w.heap[b]? = some (.cells #[v0, v1, v2, v3, v4] t (0, 0))) : w.cell? ⟨b, 0, none⟩ = some v0 ∧ w.cell? ⟨b, 1, none⟩ = some v1 ∧ w.cell? ⟨b, 2, none⟩ = some v2 ∧ w.cell? ⟨b, 3, none⟩ = some v3 ∧ w.cell? ⟨b, 4, none⟩ = some v4 := by
 have a1 := fun i => cell_of_row w b i _ _ (0, 0) k
 exact ⟨a1 0, a1 1, a1 2, a1 3, a1 4⟩
theorem grown_row (w : World) (g : Nat) (cs : Array Value) : w.grownBy (w.setRow g cs) (some g) := ⟨rfl, rfl, rfl, by simp, fun j _ hj => setRow_other w g j cs (fun e => hj (by rw [e]))⟩
def ceZ : Array Value := #[.slice none 0 0, I 0, .slice none 0 0, .slice none 0 0, .slice none 0 0]
structure RkA (w : World) (c : Cf) (v : Vs) (os : Option Sl) (ox : Option (Nat × Array Value)) (W : World) : Prop where
 b : Below w.heap.size w W
 sz : w.heap.size + 2 ≤ W.heap.size
 vc : W.heap[w.heap.size]? = some (.cells (cfC c v) 33 (0, 0))
 vr : W.heap[w.heap.size + 1]? = some (.cells ceZ 66 (0, 0))
 s : ∀ s0, os = some s0 → W.ownsRow (w.heap.size + 2) 3 1 (.slice s0.a s0.n s0.c) (ceilL c).length ((ceilL c).map fun x => I x)
 x : ∀ X C, ox = some (X, C) → w.heap.size + 2 ≤ X ∧ W.heap[X]? = some (.cells C 66 (0, 0))
theorem RkA.below {w : World} {c : Cf} {v : Vs} {os : Option Sl} {ox : Option (Nat × Array Value)} {W W' : World} (h : RkA w c v os ox W) (hb : Below W.heap.size W W') : RkA w c v os ox W' :=
 ⟨h.b.trans (hb.mono h.b.size), Nat.le_trans h.sz hb.size, (hb.block _ (heap_lt h.vc)).trans h.vc, (hb.block _ (heap_lt h.vr)).trans h.vr, fun s0 e => own_below (h.s s0 e) hb, fun X C e => ⟨(h.x X C e).1, (hb.block _ (heap_lt (h.x X C e).2)).trans (h.x X C e).2⟩⟩
theorem RkA.drew {w : World} {c : Cf} {v : Vs} {os : Option Sl} {ox : Option (Nat × Array Value)} {W : World} (h : RkA w c v os ox W) : RkA w c v os ox W.drew := h.below ⟨rfl, rfl, rfl, Nat.le_refl _, fun _ _ => rfl⟩
theorem RkA.row {w : World} {c : Cf} {v : Vs} {ox : Option (Nat × Array Value)} {W W' : World} {e : Ending} (h : RkA w c v none ox W) (hc : OwnI W (ceilL c) e W') : ∃ s0 : Sl, e = .returned (.slice s0.a s0.n s0.c) ∧ RkA w c v (some s0) ox W' := by
 obtain ⟨u, rfl, hO, hb⟩ := hc
 obtain ⟨s0, rfl, _⟩ := slice_of_own hO
 have h' := h.below hb
 exact ⟨s0, rfl, h'.b, h'.sz, h'.vc, h'.vr, fun s e => by cases e; exact own_mono hO h.sz, h'.x⟩
theorem RkA.new {w : World} {c : Cf} {v : Vs} {os : Option Sl} {W : World} (h : RkA w c v os none W) (C : Array Value) : RkA w c v os (some (W.heap.size, C)) (W.alloc (.cells C 66)) := by
 have h' := h.below (below_alloc W (.cells C 66))
 exact ⟨h'.b, h'.sz, h'.vc, h'.vr, h'.s, fun X D e => by cases e; exact ⟨h.sz, heap_alloc_new _ _⟩⟩
theorem RkA.set {w : World} {c : Cf} {v : Vs} {os : Option Sl} {X : Nat} {C D : Array Value} {W W' : World} (h : RkA w c v os (some (X, C)) W) (hg : W.grownBy W' (some X)) (hx : W'.heap[X]? = some (.cells D 66 (0, 0))) : RkA w c v os (some (X, D)) W' := by
 have h1 := (h.x X C rfl).1
 refine ⟨h.b.grown hg h.b.size (fun k e => by cases e; omega), Nat.le_trans h.sz hg.size, heap_kept h.vc hg (fun e => by have := Option.some.inj e; omega), heap_kept h.vr hg (fun e => by have := Option.some.inj e; omega), fun s0 e => (h.s s0 e).kept hg ?_, fun Y E e => by cases e; exact ⟨h1, hx⟩⟩
 rcases (h.s s0 e).2 with ⟨h0, _⟩ | ⟨g, cap, cur, hv, hb1, hh, rr⟩
 ·rw [h0]; exact .inl rfl
 ·refine .inr ?_
  rw [hv]
  intro e2
  have e3 : g = X := Option.some.inj e2
  rw [e3, (h.x X C rfl).2] at hh
  injection hh with hh
  injection hh with _ e4
  exact absurd e4 (by decide)
theorem reckon_any (w : World) (c : Cf) (v : Vs) (h : CfAt w c v) (hn : c.ress.length ≤ 8796093022208) (hnt : c.tasks.length ≤ 8796093022208) (hni : c.isrs.length ≤ 8796093022208) : Calls Tryz.prog 45 #[.agg (cfC c v)] w fun e w' => RckP w (rckX c) (lookE c) e w' := by
 have hi18 : (Tryz.prog.info? 33).map (·.size) = some (cfC c v).size := by rw [show (cfC c v).size = 18 from rfl]; kernel_rfl
 have hb2 : Below w.heap.size w ((w.alloc (.cells (cfC c v) 33)).alloc (.cells ceZ 66)) := ((Below.refl w.heap.size w).alloc (Nat.le_refl _) _).alloc (by simp) _
 have hV0 := heap_two0 w (.cells (cfC c v) 33) (.cells ceZ 66)
 have hV1 := heap_two w (.cells (cfC c v) 33) (.cells ceZ 66)
 have HA0 : Hid (RkA w c v none none ((w.alloc (.cells (cfC c v) 33)).alloc (.cells ceZ 66))) := ⟨hb2, by simp, hV0, hV1, (fun _ e => by cases e), (fun _ _ e => by cases e)⟩
 have krf := clook_any _ c v (h.below hb2) hn
 have HCf : Hid (CfAt w c v) := h
 unfold ceZ at hV0 hV1 HA0 krf
 obtain ⟨E, hE⟩ : ∃ E, E = lookE c := ⟨_, rfl⟩
 rw [← hE] at krf ⊢
 have HE : Hid (E = lookE c) := hE
 have HC : Hid (∀ W : World, W.heap[w.heap.size]? = some (.cells (cfC c v) 33 (0, 0)) → W.heap[w.heap.size]? = some (.cells (cfC c v) 33 (0, 0))) := fun _ h => h
 by_cases hE0 : E = 0
 ·subst hE0
  have HX : Hid (rckX c = ⟨ceilL c, schE c, c.tasks.map (runP c), cntT c c.tasks.length, cntI c c.isrs.length⟩) := by show _ = _; unfold rckX; rw [if_pos HE.out.symm]
  have hlk := look_lk HE.out.symm
  have HKC : Hid (∀ W, RkA w c v none none W ∨ (∃ X, RkA w c v none (some (X, ceZ)) W) → ∀ b, EndsAt W b c → Calls Tryz.prog 59 #[.agg (cfC c v), .map (some b)] W fun e w' => OwnI W (ceilL c) e w') := fun W hW b hE => ceilings_any W c v (HCf.out.below (by rcases hW with h | ⟨_, h⟩ <;> exact h.b)) hn hlk.1 hlk.2.2 b hE
  have HKS : Hid (∀ W, Below w.heap.size w W → Calls Tryz.prog 60 #[.agg (cfC c v)] W fun e w' => e = .returned (I (schE c)) ∧ Below W.heap.size W w') := fun W hW => scheduler_any W c v (HCf.out.below hW)
  have HKR : Hid (∀ W, Below w.heap.size w W → ∀ s0 s2 s3 s4 : Sl, RowsAt W 1 intP s0 (ceilL c) → Calls Tryz.prog 61 #[.agg (cfC c v), .agg (ceC (schE c) s0 s2 s3 s4)] W fun e w' => OwnI W (c.tasks.map (runP c)) e w') := fun W hW s0 s2 s3 s4 h0 => running_any W c v (HCf.out.below hW) hn hnt hlk.1 s0 s2 s3 s4 h0
  have HKN : Hid (∀ W, Below w.heap.size w W → Calls Tryz.prog 62 #[.agg (cfC c v)] W fun e w' => OwnB W (cntT c c.tasks.length) (cntI c c.isrs.length) e w') := fun W hW => counts_any W c v (HCf.out.below hW) hn hnt hni hlk.1
  clear hlk h hE
  generalize hCC : cfC c v = C at *
  clear hb2 hV1
  go_enter Tryz.func45, Tryz.ntmps45
  go_upto_region 4 with (first | (refine wpList_load_row rfl 33 _ rfl w.heap.size rfl 33 _ (0, 0) _ hV0 Tryz.underlying33 rfl hi18 ?_) | (go_at_call 58; refine krf.mono ?_; rintro e w1 hp; obtain ⟨b1, rfl, hl1, hE1⟩ := hp.got rfl; have HA1 : Hid (RkA w c v none none w1 ∧ EndsAt w1 b1 c) := ⟨HA0.out.below hp.1, hE1⟩; clear krf hp hl1 hE1 HA0 hV0))
  have HVC : Hid (∀ os ox W, RkA w c v os ox W → W.heap[w.heap.size]? = some (.cells C 33 (0, 0))) := fun os ox W hA => by rw [← hCC]; exact hA.vc
  have A1 : RkA w c v none none w1.drew := HA1.out.1.drew
  have E1 : EndsAt w1.drew b1 c := HA1.out.2.below ⟨rfl, rfl, rfl, Nat.le_refl _, fun _ _ => rfl⟩
  go_cut [6] from 16 (fun s6 wx => ∃ (X : Nat) (s0 : Sl), s6 = .pointer (some ⟨X, 0, none⟩) ∧ Hid (RkA w c v (some s0) (some (X, ceC (schE c) s0 nilS nilS nilS)) wx))
  case first =>
   refine wp_region_held_drew (S := fun W' => W'.heap[w.heap.size]? = some (.cells C 33 (0, 0))) (by kernel_rfl) (HVC.out _ _ _ A1) (fun hHeld => ?_)
   refine wpAnyH_take (i := 0) (v := .agg C) rfl (by kernel_rfl) (by kernel_rfl) (by kernel_rfl) (fun _ _ _ h => h) (yieldsIf_load_row (by rfl) 33 _ rfl w.heap.size rfl 33 C (0, 0) _ (fun _ hw => hw) Tryz.underlying33 rfl hi18) hHeld ?_
   try simp only [Act.put, q7a, q7b, q7c, q7d, q7e, q7f]
   refine wpAnyH_take (i := 1) (v := ?_) rfl (by kernel_rfl) (by kernel_rfl) (by kernel_rfl) (fun _ _ _ h => h) (Or.inl ⟨by rfl, ?_⟩) hHeld ?_
   rotate_left
   ·intro w' hSw
    go_simp
    try with_reducible rfl
   try simp only [Act.put, q7a, q7b, q7c, q7d, q7e, q7f]
   refine wpAnyH_take (i := 3) (v := .agg C) rfl (by kernel_rfl) (by kernel_rfl) (by kernel_rfl) (fun _ _ _ h => h) (yieldsIf_load_row (by rfl) 33 _ rfl w.heap.size rfl 33 C (0, 0) _ (fun _ hw => hw) Tryz.underlying33 rfl hi18) hHeld ?_
   try simp only [Act.put, q7a, q7b, q7c, q7d, q7e, q7f]
   refine wpAnyH_ready (rs := [2, 6]) (by kernel_rfl) (by simp) ?_
   refine AllReadyH.cons rfl (fun K hK => ?_) (AllReadyH.cons rfl (fun K hK => ?_) AllReadyH.nil)
   ·go_simp
    go_wp2_with (go_at_call 59; refine (HKC.out _ (.inl A1) b1 E1).mono ?_; rintro e w2 hc2; obtain ⟨s0, rfl, A2⟩ := RkA.row A1 hc2)
    refine hK.out _ _ (HVC.out _ _ _ A2) (fun hHeld => ?_)
    clear hK K hc2
    try simp only [Act.put, q7a, q7b, q7c, q7d, q7e, q7f]
    refine wpAnyH_ready (rs := [4, 6]) (by kernel_rfl) (by simp) ?_
    refine AllReadyH.cons rfl (fun K hK => ?_) (AllReadyH.cons rfl (fun K hK => ?_) AllReadyH.nil)
    ·go_simp
     go_wp2_with (go_at_call 60; refine (HKS.out _ A2.b).mono ?_; rintro e w3 ⟨rfl, hb3⟩)
     have A3 := A2.below hb3
     refine hK.out _ _ (HVC.out _ _ _ A3) (fun hHeld => ?_)
     clear hK K hb3
     try simp only [Act.put, q7a, q7b, q7c, q7d, q7e, q7f]
     refine wpAnyH_take (i := 5) (v := ?_) rfl (by kernel_rfl) (by kernel_rfl) (by kernel_rfl) (fun _ _ _ h => h) (Or.inl ⟨by rfl, ?_⟩) hHeld ?_
     rotate_left
     ·intro w' hSw
      go_simp
      try with_reducible rfl
     try simp only [Act.put, q7a, q7b, q7c, q7d, q7e, q7f]
     refine wpAnyH_ready (rs := [6]) (by kernel_rfl) (by simp) ?_
     refine AllReadyH.cons rfl (fun K hK => ?_) AllReadyH.nil
     go_simp
     have A4 := RkA.new A3 ceZ
     refine hK.out _ _ (HVC.out _ _ _ A4) (fun hHeld => ?_)
     clear hK K
     try simp only [Act.put, q7a, q7b, q7c, q7d, q7e, q7f]
     refine wpAnyH_ready (rs := [7]) (by kernel_rfl) (by simp) ?_
     refine AllReadyH.cons rfl (fun K hK => ?_) AllReadyH.nil
     go_simp
     have A9 := RkA.new A3 #[.slice s0.a s0.n s0.c, I (schE c), .slice none 0 0, .slice none 0 0, .slice none 0 0]
     refine hK.out _ _ (HVC.out _ _ _ A9) (fun hHeld => ?_)
     clear hK K
     refine wpAnyH_done (by kernel_rfl) ?_ _
     go_wp2_with fail
     go_meet
     exact ⟨_, _, rfl, A9⟩
    ·go_simp
     have A3 := RkA.new A2 ceZ
     refine hK.out _ _ (HVC.out _ _ _ A3) (fun hHeld => ?_)
     clear hK K
     try simp only [Act.put, q7a, q7b, q7c, q7d, q7e, q7f]
     refine wpAnyH_ready (rs := [4]) (by kernel_rfl) (by simp) ?_
     refine AllReadyH.cons rfl (fun K hK => ?_) AllReadyH.nil
     go_simp
     go_wp2_with (go_at_call 60; refine (HKS.out _ A3.b).mono ?_; rintro e w3 ⟨rfl, hb3⟩)
     have A4 := A3.below hb3
     refine hK.out _ _ (HVC.out _ _ _ A4) (fun hHeld => ?_)
     clear hK K hb3
     try simp only [Act.put, q7a, q7b, q7c, q7d, q7e, q7f]
     refine wpAnyH_take (i := 5) (v := ?_) rfl (by kernel_rfl) (by kernel_rfl) (by kernel_rfl) (fun _ _ _ h => h) (Or.inl ⟨by rfl, ?_⟩) hHeld ?_
     rotate_left
     ·intro w' hSw
      go_simp
      try with_reducible rfl
     try simp only [Act.put, q7a, q7b, q7c, q7d, q7e, q7f]
     refine wpAnyH_ready (rs := [7]) (by kernel_rfl) (by simp) ?_
     refine AllReadyH.cons rfl (fun K hK => ?_) AllReadyH.nil
     have hx : w3.heap[w2.heap.size]? = some (.cells ceZ 66 (0, 0)) := (A4.x _ _ rfl).2
     obtain ⟨z0, z1, z2, z3, z4⟩ := row5 hx
     have fz := fun i => frozen_of_row w3 (w2.heap.size) i _ _ hx
     go_simp
     have A9 := RkA.set A4 (grown_set5 w3 (w2.heap.size) (.slice s0.a s0.n s0.c) (I (schE c)) (.slice none 0 0) (.slice none 0 0) (.slice none 0 0)) (set5_at _ _ _ _ _ _ _ _ _ _ _ _ _ hx)
     refine hK.out _ _ (HVC.out _ _ _ A9) (fun hHeld => ?_)
     clear hK K
     refine wpAnyH_done (by kernel_rfl) ?_ _
     go_wp2_with fail
     go_meet
     exact ⟨_, _, rfl, A9⟩
   ·go_simp
    have A2 := RkA.new A1 ceZ
    refine hK.out _ _ (HVC.out _ _ _ A2) (fun hHeld => ?_)
    clear hK K
    try simp only [Act.put, q7a, q7b, q7c, q7d, q7e, q7f]
    have E1 := E1.below (below_alloc w1.drew (.cells ceZ 66))
    refine wpAnyH_ready (rs := [2]) (by kernel_rfl) (by simp) ?_
    refine AllReadyH.cons rfl (fun K hK => ?_) AllReadyH.nil
    go_simp
    go_wp2_with (go_at_call 59; refine (HKC.out _ (.inr ⟨_, A2⟩) b1 E1).mono ?_; rintro e w2 hc2; obtain ⟨s0, rfl, A3⟩ := RkA.row A2 hc2)
    refine hK.out _ _ (HVC.out _ _ _ A3) (fun hHeld => ?_)
    clear hK K hc2
    try simp only [Act.put, q7a, q7b, q7c, q7d, q7e, q7f]
    refine wpAnyH_ready (rs := [4]) (by kernel_rfl) (by simp) ?_
    refine AllReadyH.cons rfl (fun K hK => ?_) AllReadyH.nil
    go_simp
    go_wp2_with (go_at_call 60; refine (HKS.out _ A3.b).mono ?_; rintro e w3 ⟨rfl, hb3⟩)
    have A4 := A3.below hb3
    refine hK.out _ _ (HVC.out _ _ _ A4) (fun hHeld => ?_)
    clear hK K hb3
    try simp only [Act.put, q7a, q7b, q7c, q7d, q7e, q7f]
    refine wpAnyH_take (i := 5) (v := ?_) rfl (by kernel_rfl) (by kernel_rfl) (by kernel_rfl) (fun _ _ _ h => h) (Or.inl ⟨by rfl, ?_⟩) hHeld ?_
    rotate_left
    ·intro w' hSw
     go_simp
     try with_reducible rfl
    try simp only [Act.put, q7a, q7b, q7c, q7d, q7e, q7f]
    refine wpAnyH_ready (rs := [7]) (by kernel_rfl) (by simp) ?_
    refine AllReadyH.cons rfl (fun K hK => ?_) AllReadyH.nil
    have hx : w3.heap[w1.heap.size]? = some (.cells ceZ 66 (0, 0)) := (A4.x _ _ rfl).2
    obtain ⟨z0, z1, z2, z3, z4⟩ := row5 hx
    have fz := fun i => frozen_of_row w3 (w1.heap.size) i _ _ hx
    go_simp
    have A9 := RkA.set A4 (grown_set5 w3 (w1.heap.size) (.slice s0.a s0.n s0.c) (I (schE c)) (.slice none 0 0) (.slice none 0 0) (.slice none 0 0)) (set5_at _ _ _ _ _ _ _ _ _ _ _ _ _ hx)
    refine hK.out _ _ (HVC.out _ _ _ A9) (fun hHeld => ?_)
    clear hK K
    refine wpAnyH_done (by kernel_rfl) ?_ _
    go_wp2_with fail
    go_meet
    exact ⟨_, _, rfl, A9⟩
  case rest =>
  obtain ⟨X, s0, rfl, HA⟩ := hcut
  have kr := HKR.out wc HA.out.b s0 nilS nilS nilS (by
   obtain ⟨q, hq, hR⟩ := rows_ints (HA.out.s s0 rfl) (l := ceilL c) rfl rfl
   injection hq with q1 q2 q3
   cases s0
   cases q
   simp only at q1 q2 q3
   subst q1
   subst q2
   subst q3
   exact hR)
  have hVc := HVC.out _ _ _ HA.out
  have hVx := (HA.out.x _ _ rfl).2
  have hi5 : (Tryz.prog.info? 66).map (·.size) = some 5 := by kernel_rfl
  have HXl : Hid (X < wc.heap.size) := heap_lt hVx
  have HS0 : Hid (∀ g, (Value.slice s0.a s0.n s0.c).ownBlock = some g → g < wc.heap.size) := fun g e => ((HA.out.s s0 rfl).lt g e).2
  unfold ceC nilS at hVx kr
  go_upto_region 6 with (first | (refine wpList_load_row rfl 33 _ rfl w.heap.size rfl 33 _ (0, 0) _ hVc Tryz.underlying33 rfl hi18 ?_) | (refine wpList_load_row rfl 66 _ rfl X rfl 66 _ (0, 0) _ hVx Tryz.underlying66 rfl hi5 ?_) | (go_at_call 61; refine kr.mono ?_; clear kr; rintro e w2 ⟨u2, rfl, hO2, hb2⟩; obtain ⟨s2, rfl, hs2⟩ := slice_of_own hO2; have HA2 := HA.out.below hb2; have hx2 := (HA2.x _ _ rfl).2; obtain ⟨_, _, z2, _, _⟩ := row5 hx2; have fz := frozen_of_row w2 X 2 _ _ hx2; clear hs2 hVc hVx HA))
  have H3 : Hid (RkA w c v (some s0) (some (X, ceC (schE c) s0 s2 nilS nilS)) (w2.setCell ⟨X, 2, none⟩ (.slice s2.a s2.n s2.c)) ∧ (w2.setCell ⟨X, 2, none⟩ (.slice s2.a s2.n s2.c)).ownsRow wc.heap.size 3 1 (.slice s2.a s2.n s2.c) (c.tasks.map (runP c)).length ((c.tasks.map (runP c)).map fun x => I x) ∧ wc.heap.size ≤ (w2.setCell ⟨X, 2, none⟩ (.slice s2.a s2.n s2.c)).heap.size) := by
   refine ⟨RkA.set HA2 (grown_set _ _ _ _) (heap_setCell_same w2 X 2 _ _ _ hx2), hO2.kept (grown_set _ _ _ _) (.inr (fun e => ?_)), by simpa using hb2.size⟩
   have h1 := (hO2.lt _ e).1
   have h2 := HXl.out
   omega
  clear hO2 HA2 hx2 z2 fz hb2
  generalize w2.setCell ⟨X, 2, none⟩ (.slice s2.a s2.n s2.c) = w3 at *
  have hVc := HVC.out _ _ _ H3.out.1
  have kn := HKN.out w3 H3.out.1.b
  go_upto_region 7 with (first | (refine wpList_load_row rfl 33 _ rfl w.heap.size rfl 33 _ (0, 0) _ hVc Tryz.underlying33 rfl hi18 ?_) | (go_at_call 62; refine kn.mono ?_; clear kn; rintro e w4 ⟨u3, u4, rfl, hO3, hO4, hap, hb4⟩; obtain ⟨s3, rfl, hs3⟩ := slice_of_own hO3; obtain ⟨s4, rfl, hs4⟩ := slice_of_own hO4; have HA4 := H3.out.1.below hb4; have hx4 := (HA4.x _ _ rfl).2; obtain ⟨_, _, _, z3, z4⟩ := row5 hx4; have fz3 := frozen_of_row w4 X 3 _ _ hx4; have fz4 := frozen_of_row w4 X 4 _ _ hx4; clear hs3 hs4 hVc))
  have H5 : Hid (RkA w c v (some s0) (some (X, ceC (schE c) s0 s2 s3 s4)) ((w4.setCell ⟨X, 3, none⟩ (.slice s3.a s3.n s3.c)).setCell ⟨X, 4, none⟩ (.slice s4.a s4.n s4.c)) ∧ OwnC w ((w4.setCell ⟨X, 3, none⟩ (.slice s3.a s3.n s3.c)).setCell ⟨X, 4, none⟩ (.slice s4.a s4.n s4.c)) (rckX c) s0 s2 s3 s4) := by
   have g2 : w4.grownBy ((w4.setCell ⟨X, 3, none⟩ (.slice s3.a s3.n s3.c)).setCell ⟨X, 4, none⟩ (.slice s4.a s4.n s4.c)) (some X) := grown_same (grown_set _ _ _ _) (grown_set _ _ _ _)
   have hA := RkA.set HA4 g2 (heap_setCell_same _ X 4 _ _ _ (heap_setCell_same w4 X 3 _ _ _ hx4))
   have hXl := HXl.out
   have hw3 := H3.out.2.2
   have hws := H3.out.1.sz
   have hwc := HS0.out
   have hO2 := own_below H3.out.2.1 hb4
   have hw2 := hA.b.size
   refine ⟨hA, ?_⟩
   rw [HX.out]
   have hbw : w.heap.size ≤ wc.heap.size := by have := (HA4.x _ _ rfl).1; omega
   refine ⟨own_mono (hA.s s0 rfl) (by omega), own_mono (hO2.kept g2 (.inr (fun e => ?_))) hbw, own_mono (hO3.kept g2 (.inr (fun e => ?_))) (by omega), own_mono (hO4.kept g2 (.inr (fun e => ?_))) (by omega), ?_⟩
   ·have := (hO2.lt _ e).1; omega
   ·have := (hO3.lt _ e).1; omega
   ·have := (hO4.lt _ e).1; omega
   ·refine List.Pairwise.cons ?_ (List.Pairwise.cons ?_ (List.Pairwise.cons ?_ (List.Pairwise.cons ?_ List.Pairwise.nil)))
    ·intro u hu g hg hg2
     have h1 := hwc g hg
     rcases List.mem_cons.1 hu with rfl | hu
     ·have := (hO2.lt g hg2).1; omega
     rcases List.mem_cons.1 hu with rfl | hu
     ·have := (hO3.lt g hg2).1; omega
     ·have := List.mem_singleton.1 hu
      subst this
      have := (hO4.lt g hg2).1; omega
    ·intro u hu g hg hg2
     have h1 := (H3.out.2.1.lt g hg).2
     rcases List.mem_cons.1 hu with rfl | hu
     ·have := (hO3.lt g hg2).1; omega
     ·have := List.mem_singleton.1 hu
      subst this
      have := (hO4.lt g hg2).1; omega
    ·intro u hu g hg hg2
     have := List.mem_singleton.1 hu
     subst this
     exact hap g hg hg2
    ·intro u hu
     cases hu
  clear HA4 hx4 z3 z4 fz3 fz4 hb4 hO3 hO4 hap H3 HXl HS0
  generalize (w4.setCell ⟨X, 3, none⟩ (.slice s3.a s3.n s3.c)).setCell ⟨X, 4, none⟩ (.slice s4.a s4.n s4.c) = w5 at *
  have hVx := (H5.out.1.x _ _ rfl).2
  have hr5 := H5.out.1.vr
  obtain ⟨r0, r1, r2, r3, r4⟩ := row5 hr5
  have fz := fun i => frozen_of_row w5 (w.heap.size + 1) i _ _ hr5
  unfold ceC at hVx
  go_wp2_with (refine wpList_load_row rfl 66 _ rfl X rfl 66 _ (0, 0) _ hVx Tryz.underlying66 rfl hi5 ?_)
  (try simp only [Exit.inBlock, Exit.then])
  refine bodyPost_ret (res_ce Tryz.results45 _ (w.heap.size + 1) _ _ _ _ _ _ _ rfl rfl (set5_at _ _ _ _ _ _ _ _ _ _ _ _ _ hr5)) rfl ?_
  have g5 := grown_set5 w5 (w.heap.size + 1) (.slice s0.a s0.n s0.c) (I (schE c)) (.slice s2.a s2.n s2.c) (.slice s3.a s3.n s3.c) (.slice s4.a s4.n s4.c)
  have hbw := H5.out.1.b.grown g5 H5.out.1.b.size (fun k e => by cases e; omega)
  refine ⟨s0, s2, s3, s4, by rw [HX.out]; rfl, ?_, hbw⟩
  have hC := H5.out.2
  have ne : ∀ {u : Value} {n : Nat} {xs : List Value}, w5.ownsRow w.heap.size 3 1 u n xs → u.ownBlock = none ∨ u.ownBlock ≠ some (w.heap.size + 1) := fun {u n xs} h => by
   rcases h.2 with ⟨h0, _⟩ | ⟨g, cap, cur, hv, hb1, hh, rr⟩
   ·rw [h0]; exact .inl rfl
   ·refine .inr ?_
    rw [hv]
    intro e2
    have e3 : g = w.heap.size + 1 := Option.some.inj e2
    rw [e3, hr5] at hh
    injection hh with hh
    injection hh with _ e4
    exact absurd e4 (by decide)
  exact ⟨hC.a.kept g5 (ne hC.a), hC.b.kept g5 (ne hC.b), hC.c.kept g5 (ne hC.c), hC.d.kept g5 (ne hC.d), hC.ap⟩
 ·have HX : Hid (rckX c = ⟨[], 0, [], [], []⟩) := by show _ = _; unfold rckX; rw [if_neg (by rw [← HE.out]; exact hE0)]
  have hE1 : (E != 0) = true := by simpa using hE0
  clear h hE
  generalize hCC : cfC c v = C at *
  clear hb2 hV1
  go_enter Tryz.func45, Tryz.ntmps45
  go_upto_region 3 with (first | (refine wpList_load_row rfl 33 _ rfl w.heap.size rfl 33 _ (0, 0) _ hV0 Tryz.underlying33 rfl hi18 ?_) | (go_at_call 58; refine krf.mono ?_; rintro e w1 hp; obtain rfl := hp.not hE0; have HA1 : Hid (RkA w c v none none w1) := HA0.out.below hp.1; clear krf hp HA0 hV0))
  have vr := HA1.out.vr
  obtain ⟨r0, r1, r2, r3, r4⟩ := row5 vr
  have fz := fun i => frozen_of_row w1 (w.heap.size + 1) i _ _ vr
  go_wp2
  (try simp only [Exit.inBlock, Exit.then])
  refine bodyPost_ret (res_ce Tryz.results45 _ (w.heap.size + 1) _ _ _ _ _ _ _ rfl rfl (set5_at _ _ _ _ _ _ _ _ _ _ _ _ _ vr)) rfl ?_
  exact rck_nil HX.out rfl (HA1.out.b.grown (grown_set5 w1 (w.heap.size + 1) _ _ _ _ _) HA1.out.b.size (fun k e => by cases e; omega))
end Go.Proofs.YtpbnpmeigdjfdaaGreatDoor.Ce
