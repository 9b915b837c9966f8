import Derived.Test.YtpbnpmeigdjfdaaGreatDoorBbf
import Derived.Deep.WholeRow
namespace Go.Proofs.YtpbnpmeigdjfdaaGreatDoor
open Go.RowKit Go.Sort
set_option linter.unusedSimpArgs false
set_option linter.unusedVariables false
set_option maxHeartbeats 16000000
set_option maxRecDepth 100000
theorem sy_one (y : Sy) : (syC y).all (·.oneCell') = true := by simp [syC, Value.oneCell']
theorem sz_one : syZ.all (·.oneCell') = true := by simp [syZ, Value.oneCell']
theorem sy_hi (y : Sy) : (Tryz.prog.info? 68).map (·.size) = some (syC y).size := by rw [show (syC y).size = 28 from rfl]; kernel_rfl
theorem sz_hi : (Tryz.prog.info? 68).map (·.size) = some syZ.size := by rw [show syZ.size = 28 from rfl]; kernel_rfl
def atZ (c : Cf) (f : Fg) (t : Int) : Int := if chkZ c f = 0 then (if 0 ≤ t ∧ t < (c.tasks.length : Int) then 0 else 2) else chkZ c f
structure AtP (w : World) (c : Cf) (v : Vs) (f : Fg) (vf : Vf) (z : Int) (e : Ending) (w' : World) : Prop where
 y : z = 0 → SysP w c v f vf e w'
 n : z ≠ 0 → e = .returned (.tuple #[.agg syZ, I z]) ∧ Below w.heap.size w w'
theorem look_any27 (w : World) (c : Cf) (v : Vs) (h : CfAt w c v) (hl : LensOK c) (hE : EnvE w) (f : Fg) (vf : Vf) (hf : FgAt w f vf) :
  Calls Tryz.prog 31 #[.agg (cfC c v), .agg (fgC vf)] w fun e w' => AtP w c v f vf (chkZ c f) e w' := by
 by_cases h0 : chkZ c f = 0
 ·exact (look_ok w c v h hl hE f vf hf h0).mono fun e w' hp => ⟨fun _ => hp, fun h1 => absurd h0 h1⟩
 ·exact (look_no w c v h hl hE f vf hf h0).mono fun e w' hp => ⟨fun h1 => absurd h1 h0, fun _ => hp⟩
structure LkP (w : World) (c : Cf) (v : Vs) (f : Fg) (vf : Vf) (z : Int) (C : Array Value) (w' : World) : Prop where
 one : C.all (·.oneCell') = true
 hi : (Tryz.prog.info? 68).map (·.size) = some C.size
 n : C.size = 28
 b : Below w.heap.size w w'
 y : z = 0 → ∃ y : Sy, y.c = c ∧ y.v = v ∧ y.f = f ∧ y.vf = vf ∧ C = syC y ∧ SyAt w' y ∧ NewS w.heap.size y
 no : z ≠ 0 → C = syZ
theorem AtP.lk {w : World} {c : Cf} {v : Vs} {f : Fg} {vf : Vf} {z : Int} {e : Ending} {w' : World} (h : AtP w c v f vf z e w') : ∃ C, e = .returned (.tuple #[.agg C, I z]) ∧ LkP w c v f vf z C w' := by
 by_cases h0 : z = 0
 ·obtain ⟨y, h1, h2, h3, h4, h5, h6, h8, h7⟩ := h.y h0
  subst h0
  exact ⟨syC y, h5, sy_one y, sy_hi y, rfl, h7, fun _ => ⟨y, h1, h2, h3, h4, rfl, h6, h8⟩, fun h => absurd rfl h⟩
 ·obtain ⟨h1, h2⟩ := h.n h0
  exact ⟨syZ, h1, sz_one, sz_hi, rfl, h2, fun h => absurd h h0, fun _ => rfl⟩
theorem LkP.below {w : World} {c : Cf} {v : Vs} {f : Fg} {vf : Vf} {z : Int} {C : Array Value} {w1 w2 : World} (h : LkP w c v f vf z C w1) (hb : Below w1.heap.size w1 w2) : LkP w c v f vf z C w2 :=
 ⟨h.one, h.hi, h.n, h.b.trans (hb.mono h.b.size), fun h0 => by
  obtain ⟨y, h1, h2, h3, h4, h5, h6, h7⟩ := h.y h0
  exact ⟨y, h1, h2, h3, h4, h5, h6.below hb, h7⟩, h.no⟩
theorem LkP.fin {w w0 : World} {c : Cf} {v : Vs} {f : Fg} {vf : Vf} {z : Int} {C : Array Value} {w2 : World} (h : LkP w0 c v f vf z C w2) (hc : CfAt w c v) (hf : FgAt w f vf) {X : Nat} (hX : X < w0.heap.size) (hwX : w.heap.size ≤ X) (hb : Below w.heap.size w w2) : AtP w c v f vf z (.returned (.tuple #[.agg C, I z])) (w2.setRow X C) := by
 have hb9 := hb.grown (Ce.grown_row w2 X C) hb.size (fun k e => by cases e; exact hwX)
 refine ⟨fun h0 => ?_, fun h0 => ⟨by rw [h.no h0], hb9⟩⟩
 obtain ⟨y, h1, h2, h3, h4, h5, h6, h7⟩ := h.y h0
 subst h1 h2 h3 h4 h5 h0
 refine ⟨y, rfl, rfl, rfl, rfl, rfl, ⟨hc.below hb9, hf.below hb9, rows_set h6.r (fun g o e => by have := (h7 g o).1 e; omega), rows_set h6.u (fun g o e => by have := (h7 g o).2 e; omega)⟩, fun g o => ⟨fun e => by have := (h7 g o).1 e; omega, fun e => by have := (h7 g o).2 e; omega⟩, hb9⟩
theorem blook_any (w : World) (c : Cf) (v : Vs) (h : CfAt w c v) (hl : LensOK c) (hE : EnvE w) (f : Fg) (vf : Vf) (hf : FgAt w f vf) (t : Int) :
  Calls Tryz.prog 18 #[.agg (cfC c v), .agg (fgC vf), I t] w fun e w' => AtP w c v f vf (atZ c f t) e w' := by
 have hi18 : (Tryz.prog.info? 33).map (·.size) = some (cfC c v).size := by rw [show (cfC c v).size = 18 from rfl]; kernel_rfl
 have hi5 : (Tryz.prog.info? 37).map (·.size) = some (fgC vf).size := by rw [show (fgC vf).size = 5 from rfl]; kernel_rfl
 have hV0 := heap_over1 (a := .cells syZ 68) (heap_two0 w (.cells (cfC c v) 33) (.cells (fgC vf) 37))
 have hV1 := heap_over1 (a := .cells syZ 68) (heap_two w (.cells (cfC c v) 33) (.cells (fgC vf) 37))
 have hV2 := heap_two (w.alloc (.cells (cfC c v) 33)) (.cells (fgC vf) 37) (.cells syZ 68)
 have hb3 : Below w.heap.size w (((w.alloc (.cells (cfC c v) 33)).alloc (.cells (fgC vf) 37)).alloc (.cells syZ 68)) := (((Below.refl w.heap.size w).alloc (Nat.le_refl _) _).alloc (by simp) _).alloc (by simp; omega) _
 have hsz : (w.alloc (.cells (cfC c v) 33)).heap.size = w.heap.size + 1 := by simp
 rw [hsz] at hV2
 have HC : Hid (CfAt w c v) := h
 have HG : Hid (FgAt w f vf) := hf
 have k1 := look_any27 _ c v (h.below hb3) hl (hE.below hb3) f vf (hf.below hb3)
 have HN : Hid (v.t.n = c.tasks.length) := h.t.n
 have hcx : ∀ W : World, W.heap[w.heap.size]? = some (.cells (cfC c v) 33 (0, 0)) → W.cell? ⟨w.heap.size, 11, none⟩ = some (.slice v.t.a v.t.n v.t.c) := fun W hW => cell_at3 hW 11
 have HZ : Hid (atZ c f t = if chkZ c f = 0 then (if 0 ≤ t ∧ t < (v.t.n : Int) then 0 else 2) else chkZ c f) := by show _ = _; rw [HN.out]; rfl
 generalize atZ c f t = az at *
 generalize chkZ c f = z at *
 generalize cfC c v = C at *
 generalize fgC vf = F at *
 clear h hl hE hf hsz HN
 go_enter Tryz.func18, Tryz.ntmps18
 go_upto_region 1 with fail
 rw [show (#[.string ⟨#[]⟩, .string ⟨#[]⟩, .bool false, .bool false, .bool false, .bool false, .bool false, .bool false, .bool false, .bool false, .slice none 0 0, .slice none 0 0, .slice none 0 0, .slice none 0 0, .slice none 0 0, .slice none 0 0, .slice none 0 0, .slice none 0 0, .slice none 0 0, .slice none 0 0, .slice none 0 0, .slice none 0 0, .slice none 0 0, .slice none 0 0, .int .i64 0, .slice none 0 0, .slice none 0 0, .slice none 0 0] : Array Value) = syZ from rfl]
 generalize ((w.alloc (.cells C 33)).alloc (.cells F 37)).alloc (.cells syZ 68) = W3 at *
 have HV0 : Hid (W3.heap[w.heap.size]? = some (.cells C 33 (0, 0))) := hV0
 go_upto_region 2 with (first | (refine wpList_load_row rfl 33 _ rfl w.heap.size rfl 33 _ (0, 0) _ hV0 Tryz.underlying33 rfl hi18 ?_) | (refine wpList_load_row rfl 37 _ rfl (w.heap.size + 1) rfl 37 _ (0, 0) _ hV1 Tryz.underlying37 rfl hi5 ?_) | (go_at_call 31; refine k1.mono ?_; clear k1; rintro e w1 hp; obtain ⟨D, rfl, hD⟩ := hp.lk; have hone := hD.one; have hi28 := hD.hi; clear hp) | (rw [show (#[.string ⟨#[]⟩, .string ⟨#[]⟩, .bool false, .bool false, .bool false, .bool false, .bool false, .bool false, .bool false, .bool false, .slice none 0 0, .slice none 0 0, .slice none 0 0, .slice none 0 0, .slice none 0 0, .slice none 0 0, .slice none 0 0, .slice none 0 0, .slice none 0 0, .slice none 0 0, .slice none 0 0, .slice none 0 0, .slice none 0 0, .slice none 0 0, .int .i64 0, .slice none 0 0, .slice none 0 0, .slice none 0 0] : Array Value) = syZ from rfl]; refine wpList_store_row rfl 68 _ _ rfl w1.heap.size _ rfl rfl 68 _ (heap_alloc_new w1 (.cells syZ 68)) hi28 (by rw [hD.n]; rfl) hone ?_))
 rw [World.setRow_alloc_new]
 have hal := below_alloc w1 (.cells D 68)
 have HD : Hid (LkP W3 c v f vf z D (w1.alloc (.cells D 68))) := hD.below hal
 have hT := heap_alloc_new w1 (.cells D 68)
 clear hal hD hV0 hV1
 generalize w1.alloc (.cells D 68) = w4 at *
 generalize w1.heap.size = T at *
 have q0 := (HD.out.b.block _ (heap_lt HV0.out)).trans HV0.out
 have q2 := (HD.out.b.block _ (heap_lt hV2)).trans hV2
 have y11 := hcx _ q0
 have HB4 : Hid (Below w.heap.size w w4) := hb3.trans (HD.out.b.mono hb3.size)
 have HX : Hid (w.heap.size + 1 + 1 < W3.heap.size) := heap_lt hV2
 clear hV2 hb3 hcx
 by_cases h0 : z = 0
 ·have h0' : (z == 0) = true := by simp [h0]
  have H0 : Hid (z = 0) := h0
  rw [if_pos h0] at HZ
  by_cases g1 : t < 0
  ·have HA : Hid (az = 2) := by show _ = _; rw [HZ.out, if_neg (by omega)]
   clear h0
   go_wp2_with (first | (refine wpList_store_row rfl 68 _ _ rfl (w.heap.size + 1 + 1) _ rfl rfl 68 _ q2 sz_hi rfl sz_one ?_))
   (rw [show (#[.string ⟨#[]⟩, .string ⟨#[]⟩, .bool false, .bool false, .bool false, .bool false, .bool false, .bool false, .bool false, .bool false, .slice none 0 0, .slice none 0 0, .slice none 0 0, .slice none 0 0, .slice none 0 0, .slice none 0 0, .slice none 0 0, .slice none 0 0, .slice none 0 0, .slice none 0 0, .slice none 0 0, .slice none 0 0, .slice none 0 0, .slice none 0 0, .int .i64 0, .slice none 0 0, .slice none 0 0, .slice none 0 0] : Array Value) = syZ from rfl])
   refine bodyPost_ret (bresS Tryz.results18 _ (w.heap.size + 1 + 1) _ syZ _ rfl rfl (setRow_heap w4 (w.heap.size + 1 + 1) syZ syZ _ _ q2) rfl) rfl ?_
   exact ⟨fun h => absurd (HA.out.symm.trans h) (by decide), fun _ => ⟨by rw [HA.out]; rfl, HB4.out.grown (Ce.grown_row w4 _ _) HB4.out.size (fun k e => by cases e; omega)⟩⟩
  ·by_cases g2 : (v.t.n : Int) ≤ t
   ·have HA : Hid (az = 2) := by show _ = _; rw [HZ.out, if_neg (by omega)]
    clear h0
    go_wp2_with (first | (refine wpList_store_row rfl 68 _ _ rfl (w.heap.size + 1 + 1) _ rfl rfl 68 _ q2 sz_hi rfl sz_one ?_))
    (rw [show (#[.string ⟨#[]⟩, .string ⟨#[]⟩, .bool false, .bool false, .bool false, .bool false, .bool false, .bool false, .bool false, .bool false, .slice none 0 0, .slice none 0 0, .slice none 0 0, .slice none 0 0, .slice none 0 0, .slice none 0 0, .slice none 0 0, .slice none 0 0, .slice none 0 0, .slice none 0 0, .slice none 0 0, .slice none 0 0, .slice none 0 0, .slice none 0 0, .int .i64 0, .slice none 0 0, .slice none 0 0, .slice none 0 0] : Array Value) = syZ from rfl])
    refine bodyPost_ret (bresS Tryz.results18 _ (w.heap.size + 1 + 1) _ syZ _ rfl rfl (setRow_heap w4 (w.heap.size + 1 + 1) syZ syZ _ _ q2) rfl) rfl ?_
    exact ⟨fun h => absurd (HA.out.symm.trans h) (by decide), fun _ => ⟨by rw [HA.out]; rfl, HB4.out.grown (Ce.grown_row w4 _ _) HB4.out.size (fun k e => by cases e; omega)⟩⟩
   ·have HA : Hid (az = z) := by show _ = _; rw [HZ.out, if_pos (by omega), H0.out]
    clear h0
    go_wp2_with (first | (refine wpList_load_row rfl 68 _ rfl T rfl 68 _ (0, 0) _ hT Tryz.underlying68 rfl hi28 ?_) | (refine wpList_store_row rfl 68 _ _ rfl (w.heap.size + 1 + 1) _ rfl rfl 68 _ q2 hi28 (by rw [HD.out.n]; rfl) hone ?_))
    refine bodyPost_ret (bresS Tryz.results18 _ (w.heap.size + 1 + 1) _ D _ rfl rfl (setRow_heap w4 (w.heap.size + 1 + 1) syZ D _ _ q2) HD.out.n) rfl ?_
    rw [HA.out]
    exact HD.out.fin HC.out HG.out HX.out (by omega) HB4.out
 ·have h0' : (z == 0) = false := by simpa using h0
  have HA : Hid (az = z) := by show _ = _; rw [HZ.out, if_neg h0]
  clear h0
  go_wp2_with (first | (refine wpList_load_row rfl 68 _ rfl T rfl 68 _ (0, 0) _ hT Tryz.underlying68 rfl hi28 ?_) | (refine wpList_store_row rfl 68 _ _ rfl (w.heap.size + 1 + 1) _ rfl rfl 68 _ q2 hi28 (by rw [HD.out.n]; rfl) hone ?_))
  refine bodyPost_ret (bresS Tryz.results18 _ (w.heap.size + 1 + 1) _ D _ rfl rfl (setRow_heap w4 (w.heap.size + 1 + 1) syZ D _ _ q2) HD.out.n) rfl ?_
  rw [HA.out]
  exact HD.out.fin HC.out HG.out HX.out (by omega) HB4.out
end Go.Proofs.YtpbnpmeigdjfdaaGreatDoor
