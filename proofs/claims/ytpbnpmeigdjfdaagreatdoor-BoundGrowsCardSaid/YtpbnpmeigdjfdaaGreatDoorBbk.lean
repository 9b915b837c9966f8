import Derived.Test.YtpbnpmeigdjfdaaGreatDoorBbj
namespace Go.Proofs.YtpbnpmeigdjfdaaGreatDoor
open Go.RowKit Go.Sort
set_option linter.unusedSimpArgs false
set_option linter.unusedVariables false
set_option maxHeartbeats 16000000
set_option maxRecDepth 100000
def recZ (c : Cf) (f : Fg) (t : Int) (lim : Nat) : Int := if atZ c f t = 0 then (if 1000000 < lim then 2 else 0) else atZ c f t
def recR (c : Cf) (f : Fg) (t : Int) (lim : Nat) : Rp := if recZ c f t lim = 0 then rplF c f t.toNat lim else ⟨0, 0, false⟩
def blkR (c : Cf) (f : Fg) (t : Int) : Nat := if atZ c f t = 0 then blk c f t.toNat else 0
theorem at_may {c : Cf} {f : Fg} {t : Int} (h : atZ c f t = 0) : chkZ c f = 0 ∧ ∃ n : Nat, t = n ∧ n < c.tasks.length := by
 unfold atZ at h
 by_cases h0 : chkZ c f = 0
 ·rw [if_pos h0] at h
  by_cases h1 : 0 ≤ t ∧ t < (c.tasks.length : Int)
  ·obtain ⟨n, rfl⟩ := Int.eq_ofNat_of_zero_le h1.1
   exact ⟨h0, n, rfl, by omega⟩
  ·rw [if_neg h1] at h
   cases h
 ·rw [if_neg h0] at h
  exact absurd h h0
theorem LkP.sys {w w' : World} {c : Cf} {v : Vs} {f : Fg} {vf : Vf} {C : Array Value} (h : LkP w c v f vf 0 C w') : ∃ y : Sy, y.c = c ∧ y.f = f ∧ C = syC y ∧ SyAt w' y := by
 obtain ⟨y, h1, h2, h3, h4, h5, h6, h7⟩ := h.y rfl
 exact ⟨y, h1, h3, h5, h6⟩
theorem res_rp2 {fn : Func} {n m : Nat} (hf : fn.results = #[.cell n 40, .tmp m]) (tmps : Array Value) (b : Nat) (w : World) (v0 v1 v2 x : Value)
  (h2 : tmps[n]? = some (.pointer (some ⟨b, 0, none⟩))) (h3 : tmps[m]? = some x) (hk : w.heap[b]? = some (.cells #[v0, v1, v2] 40 (0, 0))) :
  (results fn tmps).run Tryz.prog w = .ok (.tuple #[.agg #[v0, v1, v2], x]) w := by
 have hl := run_loadVar_row (P := Tryz.prog) w b 40 40 #[v0, v1, v2] (0, 0) _ hk Tryz.underlying40 rfl (by kernel_rfl)
 simp [results, hf, h2, h3, asAddr, hl]
theorem bblocked_any (w : World) (c : Cf) (v : Vs) (h : CfAt w c v) (hl : LensOK c) (hE : EnvE w) (f : Fg) (vf : Vf) (hf : FgAt w f vf) (t : Int) :
  Calls Tryz.prog 11 #[.agg (cfC c v), .agg (fgC vf), I t] w fun e w' => e = .returned (.tuple #[U (blkR c f t), I (atZ c f t)]) ∧ Below w.heap.size w w' := by
 have hi18 : (Tryz.prog.info? 33).map (·.size) = some (cfC c v).size := by rw [show (cfC c v).size = 18 from rfl]; kernel_rfl
 have hi5 : (Tryz.prog.info? 37).map (·.size) = some (fgC vf).size := by rw [show (fgC vf).size = 5 from rfl]; kernel_rfl
 have hb2 : Below w.heap.size w ((w.alloc (.cells (cfC c v) 33)).alloc (.cells (fgC vf) 37)) := ((Below.refl w.heap.size w).alloc (Nat.le_refl _) _).alloc (by simp) _
 have hV0 := heap_two0 w (.cells (cfC c v) 33) (.cells (fgC vf) 37)
 have hV1 := heap_two w (.cells (cfC c v) 33) (.cells (fgC vf) 37)
 have k1 := blook_any _ c v (h.below hb2) hl (hE.below hb2) f vf (hf.below hb2) t
 have HM : Hid (atZ c f t = 0 → Fits c f ∧ ∃ n : Nat, t = n ∧ n < c.tasks.length) := fun h0 => ⟨fits_of (at_may h0).1, (at_may h0).2⟩
 have HR : Hid (blkR c f t = if atZ c f t = 0 then blk c f t.toNat else 0) := rfl
 generalize blkR c f t = R at *
 generalize atZ c f t = z at *
 generalize cfC c v = C at *
 generalize fgC vf = F at *
 clear h hl hE hf
 go_enter Tryz.func11, Tryz.ntmps11
 go_upto_region 1 with fail
 generalize (w.alloc (.cells C 33)).alloc (.cells F 37) = W3 at *
 go_upto_region 2 with (first | (refine wpList_load_row rfl 33 _ rfl w.heap.size rfl 33 _ (0, 0) _ hV0 Tryz.underlying33 rfl hi18 ?_) | (refine wpList_load_row rfl 37 _ rfl (w.heap.size + 1) rfl 37 _ (0, 0) _ hV1 Tryz.underlying37 rfl hi5 ?_) | (go_at_call 18; refine k1.mono ?_; clear k1; rintro e w1 hp; obtain ⟨D, rfl, hD⟩ := hp.lk; have hone := hD.one; have hi28 := hD.hi; clear hp) | (rw [show (#[.string ⟨#[]⟩, .string ⟨#[]⟩, .bool false, .bool false, .bool false, .bool false, .bool false, .bool false, .bool false, .bool false, .slice none 0 0, .slice none 0 0, .slice none 0 0, .slice none 0 0, .slice none 0 0, .slice none 0 0, .slice none 0 0, .slice none 0 0, .slice none 0 0, .slice none 0 0, .slice none 0 0, .slice none 0 0, .slice none 0 0, .slice none 0 0, .int .i64 0, .slice none 0 0, .slice none 0 0, .slice none 0 0] : Array Value) = syZ from rfl]; refine wpList_store_row rfl 68 _ _ rfl w1.heap.size _ rfl rfl 68 _ (heap_alloc_new w1 (.cells syZ 68)) hi28 (by rw [hD.n]; rfl) hone ?_))
 rw [World.setRow_alloc_new]
 have hal := below_alloc w1 (.cells D 68)
 have HD : Hid (LkP W3 c v f vf z D (w1.alloc (.cells D 68))) := hD.below hal
 have hT := heap_alloc_new w1 (.cells D 68)
 clear hal hD hV0 hV1
 generalize w1.alloc (.cells D 68) = w4 at *
 generalize w1.heap.size = T at *
 have HB4 : Hid (Below w.heap.size w w4) := hb2.trans (HD.out.b.mono hb2.size)
 clear hb2
 by_cases h0 : z = 0
 ·obtain ⟨hF, n, rfl, hn⟩ := HM.out h0
  have HR2 : Hid (R = blk c f n) := by show _ = _; rw [HR.out, if_pos h0, Int.toNat_natCast]
  subst h0
  obtain ⟨y, h1, h2, h3, h4⟩ := HD.out.sys
  subst h1 h2 h3
  have k2 := blocked_any w4 y h4 hF n hn
  have HZ : Hid (True) := trivial
  generalize syC y = D at *
  clear HD HR HM h4 hF hn
  go_wp2_with (first | (refine wpList_load_row rfl 68 _ rfl T rfl 68 _ (0, 0) _ hT Tryz.underlying68 rfl hi28 ?_) | (go_at_call 23; refine k2.mono ?_; clear k2; rintro e w5 ⟨rfl, hb5⟩))
  go_ret2
  exact ⟨by rw [HR2.out]; rfl, HB4.out.trans (hb5.mono HB4.out.size)⟩
 ·have h0' : (z != 0) = true := by simpa using h0
  have HR2 : Hid (R = 0) := by show _ = _; rw [HR.out, if_neg h0]
  clear h0 HR HM HD
  go_wp2
  go_ret2
  exact ⟨by rw [HR2.out]; rfl, HB4.out⟩
theorem breckon_any (w : World) (c : Cf) (v : Vs) (h : CfAt w c v) (hl : LensOK c) (hE : EnvE w) (f : Fg) (vf : Vf) (hf : FgAt w f vf) (t : Int) (lim : Nat) :
  Calls Tryz.prog 8 #[.agg (cfC c v), .agg (fgC vf), I t, U lim] w fun e w' => e = .returned (.tuple #[.agg (rpC (recR c f t lim)), I (recZ c f t lim)]) ∧ Below w.heap.size w w' := by
 have hi18 : (Tryz.prog.info? 33).map (·.size) = some (cfC c v).size := by rw [show (cfC c v).size = 18 from rfl]; kernel_rfl
 have hi5 : (Tryz.prog.info? 37).map (·.size) = some (fgC vf).size := by rw [show (fgC vf).size = 5 from rfl]; kernel_rfl
 have hb2 : Below w.heap.size w (((w.alloc (.cells (cfC c v) 33)).alloc (.cells (fgC vf) 37)).alloc (.cells #[.int .u64 0, .int .u64 0, .bool false] 40)) := (((Below.refl w.heap.size w).alloc (Nat.le_refl _) _).alloc (by simp) _).alloc (by simp; omega) _
 have hV0 := heap_over1 (a := .cells #[.int .u64 0, .int .u64 0, .bool false] 40) (heap_two0 w (.cells (cfC c v) 33) (.cells (fgC vf) 37))
 have hV1 := heap_over1 (a := .cells #[.int .u64 0, .int .u64 0, .bool false] 40) (heap_two w (.cells (cfC c v) 33) (.cells (fgC vf) 37))
 have hV2 := heap_two (w.alloc (.cells (cfC c v) 33)) (.cells (fgC vf) 37) (.cells #[.int .u64 0, .int .u64 0, .bool false] 40)
 have hsz : (w.alloc (.cells (cfC c v) 33)).heap.size = w.heap.size + 1 := by simp
 rw [hsz] at hV2
 have k1 := blook_any _ c v (h.below hb2) hl (hE.below hb2) f vf (hf.below hb2) t
 have HM : Hid (atZ c f t = 0 → Fits c f ∧ ∃ n : Nat, t = n ∧ n < c.tasks.length) := fun h0 => ⟨fits_of (at_may h0).1, (at_may h0).2⟩
 have HR : Hid (recR c f t lim = if recZ c f t lim = 0 then rplF c f t.toNat lim else ⟨0, 0, false⟩) := rfl
 have HZ : Hid (recZ c f t lim = if atZ c f t = 0 then (if 1000000 < lim then 2 else 0) else atZ c f t) := rfl
 generalize recR c f t lim = R at *
 generalize recZ c f t lim = rz at *
 generalize atZ c f t = z at *
 generalize cfC c v = C at *
 generalize fgC vf = F at *
 clear h hl hE hf hsz
 go_enter Tryz.func8, Tryz.ntmps8
 go_upto_region 1 with fail
 generalize ((w.alloc (.cells C 33)).alloc (.cells F 37)).alloc (.cells #[.int .u64 0, .int .u64 0, .bool false] 40) = W3 at *
 go_upto_region 2 with (first | (refine wpList_load_row rfl 33 _ rfl w.heap.size rfl 33 _ (0, 0) _ hV0 Tryz.underlying33 rfl hi18 ?_) | (refine wpList_load_row rfl 37 _ rfl (w.heap.size + 1) rfl 37 _ (0, 0) _ hV1 Tryz.underlying37 rfl hi5 ?_) | (go_at_call 18; refine k1.mono ?_; clear k1; rintro e w1 hp; obtain ⟨D, rfl, hD⟩ := hp.lk; have hone := hD.one; have hi28 := hD.hi; clear hp) | (rw [show (#[.string ⟨#[]⟩, .string ⟨#[]⟩, .bool false, .bool false, .bool false, .bool false, .bool false, .bool false, .bool false, .bool false, .slice none 0 0, .slice none 0 0, .slice none 0 0, .slice none 0 0, .slice none 0 0, .slice none 0 0, .slice none 0 0, .slice none 0 0, .slice none 0 0, .slice none 0 0, .slice none 0 0, .slice none 0 0, .slice none 0 0, .slice none 0 0, .int .i64 0, .slice none 0 0, .slice none 0 0, .slice none 0 0] : Array Value) = syZ from rfl]; refine wpList_store_row rfl 68 _ _ rfl w1.heap.size _ rfl rfl 68 _ (heap_alloc_new w1 (.cells syZ 68)) hi28 (by rw [hD.n]; rfl) hone ?_))
 rw [World.setRow_alloc_new]
 have hal := below_alloc w1 (.cells D 68)
 have HD : Hid (LkP W3 c v f vf z D (w1.alloc (.cells D 68))) := hD.below hal
 have hT := heap_alloc_new w1 (.cells D 68)
 clear hal hD hV0 hV1
 generalize w1.alloc (.cells D 68) = w4 at *
 generalize w1.heap.size = T at *
 have HB4 : Hid (Below w.heap.size w w4) := hb2.trans (HD.out.b.mono hb2.size)
 have q2 := (HD.out.b.block _ (heap_lt hV2)).trans hV2
 clear hb2 hV2
 obtain ⟨c0, c1, c2⟩ : w4.cell? ⟨w.heap.size + 1 + 1, 0, none⟩ = some (.int .u64 0) ∧ w4.cell? ⟨w.heap.size + 1 + 1, 1, none⟩ = some (.int .u64 0) ∧ w4.cell? ⟨w.heap.size + 1 + 1, 2, none⟩ = some (.bool false) := ⟨cell_at3 q2 0, cell_at3 q2 1, cell_at3 q2 2⟩
 have fz := fun i => frozen_of_row w4 (w.heap.size + 1 + 1) i _ _ q2
 by_cases h0 : z = 0
 ·obtain ⟨hF, n, rfl, hn⟩ := HM.out h0
  rw [if_pos h0] at HZ
  subst h0
  have kov := isOver_any w4 lim
  by_cases hov : 1000000 < lim
  ·have HZ2 : Hid (rz = 2) := by show _ = _; rw [HZ.out, if_pos hov]
   have HR2 : Hid (R = ⟨0, 0, false⟩) := by show _ = _; rw [HR.out, HZ2.out]; rfl
   rw [show ovB lim = true from decide_eq_true hov] at kov
   clear HD HR HM HZ hF hn hov hT
   go_wp2_with (go_at_call 19; refine kov.mono ?_; clear kov; rintro e w' ⟨rfl, rfl⟩)
   refine bodyPost_ret (res_rp2 Tryz.results8 _ (w.heap.size + 1 + 1) _ _ _ _ _ rfl rfl (set3B _ _ _ _ _ _ q2)) rfl ?_
   exact ⟨by rw [HR2.out, HZ2.out]; rfl, HB4.out.grown (grown3B _ _ _ _ _) HB4.out.size (fun k e => by cases e; omega)⟩
  ·have HZ2 : Hid (rz = 0) := by show _ = _; rw [HZ.out, if_neg hov]
   have HR2 : Hid (R = rplF c f n lim) := by show _ = _; rw [HR.out, HZ2.out, if_pos rfl, Int.toNat_natCast]
   rw [show ovB lim = false from decide_eq_false hov] at kov
   obtain ⟨y, h1, h2, h3, h4⟩ := HD.out.sys
   subst h1 h2 h3
   have k2 := reply_any w4 y h4 hF n hn lim (by omega)
   have HX : Hid (∀ W, Below w4.heap.size w4 W → W.heap[w.heap.size + 1 + 1]? = some (.cells #[.int .u64 0, .int .u64 0, .bool false] 40 (0, 0)) ∧ Below w.heap.size w W) := fun W hW => ⟨(hW.block _ (heap_lt q2)).trans q2, HB4.out.trans (hW.mono HB4.out.size)⟩
   generalize syC y = D at *
   generalize rplF y.c y.f n lim = rp at *
   clear HD HR HM HZ h4 hF hn hov q2 c0 c1 c2 fz
   unfold rpC at k2
   go_wp2_with (first | (go_at_call 19; refine kov.mono ?_; clear kov; rintro e w' ⟨rfl, rfl⟩) | (refine wpList_load_row rfl 68 _ rfl T rfl 68 _ (0, 0) _ hT Tryz.underlying68 rfl hi28 ?_) | (go_at_call 20; refine k2.mono ?_; clear k2; rintro e w5 ⟨rfl, hb5⟩; obtain ⟨q5, hbw5⟩ := HX.out _ hb5; obtain ⟨c0, c1, c2⟩ : w5.cell? ⟨w.heap.size + 1 + 1, 0, none⟩ = some (.int .u64 0) ∧ w5.cell? ⟨w.heap.size + 1 + 1, 1, none⟩ = some (.int .u64 0) ∧ w5.cell? ⟨w.heap.size + 1 + 1, 2, none⟩ = some (.bool false) := ⟨cell_at3 q5 0, cell_at3 q5 1, cell_at3 q5 2⟩; have fz := fun i => frozen_of_row w5 (w.heap.size + 1 + 1) i _ _ q5))
   refine bodyPost_ret (res_rp2 Tryz.results8 _ (w.heap.size + 1 + 1) _ _ _ _ _ rfl rfl (set3B _ _ _ _ _ _ q5)) rfl ?_
   exact ⟨by rw [HR2.out, HZ2.out]; rfl, hbw5.grown (grown3B w5 _ _ _ _) hbw5.size (fun k e => by cases e; omega)⟩
 ·have h0' : (z != 0) = true := by simpa using h0
  have HZ2 : Hid (rz = z) := by show _ = _; rw [HZ.out, if_neg h0]
  have HR2 : Hid (R = ⟨0, 0, false⟩) := by show _ = _; rw [HR.out, HZ2.out, if_neg h0]
  clear h0 HR HM HD HZ hT
  go_wp2
  refine bodyPost_ret (res_rp2 Tryz.results8 _ (w.heap.size + 1 + 1) _ _ _ _ _ rfl rfl (set3B _ _ _ _ _ _ q2)) rfl ?_
  exact ⟨by rw [HR2.out, HZ2.out]; rfl, HB4.out.grown (grown3B w4 _ _ _ _) HB4.out.size (fun k e => by cases e; omega)⟩
end Go.Proofs.YtpbnpmeigdjfdaaGreatDoor
