import Derived.Test.YtmidaeljeoifdaaGreatDoorXTcx
import Derived.Test.YtmidaeljeoifdaaGreatDoorTdi
import Derived.Test.YtmidaeljeoifdaaGreatDoorTie
import Derived.Test.YtmidaeljeoifdaaGreatDoorCards
import Derived.Test.YtmidaeljeoifdaaGreatDoorXThw
import Derived.Test.YtmidaeljeoifdaaGreatDoorXTcp
import Derived.ChangeOld
import Derived.SevenTiedAt
namespace Go.Proofs.YtmidaeljeoifdaaGreatDoor
open Go.RowKit Go.Shelf Go.Sort Go.Maps
set_option linter.unusedVariables false
set_option linter.unusedSimpArgs false
set_option maxHeartbeats 8000000
set_option maxRecDepth 100000

/-! ### heads -/
abbrev tbK2 : Tb := tbS (tkS 116) 0 1 2 4 2 0
theorem chkK : chkP tbK = true := by decide +kernel
theorem chkK2 : chkP tbK2 = false := by decide +kernel
theorem wfK (d f e c : Int) : WfT (tbS (tkS 116) 0 1 d f e c) := by
  refine ⟨fun x hx => ?_, (fun x hx => by cases hx), (fun x hx => by cases hx), (fun x hx => by cases hx)⟩
  have e1 : x = trow (tkS 116) := by simpa [tbS] using hx
  subst e1
  exact ⟨by decide, by decide⟩
theorem capK : IntKind.i64.wrap (capN [trow (tkS 116)] (tkS 116).prio) = 1 := by decide +kernel
theorem heads9_any (w : World) (hE : EnvE w) : Calls Tryz.prog 10 #[] w fun e w' => e = .returned (.bool true) ∧ Below w.heap.size w w' := by
  have kS := small_any w
  have HM : Hid (∀ (W : World) (bm g : Nat), Below w.heap.size w W → W.heap[bm]? = some (.cells #[S [109]] 9 (0, 0)) → W.heap[g]? = some (.cells (tkC 116).toArray 58 (0, 0)) → Calls Tryz.prog 11 #[.agg (cfC cS0 (vS0 bm g))] W fun e w' => (∃ v : Ts, e = .returned (.tuple #[.agg (tbC tbK v), I 0]) ∧ SO W.heap.size w' (tkS 116) v) ∧ Below W.heap.size W w') := fun W bm g hW h1 h2 => make_small W bm g (small_at h1 h2 [116] (by decide) (by unfold maxLen; decide) rfl) (hE.below hW)
  clear hE
  go_enter Tryz.func10, Tryz.ntmps10
  go_wp2_with (first | fail)
  refine kS.mono ?_
  clear kS
  rintro e w1 ⟨bm, g, rfl, b1, _, hm1, ht1⟩
  have kM := HM.out w1 bm g b1 hm1 ht1
  clear hm1 ht1 HM
  generalize cfC cS0 (vS0 bm g) = C at *
  go_wp2_with (first | fail)
  refine kM.mono ?_
  clear kM
  rintro e w2 ⟨⟨v, rfl, so⟩, b2⟩
  obtain ⟨at_, ct, ag, cg, ar, cr, ak, ck, aa, ca, ai, ci, am, cm2, rfl, h6, hG⟩ := so
  have so : SO w1.heap.size w2 (tkS 116) ⟨⟨at_, 1, ct⟩, ⟨ag, 1, cg⟩, ⟨ar, 0, cr⟩, ⟨ak, 0, ck⟩, ⟨aa, 0, ca⟩, ⟨ai, 0, ci⟩, ⟨am, 0, cm2⟩⟩ := ⟨at_, ct, ag, cg, ar, cr, ak, ck, aa, ca, ai, ci, am, cm2, rfl, h6, hG⟩
  have b3 := below_alloc w2 (.cells #[I 0, I 1, .slice at_ 1 ct, .slice ag 1 cg, .slice ar 0 cr, .slice ak 0 ck, .slice aa 0 ca, .slice ai 0 ci, .slice am 0 cm2, I 1, I 4, I 2, I 0] 30)
  have hT3 := heap_alloc_new w2 (.cells #[I 0, I 1, .slice at_ 1 ct, .slice ag 1 cg, .slice ar 0 cr, .slice ak 0 ck, .slice aa 0 ca, .slice ai 0 ci, .slice am 0 cm2, I 1, I 4, I 2, I 0] 30)
  have H3 : Hid (SO w1.heap.size (w2.alloc (.cells #[I 0, I 1, .slice at_ 1 ct, .slice ag 1 cg, .slice ar 0 cr, .slice ak 0 ck, .slice aa 0 ca, .slice ai 0 ci, .slice am 0 cm2, I 1, I 4, I 2, I 0] 30)) (tkS 116) ⟨⟨at_, 1, ct⟩, ⟨ag, 1, cg⟩, ⟨ar, 0, cr⟩, ⟨ak, 0, ck⟩, ⟨aa, 0, ca⟩, ⟨ai, 0, ci⟩, ⟨am, 0, cm2⟩⟩) := so.below b3
  have HB3 : Hid (Below w.heap.size w (w2.alloc (.cells #[I 0, I 1, .slice at_ 1 ct, .slice ag 1 cg, .slice ar 0 cr, .slice ak 0 ck, .slice aa 0 ca, .slice ai 0 ci, .slice am 0 cm2, I 1, I 4, I 2, I 0] 30))) := by
    have q := b1.trans (b2.mono b1.size)
    exact q.trans (b3.mono q.size)
  have HX : Hid (w.heap.size ≤ w2.heap.size) := (b1.trans (b2.mono b1.size)).size
  have hR := (RO.rows (l := [_]) (RG.below hG b3) (P := rgrP) (fun _ _ _ h => h)).row 0 _ rfl
  obtain ⟨gg, oo, eg, hgl, hrr⟩ := hR
  obtain ⟨u0, r0, f0⟩ := hrr 0 (by omega)
  obtain ⟨u1, r1, f1⟩ := hrr 1 (by omega)
  have f0' : u0 = I 1 := f0
  have f1' : u1 = I 1 := by have q : u1 = I (IntKind.i64.wrap (capN [trow (tkS 116)] (tkS 116).prio)) := f1; rw [capK] at q; exact q
  subst f0' f1'
  dsimp only at eg
  subst eg
  simp only [Nat.zero_mul, Nat.add_zero] at r0 r1
  have KC : Hid (∀ (W : World) (d : Int), SO w1.heap.size W (tkS 116) ⟨⟨at_, 1, ct⟩, ⟨some ⟨gg, oo, none⟩, 1, cg⟩, ⟨ar, 0, cr⟩, ⟨ak, 0, ck⟩, ⟨aa, 0, ca⟩, ⟨ai, 0, ci⟩, ⟨am, 0, cm2⟩⟩ → Calls Tryz.prog 8 #[.agg #[I 0, I 1, .slice at_ 1 ct, .slice (some ⟨gg, oo, none⟩) 1 cg, .slice ar 0 cr, .slice ak 0 ck, .slice aa 0 ca, .slice ai 0 ci, .slice am 0 cm2, I d, I 4, I 2, I 0]] W fun e w' => e = .returned (I (if chkP (tbS (tkS 116) 0 1 d 4 2 0) then 0 else 90)) ∧ Below W.heap.size W w') := fun W d hs => check_any (tbS (tkS 116) 0 1 d 4 2 0) ⟨⟨at_, 1, ct⟩, ⟨some ⟨gg, oo, none⟩, 1, cg⟩, ⟨ar, 0, cr⟩, ⟨ak, 0, ck⟩, ⟨aa, 0, ca⟩, ⟨ai, 0, ci⟩, ⟨am, 0, cm2⟩⟩ W (hs.at9 0 1 d 4 2 0) (wfK d 4 2 0)
  clear f0 f1 hrr hgl so h6 hG b1 b2 b3
  have hiT : (Tryz.prog.info? 30).map (·.size) = some (#[I 0, I 1, .slice at_ 1 ct, .slice (some ⟨gg, oo, none⟩) 1 cg, .slice ar 0 cr, .slice ak 0 ck, .slice aa 0 ca, .slice ai 0 ci, .slice am 0 cm2, I 1, I 4, I 2, I 0] : Array Value).size := by kernel_rfl
  have hz13 := heap_alloc_new w2 (.cells zT13 30)
  have hst : (w2.alloc (.cells zT13 30)).setRow w2.heap.size #[I 0, I 1, .slice at_ 1 ct, .slice (some ⟨gg, oo, none⟩) 1 cg, .slice ar 0 cr, .slice ak 0 ck, .slice aa 0 ca, .slice ai 0 ci, .slice am 0 cm2, I 1, I 4, I 2, I 0] = w2.alloc (.cells #[I 0, I 1, .slice at_ 1 ct, .slice (some ⟨gg, oo, none⟩) 1 cg, .slice ar 0 cr, .slice ak 0 ck, .slice aa 0 ca, .slice ai 0 ci, .slice am 0 cm2, I 1, I 4, I 2, I 0] 30) := World.setRow_alloc_new _ _ _ _
  have h1c : (#[I 0, I 1, .slice at_ 1 ct, .slice (some ⟨gg, oo, none⟩) 1 cg, .slice ar 0 cr, .slice ak 0 ck, .slice aa 0 ca, .slice ai 0 ci, .slice am 0 cm2, I 1, I 4, I 2, I 0] : Array Value).all (·.oneCell') = true := by simp [Value.oneCell']
  have hsz : zT13.size = (#[I 0, I 1, .slice at_ 1 ct, .slice (some ⟨gg, oo, none⟩) 1 cg, .slice ar 0 cr, .slice ak 0 ck, .slice aa 0 ca, .slice ai 0 ci, .slice am 0 cm2, I 1, I 4, I 2, I 0] : Array Value).size := rfl
  obtain ⟨TB, hTB⟩ : ∃ TB : Array Value, TB = #[I 0, I 1, .slice at_ 1 ct, .slice (some ⟨gg, oo, none⟩) 1 cg, .slice ar 0 cr, .slice ak 0 ck, .slice aa 0 ca, .slice ai 0 ci, .slice am 0 cm2, I 1, I 4, I 2, I 0] := ⟨_, rfl⟩
  rw [← hTB] at hiT hst h1c hsz
  have hgo : (tbC tbK ⟨⟨at_, 1, ct⟩, ⟨some ⟨gg, oo, none⟩, 1, cg⟩, ⟨ar, 0, cr⟩, ⟨ak, 0, ck⟩, ⟨aa, 0, ca⟩, ⟨ai, 0, ci⟩, ⟨am, 0, cm2⟩⟩) = TB := hTB.symm
  rw [hgo]
  clear hgo
  unfold zT13 at hz13 hst hsz
  go_upto_region 2 with (first | (with_reducible refine wpList_id99 ?_; refine wpList_store_row rfl 30 _ _ rfl w2.heap.size _ rfl rfl 30 _ hz13 hiT hsz h1c ?_; rw [hst]))
  clear hz13 hst h1c hsz hiT
  (try rw [hTB])
  clear hTB
  generalize (w2.alloc (.cells #[I 0, I 1, .slice at_ 1 ct, .slice (some ⟨gg, oo, none⟩) 1 cg, .slice ar 0 cr, .slice ak 0 ck, .slice aa 0 ca, .slice ai 0 ci, .slice am 0 cm2, I 1, I 4, I 2, I 0] 30)) = w3 at *
  generalize w2.heap.size = X at *
  have z2 := cell_of_row w3 X 2 _ _ (0, 0) hT3
  have z3 := cell_of_row w3 X 3 _ _ (0, 0) hT3
  have z9 := cell_of_row w3 X 9 _ _ (0, 0) hT3
  have z10 := cell_of_row w3 X 10 _ _ (0, 0) hT3
  have z11 := cell_of_row w3 X 11 _ _ (0, 0) hT3
  simp at z2 z3 z9 z10 z11
  have kC := KC.out w3 1 H3.out
  rw [show chkP (tbS (tkS 116) 0 1 1 4 2 0) = true from chkK] at kC
  have hi13 : (Tryz.prog.info? 30).map (·.size) = some (#[I 0, I 1, .slice at_ 1 ct, .slice (some ⟨gg, oo, none⟩) 1 cg, .slice ar 0 cr, .slice ak 0 ck, .slice aa 0 ca, .slice ai 0 ci, .slice am 0 cm2, I 1, I 4, I 2, I 0] : Array Value).size := by kernel_rfl
  go_upto_region 5 with (first | (with_reducible refine wpList_id99 ?_; refine wpList_load_row rfl 30 _ rfl X rfl 30 _ (0, 0) _ hT3 Tryz.underlying30 rfl hi13 ?_) | (go_at_call 8; refine kC.mono ?_; clear kC; rintro e w4 ⟨rfl, b4⟩))
  have hT4 := (b4.block _ (heap_lt hT3)).trans hT3
  have y9 := cell_of_row w4 X 9 _ _ (0, 0) hT4
  have fz := frozen_of_row w4 X 9 _ _ hT4
  simp at y9
  have g5 := grown_set w4 X 9 (I 2)
  have hT5 := heap_setCell_same w4 X 9 _ _ (I 2) hT4
  have hb4 : Below w.heap.size w w4 := HB3.out.trans (b4.mono HB3.out.size)
  have HB5 : Hid (Below w.heap.size w (w4.setCell ⟨X, 9, none⟩ (I 2))) := hb4.grown g5 hb4.size (fun k e => by cases e; exact HX.out)
  have so5 : SO w1.heap.size (w4.setCell ⟨X, 9, none⟩ (I 2)) (tkS 116) ⟨⟨at_, 1, ct⟩, ⟨some ⟨gg, oo, none⟩, 1, cg⟩, ⟨ar, 0, cr⟩, ⟨ak, 0, ck⟩, ⟨aa, 0, ca⟩, ⟨ai, 0, ci⟩, ⟨am, 0, cm2⟩⟩ := (H3.out.below b4).store hT4 g5
  have kC := KC.out _ 2 so5
  rw [show chkP (tbS (tkS 116) 0 1 2 4 2 0) = false from chkK2] at kC
  clear so5 g5 hT3 hT4 b4 z2 z3 z9 z10 z11 hi13 hb4 r0 r1
  go_upto_region 6 with fail
  generalize w4.setCell ⟨X, 9, none⟩ (I 2) = w5 at *
  clear y9 fz
  have hT6 : w5.heap[X]? = some (.cells #[I 0, I 1, .slice at_ 1 ct, .slice (some ⟨gg, oo, none⟩) 1 cg, .slice ar 0 cr, .slice ak 0 ck, .slice aa 0 ca, .slice ai 0 ci, .slice am 0 cm2, I 2, I 4, I 2, I 0] 30 (0, 0)) := hT5
  clear hT5
  have hi13 : (Tryz.prog.info? 30).map (·.size) = some (#[I 0, I 1, .slice at_ 1 ct, .slice (some ⟨gg, oo, none⟩) 1 cg, .slice ar 0 cr, .slice ak 0 ck, .slice aa 0 ca, .slice ai 0 ci, .slice am 0 cm2, I 2, I 4, I 2, I 0] : Array Value).size := by kernel_rfl
  go_wp2_with (first | (with_reducible refine wpList_id99 ?_; refine wpList_load_row9 (by kernel_rfl) 30 _ rfl X rfl 30 _ (0, 0) _ hT6 Tryz.underlying30 rfl hi13 ?_))
  refine kC.mono ?_
  clear kC
  rintro e w6 ⟨rfl, b6⟩
  go_wp2
  go_ret
  exact ⟨rfl, HB5.out.trans (b6.mono HB5.out.size)⟩
end Go.Proofs.YtmidaeljeoifdaaGreatDoor

namespace Go.Proofs.YtmidaeljeoifdaaGreatDoor
open Go.RowKit Go.Shelf Go.Sort Go.Maps
set_option linter.unusedVariables false
set_option linter.unusedSimpArgs false
set_option maxHeartbeats 8000000
set_option maxRecDepth 100000

/-! ### TableChecks -/
theorem checks9_any (tb : Tb) (v : Ts) (w : World) (h : TbAt w tb v) (hw : WfT tb) (hE : EnvE w) : Calls Tryz.prog 3 #[.agg (tbC tb v)] w fun e w' => e = .returned (.bool true) ∧ Below w.heap.size w w' := by
  have hb := below_alloc w (.cells (tbC tb v) 30)
  have hV := heap_alloc_new w (.cells (tbC tb v) 30)
  have hi30 : (Tryz.prog.info? 30).map (·.size) = some (tbC tb v).size := by kernel_rfl
  obtain ⟨Z, hZ⟩ : ∃ Z : Int, Z = if chkP tb then 0 else 90 := ⟨_, rfl⟩
  have hZ2 : zOf (chkD tb) = Z := by rw [hZ, ← chk_same (fun x hx => (hw.s x hx).1)]; rfl
  have c1 : ∀ d os, Calls Tryz.prog 8 #[.agg (tbC tb v)] (grow (redrawn (w.alloc (.cells (tbC tb v) 30)) d) os) fun e w'' => e = .returned (I Z) ∧ ∃ p : Regrown, w'' = grow (redrawn (w.alloc (.cells (tbC tb v) 30)) p.d) p.os := fun d os => Calls.regrown_of (by rw [hZ]; exact check_any tb v _ ((h.below hb).below (below_regrown _ d os)) hw)
  have c2 : ∀ d os, Calls Tryz.prog 9 #[.agg (tbC tb v)] (grow (redrawn (w.alloc (.cells (tbC tb v) 30)) d) os) fun e w'' => e = .returned (I Z) ∧ ∃ p : Regrown, w'' = grow (redrawn (w.alloc (.cells (tbC tb v) 30)) p.d) p.os := fun d os => Calls.regrown_of (by rw [← hZ2]; exact docCheck_any9 tb v _ ((h.below hb).below (below_regrown _ d os)))
  have c3 : ∀ d os, Calls Tryz.prog 10 #[] (grow (redrawn (w.alloc (.cells (tbC tb v) 30)) d) os) fun e w'' => e = .returned (.bool true) ∧ ∃ p : Regrown, w'' = grow (redrawn (w.alloc (.cells (tbC tb v) 30)) p.d) p.os := fun d os => Calls.regrown_of (heads9_any _ ((hE.below hb).below (below_regrown _ d os)))
  have HB : Hid _ := hb
  have hV9 := heap_regrown9 hV
  clear hb h hw hE hZ hZ2
  generalize tbC tb v = C at *
  go_enter Tryz.func3, Tryz.ntmps3
  go_upto_region 1 with fail
  generalize w.alloc (.cells C 30) = W0 at *
  refine wp_region_quiet_below (by kernel_rfl) (by kernel_rfl) ?_
  repeat (first | (go_big_quiet_step (first | exact c1 _ _ | exact c2 _ _ | exact c3 _ _)) | (refine wpQuiet_load_row9 (by kernel_rfl) 30 _ rfl w.heap.size rfl 30 _ (0, 0) _ hV9 Tryz.underlying30 rfl hi30 ?_; simp only [Act.put, List.getElem_toArray, List.getElem_cons_succ, List.getElem_cons_zero, List.setIfInBounds_toArray, List.set_cons_zero, List.set_cons_succ]))
  refine wpQuiet_nil ?_
  rintro _ ⟨⟨dq, osq⟩, rfl⟩
  dsimp only
  have HB9 : Hid (Below w.heap.size w (grow (redrawn W0 dq) osq)) := HB.out.trans ((below_regrown W0 dq osq).mono HB.out.size)
  clear c1 c2 c3 hV9 hV
  generalize grow (redrawn W0 dq) osq = w9 at *
  go_wp2
  go_ret
  exact ⟨rfl, HB9.out⟩
end Go.Proofs.YtmidaeljeoifdaaGreatDoor

namespace Go.Proofs.YtmidaeljeoifdaaGreatDoor
open Go.ChangeShapes Go.WideShapes Go.RowKit
set_option linter.unusedVariables false

theorem laidOutS : laidOutB Tryz.prog = true := by kernel_rfl
def zeroV : Value := .agg #[.int .i64 0, .int .i64 0, .slice none 0 0, .slice none 0 0, .slice none 0 0, .slice none 0 0, .slice none 0 0, .slice none 0 0, .slice none 0 0, .int .i64 0, .int .i64 0, .int .i64 0, .int .i64 0]
set_option maxRecDepth 100000 in
theorem tableChecks_lifted (os : Os) (started : os.Started) (H : Type) (enc : TypeId × Value → H) :
    ReturnsInHanded {} Tryz.checked os 3 .any (fun w args => (Rows.tableChecksSpec.pre enc Tryz.prog Tryz.f3 [] false w args ∧ laidMetH Tryz.prog laidT w) ∧ sizedMet enc Tryz.prog Tryz.f3 (OpenSpec.ofChange Rows.tableChecksSpec) false w args)
      (Rows.tableChecksSpec.post enc Tryz.prog Tryz.f3 false true false false) := by
  refine lift_laid (C := Tryz.checked) (X := fun w => laidMetH Tryz.prog laidT w) (fun _ _ hh h => h.of_heap hh) own started (by kernel_rfl) Tryz.func3
    (ChangeSpec.witness_shaped (enc := enc) (C := Tryz.checked) (os := os) (X := fun w _ => laidMetH Tryz.prog laidT w) false (witW os) #[zeroV] 8 (witW_os os) (wit_shaped os _) (by kernel_rfl) (by kernel_rfl) (by kernel_rfl) (wit_met os _)) ?_
  intro W base args ds gs before hval0 hW hsz0 hL hSh
  have hval : ∀ (j : Nat) t v, Tryz.f3.params[j]? = some t → args[j]? = some v → Value.okWide Tryz.prog W .any base t v := hval0
  have hW' := hW
  obtain ⟨p, q, hA0, hV, rfl, hfz, hnd⟩ := hW
  have hA : DataW.TrodAll enc Tryz.prog W 0 (fun _ => true) true Tryz.f3.params.toList args.toList ds p := hA0
  have hsz : (DataW.weightsEach Tryz.prog (Tryz.f3.params.toList ++ Rows.tableChecksSpec.plain.varTypes Tryz.prog) (ds ++ gs)).all (· ≤ reachBytes) = true := hsz0
  rw [Tryz.params3] at hA hval hsz
  obtain ⟨v0, vs0, d0, ds0, p0, q0, hargs, rfl, rfl, h0, r0⟩ := trodAll_cons hA
  obtain ⟨rfl, rfl, rfl⟩ := trodAll_nil r0
  obtain rfl : args = #[v0] := by cases args; simp_all
  obtain ⟨rfl, rfl⟩ := trodVars_none hV
  have k0 := h0
  have lt0 : ∀ x ∈ p0, x.block < W.heap.size := by obtain ⟨m, hm⟩ := k0; exact DataW.trod_lt m _ _ _ hm
  obtain ⟨c, vv, rfl, hC, hLn⟩ := tables_open (hval 0 30 v0 rfl rfl) h0
  clear hA0 hval0
  refine (checks9_any c vv W hC hLn (et_of hL)).mono fun e W' ⟨he, bel⟩ => ?_
  subst he
  exact ⟨_, rfl, _, _, _, [], _, [], hW', trodAll_mk1 (shut_bool Tryz.underlying4 _), (trodAll_cons_mk (Below.trod laidOutS (by kernel_rfl) (of_decide_eq_true (by kernel_rfl)) k0 bel lt0) trodAll_mk0), rfl, bel.frame _, fun h => by cases h⟩
end Go.Proofs.YtmidaeljeoifdaaGreatDoor

namespace Go.Proofs.YtmidaeljeoifdaaGreatDoor
open Go.ChangeShapes Go.WideShapes Go.RowKit
set_option linter.unusedVariables false

theorem and_mk9 {a b : Bool} (h1 : a = true) (h2 : b = true) : (a && b) = true := by rw [h1, h2]; rfl
set_option maxHeartbeats 64000000 in
set_option maxRecDepth 100000 in
theorem tableChecks_facts : joinedFacts Tryz.prog 3 Tryz.f3 Rows.tableChecksSpec Rows.tableChecksRow = true := by
  unfold joinedFacts
  repeat' (with_reducible refine and_mk9 ?_ ?_)
  all_goals (as_aux_lemma => kernel_rfl)
end Go.Proofs.YtmidaeljeoifdaaGreatDoor

namespace Go.Proofs.YtmidaeljeoifdaaGreatDoor
open Go.ChangeShapes Go.WideShapes Go.RowKit
set_option linter.unusedVariables false

theorem tableChecks_over : Rows.TableChecksSaid :=
  OpenClaim.holds_of_wide 3 Tryz.f3 rfl rfl rfl rfl rfl rfl rfl ⟨rfl, rfl, rfl, rfl, rfl⟩ rfl rfl rfl rfl rfl (by kernel_rfl) Tryz.func3 tableChecks_facts
    (of_decide_eq_true (by kernel_rfl)) (by unfold Func.isWrapper; first | (rw [if_pos (by decide +kernel)]; kernel_rfl) | (rw [if_neg (by decide +kernel)]; exact ⟨rfl, rfl⟩))
    (fun os started H enc _ => tableChecks_lifted os started H enc)
end Go.Proofs.YtmidaeljeoifdaaGreatDoor

namespace Go.Proofs.YtmidaeljeoifdaaGreatDoor
set_option linter.unusedVariables false

theorem tableChecks_holds : Rows.TableChecksCardSaid :=
  Claim7.holds_tied_plain_at .later [] [.handle] true _ true
    tableChecks_over (fun _ h => by cases h) (by kernel_rfl) (fun _ h => by cases h) tableChecks_row_tie rfl ⟨rfl, rfl⟩ (by kernel_rfl) rfl
    (fun f fn hf hfn => by
      obtain rfl : f = 3 := Option.some.inj ((show Tryz.prog.funcNamed "tappet/tappetlaw09.TableChecks" = some 3 by kernel_rfl).symm.trans hf) |>.symm
      obtain rfl : fn = Tryz.f3 := (Option.some.inj (Tryz.func3.symm.trans hfn)).symm
      exact ⟨by kernel_rfl, fun j t ht => by
        rw [Tryz.params3] at ht
        have hm : t ∈ [30] := by simpa using Array.mem_of_getElem? ht
        have hall : ([30].all fun u => !Tryz.prog.wantsStandIn u) = true := by kernel_rfl
        exact (show Tryz.prog.wantsStandIn t = false by simpa using List.all_eq_true.1 hall t hm)⟩)
    (by kernel_rfl)
#print axioms tableChecks_holds
end Go.Proofs.YtmidaeljeoifdaaGreatDoor

