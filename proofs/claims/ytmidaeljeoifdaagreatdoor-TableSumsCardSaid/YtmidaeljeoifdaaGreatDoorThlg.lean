import Derived.Test.YtmidaeljeoifdaaGreatDoorThkg
import Derived.Test.YtmidaeljeoifdaaGreatDoorTcz
namespace Go.Proofs.YtmidaeljeoifdaaGreatDoor
open Go.RowKit Go.Shelf Go.Sort Go.Maps
set_option linter.unusedVariables false
set_option linter.unusedSimpArgs false
set_option maxHeartbeats 8000000
set_option maxRecDepth 100000
theorem wpList_load_row9g {P : Program} {ops : Array Oper} {rest : List Oper} {o : Oper} {a : Act} {w : World} {Q : Exit → Act → World → Prop} (hgd : Region.wanted o (yielded ops a.tmps) = true) (ty : TypeId) (x : Operand) (ho : o.op = .load ty x)
  (g : Nat) (hx : a.eval x = .pointer (some ⟨g, 0, none⟩)) (t : TypeId) (cs : Array Value) (fr : Nat × Nat) (d : TypeDesc) (hg : w.heap[g]? = some (.cells cs t fr))
  (hu : P.underlying ty = some d) (hd : (match d with | .struct _ | .array _ _ => true | _ => false) = true) (hi : (P.info? ty).map (·.size) = some cs.size)
  (h : wpList P ops Q rest (a.put o.dst (.agg cs)) w) : wpList P ops Q (o :: rest) a w :=
 BigFrame.wpList_want hgd fun _ hK => wp_load_row ty x ho g hx t cs fr d hg hu hd hi (hK _ _ h)
abbrev tbK2g : Tb := tbS (tkS 116) 0 1 2 4 2 0
theorem chkKg : chkP tbK = true := by decide +kernel
theorem chkK2g : chkP tbK2g = false := by decide +kernel
theorem wfKg (d f e c : Int) : WfT (tbS (tkS 116) 0 1 d f e c) := by
 refine ⟨fun x hx => ?_, (fun x hx => by cases hx), (fun x hx => by cases hx), (fun x hx => by cases hx)⟩
 have e1 : x = trow (tkS 116) := by simpa [tbS] using hx
 subst e1
 exact ⟨by decide, by decide⟩
theorem capKg : IntKind.i64.wrap (capN [trow (tkS 116)] (tkS 116).prio) = 1 := by decide +kernel
theorem heads9_anyg (w : World) (hE : EnvE w) : Calls Tryz.prog 10 #[] w fun e w' => e = .returned (.bool true) ∧ Below w.heap.size w w' := by
 have kS := small_any w
 have HM : Hid (∀ (W : World) (bm g : Nat), Below w.heap.size w W → W.heap[bm]? = some (.cells #[S [109]] 9 (0, 0)) → W.heap[g]? = some (.cells (tkC 116).toArray 58 (0, 0)) → Calls Tryz.prog 11 #[.agg (cfC cS0 (vS0 bm g))] W fun e w' => (∃ v : Ts, e = .returned (.tuple #[.agg (tbC tbK v), I 0]) ∧ SO W.heap.size w' (tkS 116) v) ∧ Below W.heap.size W w') := fun W bm g hW h1 h2 => make_small9 W bm g (small_at h1 h2 [116] (by decide) (by unfold maxLen; decide) rfl) (hE.below hW)
 clear hE
 go_enter Tryz.func10, Tryz.ntmps10
 go_wp2_with (first | fail)
 refine kS.mono ?_
 clear kS
 rintro e w1 ⟨bm, g, rfl, b1, _, hm1, ht1⟩
 have kM := HM.out w1 bm g b1 hm1 ht1
 clear hm1 ht1 HM
 generalize cfC cS0 (vS0 bm g) = C at *
 go_wp2_with (first | fail)
 refine kM.mono ?_
 clear kM
 rintro e w2 ⟨⟨v, rfl, so⟩, b2⟩
 obtain ⟨at_, ct, ag, cg, ar, cr, ak, ck, aa, ca, ai, ci, am, cm2, rfl, h6, hG⟩ := so
 have so : SO w1.heap.size w2 (tkS 116) ⟨⟨at_, 1, ct⟩, ⟨ag, 1, cg⟩, ⟨ar, 0, cr⟩, ⟨ak, 0, ck⟩, ⟨aa, 0, ca⟩, ⟨ai, 0, ci⟩, ⟨am, 0, cm2⟩⟩ := ⟨at_, ct, ag, cg, ar, cr, ak, ck, aa, ca, ai, ci, am, cm2, rfl, h6, hG⟩
 have b3 := below_alloc w2 (.cells #[I 0, I 1, .slice at_ 1 ct, .slice ag 1 cg, .slice ar 0 cr, .slice ak 0 ck, .slice aa 0 ca, .slice ai 0 ci, .slice am 0 cm2, I 1, I 4, I 2, I 0] 30)
 have hT3 := heap_alloc_new w2 (.cells #[I 0, I 1, .slice at_ 1 ct, .slice ag 1 cg, .slice ar 0 cr, .slice ak 0 ck, .slice aa 0 ca, .slice ai 0 ci, .slice am 0 cm2, I 1, I 4, I 2, I 0] 30)
 have H3 : Hid (SO w1.heap.size (w2.alloc (.cells #[I 0, I 1, .slice at_ 1 ct, .slice ag 1 cg, .slice ar 0 cr, .slice ak 0 ck, .slice aa 0 ca, .slice ai 0 ci, .slice am 0 cm2, I 1, I 4, I 2, I 0] 30)) (tkS 116) ⟨⟨at_, 1, ct⟩, ⟨ag, 1, cg⟩, ⟨ar, 0, cr⟩, ⟨ak, 0, ck⟩, ⟨aa, 0, ca⟩, ⟨ai, 0, ci⟩, ⟨am, 0, cm2⟩⟩) := so.below b3
 have HB3 : Hid (Below w.heap.size w (w2.alloc (.cells #[I 0, I 1, .slice at_ 1 ct, .slice ag 1 cg, .slice ar 0 cr, .slice ak 0 ck, .slice aa 0 ca, .slice ai 0 ci, .slice am 0 cm2, I 1, I 4, I 2, I 0] 30))) := by
  have q := b1.trans (b2.mono b1.size)
  exact q.trans (b3.mono q.size)
 have HX : Hid (w.heap.size ≤ w2.heap.size) := (b1.trans (b2.mono b1.size)).size
 have hR := (RO.rows (l := [_]) (RG.below hG b3) (P := rgrP) (fun _ _ _ h => h)).row 0 _ rfl
 obtain ⟨gg, oo, eg, hgl, hrr⟩ := hR
 obtain ⟨u0, r0, f0⟩ := hrr 0 (by omega)
 obtain ⟨u1, r1, f1⟩ := hrr 1 (by omega)
 have f0' : u0 = I 1 := f0
 have f1' : u1 = I 1 := by have q : u1 = I (IntKind.i64.wrap (capN [trow (tkS 116)] (tkS 116).prio)) := f1; rw [capKg] at q; exact q
 subst f0' f1'
 dsimp only at eg
 subst eg
 simp only [Nat.zero_mul, Nat.add_zero] at r0 r1
 have KC : Hid (∀ (W : World) (d : Int), SO w1.heap.size W (tkS 116) ⟨⟨at_, 1, ct⟩, ⟨some ⟨gg, oo, none⟩, 1, cg⟩, ⟨ar, 0, cr⟩, ⟨ak, 0, ck⟩, ⟨aa, 0, ca⟩, ⟨ai, 0, ci⟩, ⟨am, 0, cm2⟩⟩ → Calls Tryz.prog 8 #[.agg #[I 0, I 1, .slice at_ 1 ct, .slice (some ⟨gg, oo, none⟩) 1 cg, .slice ar 0 cr, .slice ak 0 ck, .slice aa 0 ca, .slice ai 0 ci, .slice am 0 cm2, I d, I 4, I 2, I 0]] W fun e w' => e = .returned (I (if chkP (tbS (tkS 116) 0 1 d 4 2 0) then 0 else 90)) ∧ Below W.heap.size W w') := fun W d hs => check_any (tbS (tkS 116) 0 1 d 4 2 0) ⟨⟨at_, 1, ct⟩, ⟨some ⟨gg, oo, none⟩, 1, cg⟩, ⟨ar, 0, cr⟩, ⟨ak, 0, ck⟩, ⟨aa, 0, ca⟩, ⟨ai, 0, ci⟩, ⟨am, 0, cm2⟩⟩ W (hs.at9 0 1 d 4 2 0) (wfKg d 4 2 0)
 clear f0 f1 hrr hgl so h6 hG b1 b2 b3
 have hiT : (Tryz.prog.info? 30).map (·.size) = some (#[I 0, I 1, .slice at_ 1 ct, .slice (some ⟨gg, oo, none⟩) 1 cg, .slice ar 0 cr, .slice ak 0 ck, .slice aa 0 ca, .slice ai 0 ci, .slice am 0 cm2, I 1, I 4, I 2, I 0] : Array Value).size := by kernel_rfl
 have hz13 := heap_alloc_new w2 (.cells zT13 30)
 have hst : (w2.alloc (.cells zT13 30)).setRow w2.heap.size #[I 0, I 1, .slice at_ 1 ct, .slice (some ⟨gg, oo, none⟩) 1 cg, .slice ar 0 cr, .slice ak 0 ck, .slice aa 0 ca, .slice ai 0 ci, .slice am 0 cm2, I 1, I 4, I 2, I 0] = w2.alloc (.cells #[I 0, I 1, .slice at_ 1 ct, .slice (some ⟨gg, oo, none⟩) 1 cg, .slice ar 0 cr, .slice ak 0 ck, .slice aa 0 ca, .slice ai 0 ci, .slice am 0 cm2, I 1, I 4, I 2, I 0] 30) := World.setRow_alloc_new _ _ _ _
 have h1c : (#[I 0, I 1, .slice at_ 1 ct, .slice (some ⟨gg, oo, none⟩) 1 cg, .slice ar 0 cr, .slice ak 0 ck, .slice aa 0 ca, .slice ai 0 ci, .slice am 0 cm2, I 1, I 4, I 2, I 0] : Array Value).all (·.oneCell') = true := by simp [Value.oneCell']
 have hsz : zT13.size = (#[I 0, I 1, .slice at_ 1 ct, .slice (some ⟨gg, oo, none⟩) 1 cg, .slice ar 0 cr, .slice ak 0 ck, .slice aa 0 ca, .slice ai 0 ci, .slice am 0 cm2, I 1, I 4, I 2, I 0] : Array Value).size := rfl
 obtain ⟨TB, hTB⟩ : ∃ TB : Array Value, TB = #[I 0, I 1, .slice at_ 1 ct, .slice (some ⟨gg, oo, none⟩) 1 cg, .slice ar 0 cr, .slice ak 0 ck, .slice aa 0 ca, .slice ai 0 ci, .slice am 0 cm2, I 1, I 4, I 2, I 0] := ⟨_, rfl⟩
 rw [← hTB] at hiT hst h1c hsz
 have hgo : (tbC tbK ⟨⟨at_, 1, ct⟩, ⟨some ⟨gg, oo, none⟩, 1, cg⟩, ⟨ar, 0, cr⟩, ⟨ak, 0, ck⟩, ⟨aa, 0, ca⟩, ⟨ai, 0, ci⟩, ⟨am, 0, cm2⟩⟩) = TB := hTB.symm
 rw [hgo]
 clear hgo
 unfold zT13 at hz13 hst hsz
 go_upto_region 2 with (first | (with_reducible refine wpList_id99 ?_; refine wpList_store_row rfl 30 _ _ rfl w2.heap.size _ rfl rfl 30 _ hz13 hiT hsz h1c ?_; rw [hst]))
 clear hz13 hst h1c hsz hiT
 (try rw [hTB])
 clear hTB
 generalize (w2.alloc (.cells #[I 0, I 1, .slice at_ 1 ct, .slice (some ⟨gg, oo, none⟩) 1 cg, .slice ar 0 cr, .slice ak 0 ck, .slice aa 0 ca, .slice ai 0 ci, .slice am 0 cm2, I 1, I 4, I 2, I 0] 30)) = w3 at *
 generalize w2.heap.size = X at *
 have z2 := cell_of_row w3 X 2 _ _ (0, 0) hT3
 have z3 := cell_of_row w3 X 3 _ _ (0, 0) hT3
 have z9 := cell_of_row w3 X 9 _ _ (0, 0) hT3
 have z10 := cell_of_row w3 X 10 _ _ (0, 0) hT3
 have z11 := cell_of_row w3 X 11 _ _ (0, 0) hT3
 simp at z2 z3 z9 z10 z11
 have kC := KC.out w3 1 H3.out
 rw [show chkP (tbS (tkS 116) 0 1 1 4 2 0) = true from chkKg] at kC
 have hi13 : (Tryz.prog.info? 30).map (·.size) = some (#[I 0, I 1, .slice at_ 1 ct, .slice (some ⟨gg, oo, none⟩) 1 cg, .slice ar 0 cr, .slice ak 0 ck, .slice aa 0 ca, .slice ai 0 ci, .slice am 0 cm2, I 1, I 4, I 2, I 0] : Array Value).size := by kernel_rfl
 go_upto_region 5 with (first | (with_reducible refine wpList_id99 ?_; refine wpList_load_row rfl 30 _ rfl X rfl 30 _ (0, 0) _ hT3 Tryz.underlying30 rfl hi13 ?_) | (go_at_call 8; refine kC.mono ?_; clear kC; rintro e w4 ⟨rfl, b4⟩))
 have hT4 := (b4.block _ (heap_lt hT3)).trans hT3
 have y9 := cell_of_row w4 X 9 _ _ (0, 0) hT4
 have fz := frozen_of_row w4 X 9 _ _ hT4
 simp at y9
 have g5 := grown_set w4 X 9 (I 2)
 have hT5 := heap_setCell_same w4 X 9 _ _ (I 2) hT4
 have hb4 : Below w.heap.size w w4 := HB3.out.trans (b4.mono HB3.out.size)
 have HB5 : Hid (Below w.heap.size w (w4.setCell ⟨X, 9, none⟩ (I 2))) := hb4.grown g5 hb4.size (fun k e => by cases e; exact HX.out)
 have so5 : SO w1.heap.size (w4.setCell ⟨X, 9, none⟩ (I 2)) (tkS 116) ⟨⟨at_, 1, ct⟩, ⟨some ⟨gg, oo, none⟩, 1, cg⟩, ⟨ar, 0, cr⟩, ⟨ak, 0, ck⟩, ⟨aa, 0, ca⟩, ⟨ai, 0, ci⟩, ⟨am, 0, cm2⟩⟩ := (H3.out.below b4).store hT4 g5
 have kC := KC.out _ 2 so5
 rw [show chkP (tbS (tkS 116) 0 1 2 4 2 0) = false from chkK2g] at kC
 clear so5 g5 hT3 hT4 b4 z2 z3 z9 z10 z11 hi13 hb4 r0 r1
 go_upto_region 6 with fail
 generalize w4.setCell ⟨X, 9, none⟩ (I 2) = w5 at *
 clear y9 fz
 have hT6 : w5.heap[X]? = some (.cells #[I 0, I 1, .slice at_ 1 ct, .slice (some ⟨gg, oo, none⟩) 1 cg, .slice ar 0 cr, .slice ak 0 ck, .slice aa 0 ca, .slice ai 0 ci, .slice am 0 cm2, I 2, I 4, I 2, I 0] 30 (0, 0)) := hT5
 clear hT5
 have hi13 : (Tryz.prog.info? 30).map (·.size) = some (#[I 0, I 1, .slice at_ 1 ct, .slice (some ⟨gg, oo, none⟩) 1 cg, .slice ar 0 cr, .slice ak 0 ck, .slice aa 0 ca, .slice ai 0 ci, .slice am 0 cm2, I 2, I 4, I 2, I 0] : Array Value).size := by kernel_rfl
 go_wp2_with (first | (with_reducible refine wpList_id99 ?_; refine wpList_load_row9g (by kernel_rfl) 30 _ rfl X rfl 30 _ (0, 0) _ hT6 Tryz.underlying30 rfl hi13 ?_))
 refine kC.mono ?_
 clear kC
 rintro e w6 ⟨rfl, b6⟩
 go_wp2
 go_ret
 exact ⟨rfl, HB5.out.trans (b6.mono HB5.out.size)⟩
end Go.Proofs.YtmidaeljeoifdaaGreatDoor
