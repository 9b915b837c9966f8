import Derived.Test.YtpbnpmeigdjfdaaGreatDoorBbc
import Derived.Test.YtpbnpmeigdjfdaaGreatDoorXKvl
import Derived.Test.YtpbnpmeigdjfdaaGreatDoorMlk
import Derived.Test.YtpbnpmeigdjfdaaGreatDoorXEen
namespace Go.Proofs.YtpbnpmeigdjfdaaGreatDoor
open Go.RowKit Go.Sort
set_option linter.unusedSimpArgs false
set_option linter.unusedVariables false
set_option maxHeartbeats 16000000
set_option maxRecDepth 100000
def chkZ (c : Cf) (f : Fg) : Int := if (allF c).isSome then 2 else if timesB c f && f.s.all (secB c f) then 0 else 270
theorem meet_may {c : Cf} (h : allF c = none) : MeetR c := by
 have hm := (Ce.look_lk (look_may h)).1
 have hn : c.ress.length ≤ 8796093022208 := by
  have := (may_of h).r.1
  unfold inR at this
  simp at this
  omega
 intro t x ht z hz
 have := (Ce.meet_task hm hn (List.mem_of_getElem? ht)).1 z hz
 simpa [Ce.isId] using this
theorem tim_len {c : Cf} {f : Fg} (h : timesB c f = true) : f.w.length = c.tasks.length ∧ f.p.length = c.tasks.length ∧ f.i.length = c.isrs.length ∧ f.e.length = c.isrs.length := by
 unfold timesB timB at h
 simp only [Bool.and_eq_true, beq_iff_eq] at h
 exact ⟨h.1.1.1.1, h.1.1.2.1, h.1.2.1, h.2.1⟩
theorem fld_codeB (W : World) (k : Int) (s : List UInt8) (i : Int) : (Instr.field 86 (.agg #[I k, S s, I i]) 0).run Tryz.prog W = .ok (I k) W := by kernel_rfl
theorem bcheck_any (w : World) (c : Cf) (v : Vs) (h : CfAt w c v) (hl : LensOK c) (hE : EnvE w) (f : Fg) (vf : Vf) (hf : FgAt w f vf) :
  Calls Tryz.prog 13 #[.agg (cfC c v), .agg (fgC vf)] w fun e w' => e = .returned (I (chkZ c f)) ∧ Below w.heap.size w w' := by
 have fld := fld_codeB
 have hb2 : Below w.heap.size w ((w.alloc (.cells (cfC c v) 33)).alloc (.cells (fgC vf) 37)) := ((Below.refl w.heap.size w).alloc (Nat.le_refl _) _).alloc (by simp) _
 have hV0 := heap_two0 w (.cells (cfC c v) 33) (.cells (fgC vf) 37)
 have hV1 := heap_two w (.cells (cfC c v) 33) (.cells (fgC vf) 37)
 have hi18 : (Tryz.prog.info? 33).map (·.size) = some (cfC c v).size := by rw [show (cfC c v).size = 18 from rfl]; kernel_rfl
 have hi5 : (Tryz.prog.info? 37).map (·.size) = some (fgC vf).size := by rw [show (fgC vf).size = 5 from rfl]; kernel_rfl
 have KC : Hid (∀ W, Below w.heap.size w W → Calls Tryz.prog 25 #[.agg (cfC c v)] W fun e w' => VdPost W (allF c) e w') := fun W hW => check_any W c v (h.below hW) hl (hE.below hW)
 have KT : Hid (∀ W, Below w.heap.size w W → Calls Tryz.prog 26 #[.agg (cfC c v), .agg (fgC vf)] W fun e w' => Ans W (timesB c f) e w') := fun W hW => timesFit_any W c v (h.below hW) f vf (hf.below hW)
 have KS : Hid (allF c = none → timesB c f = true → ∀ W, Below w.heap.size w W → Calls Tryz.prog 27 #[.agg (cfC c v), .agg (fgC vf)] W fun e w' => Ans W (f.s.all (secB c f)) e w') := fun h0 h1 W hW => sectionsFit_any W c v (h.below hW) f vf (hf.below hW) (meet_may h0) (tim_len h1).1
 have HZ : Hid (chkZ c f = if (allF c).isSome then 2 else if timesB c f && f.s.all (secB c f) then 0 else 270) := rfl
 generalize chkZ c f = z at *
 generalize cfC c v = C at *
 generalize fgC vf = F at *
 clear h hl hE hf
 cases ho : allF c with
 | some p =>
  obtain ⟨cd, wd, ix⟩ := p
  have hcd : (cd != 0) = true := by have := allF_code ho; simpa using this
  have k1 := KC.out _ hb2
  rw [ho] at k1 HZ
  clear ho KC KT KS
  go_enter Tryz.func13, Tryz.ntmps13
  go_wp2_with (first | (refine wpList_load_row rfl 33 _ rfl w.heap.size rfl 33 _ (0, 0) _ hV0 Tryz.underlying33 rfl hi18 ?_) | (go_at_call 25; refine k1.mono ?_; clear k1; rintro e w1 ⟨he, hb3⟩; obtain rfl : e = .returned (.agg #[I cd, S wd, I ix]) := he))
  (try simp only [Exit.inBlock, Exit.then])
  go_ret
  exact ⟨ret_int (by rw [HZ.out]; rfl), hb2.trans (hb3.mono hb2.size)⟩
 | none =>
  have k1 := KC.out _ hb2
  rw [ho] at k1 HZ
  have KS' : Hid (timesB c f = true → ∀ W, Below w.heap.size w W → Calls Tryz.prog 27 #[.agg C, .agg F] W fun e w' => Ans W (f.s.all (secB c f)) e w') := KS.out ho
  clear ho KC KS
  have HB : Hid (∀ W, Below ((w.alloc (.cells C 33)).alloc (.cells F 37)).heap.size ((w.alloc (.cells C 33)).alloc (.cells F 37)) W → W.heap[w.heap.size]? = some (.cells C 33 (0, 0)) ∧ W.heap[w.heap.size + 1]? = some (.cells F 37 (0, 0)) ∧ Below w.heap.size w W) := fun W hW =>
   ⟨(hW.block _ (heap_lt hV0)).trans hV0, (hW.block _ (heap_lt hV1)).trans hV1, hb2.trans (hW.mono hb2.size)⟩
  go_enter Tryz.func13, Tryz.ntmps13
  go_upto_region 3 with (first | (refine wpList_load_row rfl 33 _ rfl w.heap.size rfl 33 _ (0, 0) _ hV0 Tryz.underlying33 rfl hi18 ?_) | (go_at_call 25; refine k1.mono ?_; clear k1; rintro e w1 ⟨he, hb3⟩; obtain rfl : e = .returned (.agg #[I 0, S [], I 0]) := he))
  obtain ⟨q0, q1, hbw⟩ := HB.out _ hb3
  have k2 := KT.out _ hbw
  clear hV0 hV1 hb2 KT
  cases ht : timesB c f with
  | false =>
   rw [ht] at k2 HZ
   clear KS'
   go_wp2_with (first | (refine wpList_load_row rfl 33 _ rfl w.heap.size rfl 33 _ (0, 0) _ q0 Tryz.underlying33 rfl hi18 ?_) | (refine wpList_load_row rfl 37 _ rfl (w.heap.size + 1) rfl 37 _ (0, 0) _ q1 Tryz.underlying37 rfl hi5 ?_) | (go_at_call 26; refine k2.mono ?_; clear k2; rintro e w2 ⟨rfl, hb4⟩))
   (try simp only [Exit.inBlock, Exit.then])
   go_ret
   exact ⟨ret_int (by rw [HZ.out]; rfl), hbw.trans (hb4.mono hbw.size)⟩
  | true =>
   have KS2 : Hid (∀ W, Below w.heap.size w W → Calls Tryz.prog 27 #[.agg C, .agg F] W fun e w' => Ans W (f.s.all (secB c f)) e w') := KS'.out ht
   rw [ht] at k2 HZ
   clear KS' ht
   generalize f.s.all (secB c f) = b at *
   have hbb : b = true ∨ b = false := by cases b <;> simp
   rcases hbb with rfl | rfl
   all_goals
    go_wp2_with (first | (refine Ce.wpList_load_row_g 33 _ rfl w.heap.size rfl 33 _ (0, 0) _ q0 Tryz.underlying33 rfl hi18 (by kernel_rfl) ?_; simp only [Act.put, q7a, q7b, q7c, q7d, q7e, q7f]) | (refine Ce.wpList_load_row_g 37 _ rfl (w.heap.size + 1) rfl 37 _ (0, 0) _ q1 Tryz.underlying37 rfl hi5 (by kernel_rfl) ?_; simp only [Act.put, q7a, q7b, q7c, q7d, q7e, q7f]) | (go_at_call 26; refine k2.mono ?_; clear k2; rintro e w2 ⟨rfl, hb4⟩; have hbw2 := hbw.trans (hb4.mono hbw.size); have k3 := KS2.out _ hbw2; replace q0 := (hb4.block _ (heap_lt q0)).trans q0; replace q1 := (hb4.block _ (heap_lt q1)).trans q1) | (go_at_call 27; refine k3.mono ?_; clear k3; rintro e w3 ⟨rfl, hb5⟩))
    (try simp only [Exit.inBlock, Exit.then])
    go_ret
    exact ⟨ret_int (by rw [HZ.out]; rfl), hbw2.trans (hb5.mono hbw2.size)⟩
end Go.Proofs.YtpbnpmeigdjfdaaGreatDoor
