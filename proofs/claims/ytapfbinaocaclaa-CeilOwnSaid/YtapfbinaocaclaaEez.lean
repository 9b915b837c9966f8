import Derived.Test.YtapfbinaocaclaaEey
namespace Go.Proofs.Ytapfbinaocaclaa
open Go.RowKit Go.Sort
set_option linter.unusedVariables false
set_option linter.unusedSimpArgs false

/-! ### CeilAsks -/
theorem Own3.got {w : World} {l m : List Int} {k : Int} {e : Ending} {w' : World} (h : Own3 w l m k e w') : ∃ s t : Sl, e = .returned (.tuple #[.slice s.a s.n s.c, .slice t.a t.n t.c, I k]) ∧ RowsAt w' 1 intP s l ∧ RowsAt w' 1 intP t m ∧ Below w.heap.size w w' := by
  obtain ⟨u1, u2, rfl, hO, hP, _, hb⟩ := h
  obtain ⟨s, rfl, hR⟩ := rows_ints hO (l := l) rfl rfl
  obtain ⟨t, rfl, hS⟩ := rows_ints hP (l := m) rfl rfl
  exact ⟨s, t, rfl, hR, hS, hb⟩
theorem ints_same (W : World) (s t : Sl) (l : List Int) (h1 : RowsAt W 1 intP s l) (h2 : RowsAt W 1 intP t l) : Calls Try.prog 21 #[.slice s.a s.n s.c, .slice t.a t.n t.c] W fun e w' => e = .returned (.bool true) ∧ Below W.heap.size W w' := by
  refine (rints_any W s t l l h1 h2).mono ?_
  rintro e w' ⟨rfl, hb⟩
  exact ⟨ret_bool (decide_eq_true rfl), hb⟩
set_option maxHeartbeats 8000000 in
set_option maxRecDepth 100000 in
theorem asks_any (w : World) (c : Cf) (v : Vs) (h : CfAt w c v) (hn : c.ress.length ≤ 8796093022208) (hnt : c.tasks.length ≤ 8796093022208) (hni : c.isrs.length ≤ 8796093022208) (r lo hi : Int) : Calls Try.prog 6 #[.agg (cfC c v), I r, I lo, I hi] w fun e w' => e = .returned (.bool true) ∧ Below w.heap.size w w' := by
  have hi18 : (Try.prog.info? 33).map (·.size) = some (cfC c v).size := by rw [show (cfC c v).size = 18 from rfl]; kernel_rfl
  have hV := heap_alloc_new w (.cells (cfC c v) 33)
  have hb := below_alloc w (.cells (cfC c v) 33)
  have K1 : Hid (∀ W, Below w.heap.size w W → Calls Try.prog 9 #[.agg (cfC c v), I r] W fun e w' => Own2 W (grpL c r) (grpE c r) e w') := fun W hW => group_any W c v (h.below hW) hn r
  have K2 : Hid (∀ W, Below w.heap.size w W → Calls Try.prog 20 #[.agg (cfC c v), I r] W fun e w' => Own2 W (grpL c r) (grpE c r) e w') := fun W hW => rgroup_any W c v (h.below hW) hn r
  have K3 : Hid (∀ W, Below w.heap.size w W → Calls Try.prog 14 #[.agg (cfC c v), I r] W fun e w' => Own3 W (usrT c r) (usrI c r) (grpE c r) e w') := fun W hW => users_any W c v (h.below hW) hn hnt hni r
  have K4 : Hid (∀ W, Below w.heap.size w W → Calls Try.prog 22 #[.agg (cfC c v), I r] W fun e w' => Own3 W (usrT c r) (usrI c r) (grpE c r) e w') := fun W hW => rusers_any W c v (h.below hW) hn hnt hni r
  have K5 : Hid (∀ W, Below w.heap.size w W → Calls Try.prog 23 #[.agg (cfC c v), I lo, I hi] W fun e w' => Own2 W (blkL c lo hi) (blkE c lo hi) e w') := fun W hW => blocks_any W c v (h.below hW) hn lo hi
  have K6 : Hid (∀ W, Below w.heap.size w W → Calls Try.prog 24 #[.agg (cfC c v), I lo, I hi] W fun e w' => Own2 W (blkL c lo hi) (blkE c lo hi) e w') := fun W hW => rblocks_any W c v (h.below hW) hn lo hi
  generalize cfC c v = C at *
  generalize grpL c r = L1 at *
  generalize grpE c r = R1 at *
  generalize usrT c r = L2 at *
  generalize usrI c r = L3 at *
  generalize blkL c lo hi = L4 at *
  generalize blkE c lo hi = R4 at *
  clear h hn hnt hni
  have HF : Hid (∀ W, Below (w.alloc (.cells C 33)).heap.size (w.alloc (.cells C 33)) W → W.heap[w.heap.size]? = some (.cells C 33 (0, 0)) ∧ Below w.heap.size w W) := fun W hW => ⟨(hW.block _ (heap_lt hV)).trans hV, hb.trans (hW.mono hb.size)⟩
  have HB : Hid (Below (w.alloc (.cells C 33)).heap.size (w.alloc (.cells C 33)) (w.alloc (.cells C 33))) := Below.refl _ _
  clear hb
  go_enter Try.func6, Try.ntmps6
  go_upto_region 5 with (first | (refine wpList_load_row rfl 33 _ rfl w.heap.size rfl 33 _ (0, 0) _ hV Try.underlying33 rfl hi18 ?_) | (go_at_call 9; refine (K1.out _ (HF.out _ HB.out).2).mono ?_; clear K1; rintro e w1 hp; obtain ⟨sg, rfl, hR1, hb1⟩ := hp.got; have HB1 : Hid (Below (w.alloc (.cells C 33)).heap.size (w.alloc (.cells C 33)) w1) := HB.out.trans (hb1.mono HB.out.size); replace hV := (HF.out _ HB1.out).1; have Hg1 : Hid (RowsAt w1 1 intP sg L1) := hR1; clear hp hb1 hR1 HB) | (go_at_call 20; refine (K2.out _ (HF.out _ HB1.out).2).mono ?_; clear K2; rintro e w2 hp; obtain ⟨tg, rfl, hR2, hb2⟩ := hp.got; have HB2 : Hid (Below (w.alloc (.cells C 33)).heap.size (w.alloc (.cells C 33)) w2) := HB1.out.trans (hb2.mono HB1.out.size); replace hV := (HF.out _ HB2.out).1; have ki := ints_same w2 sg tg L1 (Hg1.out.below hb2 (fun _ _ _ _ h => h)) hR2; clear hp hb2 hR2 HB1 Hg1) | (go_at_call 10; refine (num_any _ _).mono ?_; rintro e w' ⟨rfl, rfl⟩) | (go_at_call 21; refine ki.mono ?_; clear ki; rintro e w3 ⟨rfl, hb3⟩; have HB3 : Hid (Below (w.alloc (.cells C 33)).heap.size (w.alloc (.cells C 33)) w3) := HB2.out.trans (hb3.mono HB2.out.size); replace hV := (HF.out _ HB3.out).1; clear hb3 HB2))
  go_upto_region 9 with (first | (refine wpList_load_row rfl 33 _ rfl w.heap.size rfl 33 _ (0, 0) _ hV Try.underlying33 rfl hi18 ?_) | (go_at_call 14; refine (K3.out _ (HF.out _ HB3.out).2).mono ?_; clear K3; rintro e w4 hp; obtain ⟨sT, sI, rfl, hRT, hRI, hb4⟩ := hp.got; have HB4 : Hid (Below (w.alloc (.cells C 33)).heap.size (w.alloc (.cells C 33)) w4) := HB3.out.trans (hb4.mono HB3.out.size); replace hV := (HF.out _ HB4.out).1; have Hg4 : Hid (RowsAt w4 1 intP sT L2 ∧ RowsAt w4 1 intP sI L3) := ⟨hRT, hRI⟩; clear hp hb4 hRT hRI HB3) | (go_at_call 22; refine (K4.out _ (HF.out _ HB4.out).2).mono ?_; clear K4; rintro e w5 hp; obtain ⟨tT, tI, rfl, hRT, hRI, hb5⟩ := hp.got; have HB5 : Hid (Below (w.alloc (.cells C 33)).heap.size (w.alloc (.cells C 33)) w5) := HB4.out.trans (hb5.mono HB4.out.size); have ki := ints_same w5 sT tT L2 (Hg4.out.1.below hb5 (fun _ _ _ _ h => h)) hRT; have Hg5 : Hid (RowsAt w5 1 intP sI L3 ∧ RowsAt w5 1 intP tI L3) := ⟨Hg4.out.2.below hb5 (fun _ _ _ _ h => h), hRI⟩; clear hp hb5 hRT hRI HB4 Hg4 hV) | (go_at_call 10; refine (num_any _ _).mono ?_; rintro e w' ⟨rfl, rfl⟩) | (go_at_call 21; refine ki.mono ?_; clear ki; rintro e w6 ⟨rfl, hb6⟩; have HB6 : Hid (Below (w.alloc (.cells C 33)).heap.size (w.alloc (.cells C 33)) w6) := HB5.out.trans (hb6.mono HB5.out.size); have kj := ints_same w6 sI tI L3 (Hg5.out.1.below hb6 (fun _ _ _ _ h => h)) (Hg5.out.2.below hb6 (fun _ _ _ _ h => h)); clear hb6 HB5 Hg5) | (go_at_call 21; refine kj.mono ?_; clear kj; rintro e w7 ⟨rfl, hb7⟩; have HB7 : Hid (Below (w.alloc (.cells C 33)).heap.size (w.alloc (.cells C 33)) w7) := HB6.out.trans (hb7.mono HB6.out.size); have hV := (HF.out _ HB7.out).1; clear hb7 HB6))
  go_wp2_with (first | (refine wpList_load_row rfl 33 _ rfl w.heap.size rfl 33 _ (0, 0) _ hV Try.underlying33 rfl hi18 ?_) | (go_at_call 23; refine (K5.out _ (HF.out _ HB7.out).2).mono ?_; clear K5; rintro e w8 hp; obtain ⟨sb, rfl, hR8, hb8⟩ := hp.got; have HB8 : Hid (Below (w.alloc (.cells C 33)).heap.size (w.alloc (.cells C 33)) w8) := HB7.out.trans (hb8.mono HB7.out.size); replace hV := (HF.out _ HB8.out).1; have Hg8 : Hid (RowsAt w8 1 intP sb L4) := hR8; clear hp hb8 hR8 HB7) | (go_at_call 24; refine (K6.out _ (HF.out _ HB8.out).2).mono ?_; clear K6; rintro e w9 hp; obtain ⟨tb, rfl, hR9, hb9⟩ := hp.got; have HB9 : Hid (Below (w.alloc (.cells C 33)).heap.size (w.alloc (.cells C 33)) w9) := HB8.out.trans (hb9.mono HB8.out.size); have ki := ints_same w9 sb tb L4 (Hg8.out.below hb9 (fun _ _ _ _ h => h)) hR9; clear hp hb9 hR9 HB8 Hg8 hV) | (go_at_call 10; refine (num_any _ _).mono ?_; rintro e w' ⟨rfl, rfl⟩) | (go_at_call 21; refine ki.mono ?_; clear ki; rintro e w10 ⟨rfl, hb10⟩; have HB10 : Hid (Below (w.alloc (.cells C 33)).heap.size (w.alloc (.cells C 33)) w10) := HB9.out.trans (hb10.mono HB9.out.size); clear hb10 HB9) | (go_at_call 12; refine (alive_any _).mono ?_; rintro e w11 ⟨rfl, hb11⟩; have HB11 : Hid (Below (w.alloc (.cells C 33)).heap.size (w.alloc (.cells C 33)) w11) := HB10.out.trans (hb11.mono HB10.out.size); clear hb11 HB10))
  go_ret
  exact ⟨rfl, (HF.out _ HB11.out).2⟩
end Go.Proofs.Ytapfbinaocaclaa
