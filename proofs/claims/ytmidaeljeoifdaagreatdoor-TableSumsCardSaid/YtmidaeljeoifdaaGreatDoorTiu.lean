import Derived.Test.YtmidaeljeoifdaaGreatDoorTit
import Derived.Test.YtmidaeljeoifdaaGreatDoorKmy
import Derived.Test.YtmidaeljeoifdaaGreatDoorThlg
namespace Go.Proofs.YtmidaeljeoifdaaGreatDoor
open Go.RowKit Go.Shelf Go.Sort Go.Maps
set_option linter.unusedVariables false
set_option linter.unusedSimpArgs false
set_option maxHeartbeats 16000000
set_option maxRecDepth 100000
theorem sums_not (w : World) (c : Cf) (v : Vs)
  (kM : ∀ W, Below w.heap.size w W → Calls Tryz.prog 11 #[.agg (cfC c v)] W fun e w' => e = .returned (.tuple #[.agg zTb, I 90]) ∧ Below W.heap.size W w')
  (kY : ∀ W, Below w.heap.size w W → Calls Tryz.prog 12 #[.agg (cfC c v)] W fun e w' => e = .returned (.bool false) ∧ Below W.heap.size W w')
  (kH : ∀ W, Below w.heap.size w W → Calls Tryz.prog 10 #[] W fun e w' => e = .returned (.bool true) ∧ Below W.heap.size W w') : Calls Tryz.prog 4 #[.agg (cfC c v)] w fun e w' => e = .returned (.bool true) ∧ Below w.heap.size w w' := by
 have hb := below_alloc w (.cells (cfC c v) 47)
 have hV := heap_alloc_new w (.cells (cfC c v) 47)
 have hi18 : (Tryz.prog.info? 47).map (·.size) = some (cfC c v).size := by rw [show (cfC c v).size = 18 from rfl]; kernel_rfl
 have HKY : Hid _ := kY
 have HKH : Hid _ := kH
 have kM1 := kM _ hb
 have HVB : Hid _ := hb
 clear kM kY kH
 generalize hCC : cfC c v = C at *
 clear hCC
 go_enter Tryz.func4, Tryz.ntmps4
 go_upto_region 1 with fail
 have hv0 := hV
 generalize (w.alloc (.cells C 47)) = W1 at *
 go_upto_region 2 with (first
  | (with_reducible refine wpList_id99 ?_; refine wpList_load_row rfl 47 _ rfl w.heap.size rfl 47 _ (0, 0) _ hv0 Tryz.underlying47 rfl hi18 ?_)
  | (go_at_call 11; refine kM1.mono ?_; clear kM1; rintro e w1 ⟨rfl, b1⟩; have hz := heap_alloc_new w1 (.cells zTb 30); have hiT : (Tryz.prog.info? 30).map (·.size) = some zTb.size := (by rw [show zTb.size = 13 from rfl]; kernel_rfl); have h1c : zTb.all (·.oneCell') = true := (by simp [zTb, Value.oneCell']); have hsz : zTb.size = zTb.size := rfl; have HZ : Hid (zTb.size = 13) := rfl; unfold zTb at hz hsz)
  | (with_reducible refine wpList_id99 ?_; refine wpList_store_row rfl 30 _ _ rfl w1.heap.size _ rfl rfl 30 _ hz hiT (by kernel_rfl) h1c ?_))
 have B2 : Below W1.heap.size W1 ((w1.alloc (.cells #[I 0, I 0, .slice none 0 0, .slice none 0 0, .slice none 0 0, .slice none 0 0, .slice none 0 0, .slice none 0 0, .slice none 0 0, I 0, I 0, I 0, I 0] 30)).setRow w1.heap.size zTb) := by
  have g2 : (w1.alloc (.cells #[I 0, I 0, .slice none 0 0, .slice none 0 0, .slice none 0 0, .slice none 0 0, .slice none 0 0, .slice none 0 0, .slice none 0 0, I 0, I 0, I 0, I 0] 30)).grownBy ((w1.alloc (.cells #[I 0, I 0, .slice none 0 0, .slice none 0 0, .slice none 0 0, .slice none 0 0, .slice none 0 0, .slice none 0 0, .slice none 0 0, I 0, I 0, I 0, I 0] 30)).setRow w1.heap.size zTb) (some w1.heap.size) := Ce.grown_row _ _ _
  have b2 := below_alloc w1 (.cells #[I 0, I 0, .slice none 0 0, .slice none 0 0, .slice none 0 0, .slice none 0 0, .slice none 0 0, .slice none 0 0, .slice none 0 0, I 0, I 0, I 0, I 0] 30)
  have b3 := b1.trans (b2.mono b1.size)
  exact b3.grown g2 b3.size (fun k e => by cases e; exact b1.size)
 clear hz hiT h1c hsz HZ b1
 generalize (w1.alloc (.cells #[I 0, I 0, .slice none 0 0, .slice none 0 0, .slice none 0 0, .slice none 0 0, .slice none 0 0, .slice none 0 0, .slice none 0 0, I 0, I 0, I 0, I 0] 30)).setRow w1.heap.size zTb = W2 at *
 generalize w1.heap.size = T at *
 have hv2 := (B2.block _ (heap_lt hV)).trans hV
 have BW2 : Hid (Below w.heap.size w W2) := HVB.out.trans (B2.mono HVB.out.size)
 have kY2 := HKY.out W2 BW2.out
 clear hV hv0 B2
 go_upto_region 3 with (first
  | (with_reducible refine wpList_id99 ?_; refine wpList_load_row rfl 47 _ rfl w.heap.size rfl 47 _ (0, 0) _ hv2 Tryz.underlying47 rfl hi18 ?_)
  | (go_at_call 12; refine kY2.mono ?_; clear kY2; rintro e w3 ⟨rfl, b3⟩))
 have BW3 : Hid (Below w.heap.size w w3) := BW2.out.trans (b3.mono BW2.out.size)
 have kH3 := HKH.out w3 BW3.out
 clear b3 hv2
 go_wp2_with (first | (go_at_call 10; refine kH3.mono ?_; clear kH3; rintro e w7 ⟨rfl, b7⟩))
 go_ret
 exact ⟨rfl, BW3.out.trans (b7.mono BW3.out.size)⟩
theorem sums_any (w : World) (c : Cf) (v : Vs) (h : CfAt w c v) (hl : LensOK c) (hm : ∀ x ∈ c.evs, x.mask < 4294967296) (hz : NamesOK c) (hE : EnvE w) : Calls Tryz.prog 4 #[.agg (cfC c v)] w fun e w' => e = .returned (.bool true) ∧ Below w.heap.size w w' := by
 have kH : ∀ W, Below w.heap.size w W → Calls Tryz.prog 10 #[] W fun e w' => e = .returned (.bool true) ∧ Below W.heap.size W w' := fun W hW => heads9_anyg W (hE.below hW)
 cases ha : allF c with
 | none =>
  exact sums_may w c v h ha (fun W hW => make_may W c v (h.below hW) hl (hE.below hW) hm ha) (fun W hW => by
   have := rmay_any W c v (h.below hW) hl hz
   rw [ha] at this
   exact this) kH
 | some t =>
  obtain ⟨k, wd, i⟩ := t
  exact sums_not w c v (fun W hW => make_not W c v (h.below hW) hl (hE.below hW) k wd i ha (allF_code ha)) (fun W hW => by
   have := rmay_any W c v (h.below hW) hl hz
   rw [ha] at this
   exact this) kH
end Go.Proofs.YtmidaeljeoifdaaGreatDoor
