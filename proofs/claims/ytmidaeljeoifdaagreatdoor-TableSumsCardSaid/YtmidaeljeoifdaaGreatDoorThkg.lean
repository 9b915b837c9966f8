import Derived.Test.YtmidaeljeoifdaaGreatDoorTir
import Derived.Test.YtmidaeljeoifdaaGreatDoorThk
namespace Go.Proofs.YtmidaeljeoifdaaGreatDoor
open Go.RowKit Go.Shelf Go.Sort Go.Maps
set_option linter.unusedVariables false
set_option linter.unusedSimpArgs false
set_option maxHeartbeats 8000000
set_option maxRecDepth 100000
theorem prS9 : prL9 cS0.tasks = [1] := by
 show Lib.compact (([tkS 116].map fun x => x.prio).mergeSort fun x y => decide (y ≤ x)) = [1]
 rw [List.map_singleton, List.mergeSort_singleton]
 rfl
theorem tbX_small : tbX cS0 = tbK := by
 unfold tbX tbM zd9 zf9 ze9 zc9 tbM
 rw [prS9]
 rfl
theorem sx_small {B : Nat} {W : World} {u : Ts} (h : SX B W cS0 u) : SO B W (tkS 116) u := by
 unfold SX SM at h
 rw [prS9] at h
 exact h
theorem make_small9 (w : World) (bm g : Nat) (h : CfAt w cS0 (vS0 bm g)) (hE : EnvE w) : Calls Tryz.prog 11 #[.agg (cfC cS0 (vS0 bm g))] w fun e w' => (∃ v : Ts, e = .returned (.tuple #[.agg (tbC tbK v), I 0]) ∧ SO w.heap.size w' (tkS 116) v) ∧ Below w.heap.size w w' :=
 (make_may w cS0 (vS0 bm g) h (lens _ (by simp)) hE (fun x hx => by cases hx) all1).mono (fun e w' hq => by
  obtain ⟨⟨u, h1, h2⟩, h3⟩ := hq
  rw [tbX_small] at h1
  exact ⟨⟨u, h1, sx_small h2⟩, h3⟩)
end Go.Proofs.YtmidaeljeoifdaaGreatDoor
