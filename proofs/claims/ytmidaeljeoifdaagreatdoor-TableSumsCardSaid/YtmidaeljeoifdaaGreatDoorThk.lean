import Derived.Test.YtmidaeljeoifdaaGreatDoorThj
import Derived.Test.YtmidaeljeoifdaaGreatDoorMlk
namespace Go.Proofs.YtmidaeljeoifdaaGreatDoor
open Go.RowKit Go.Shelf Go.Sort Go.Maps
set_option linter.unusedVariables false
set_option linter.unusedSimpArgs false
set_option maxHeartbeats 8000000
set_option maxRecDepth 100000
theorem RT.mono {B B' : Nat} {W : World} {l : List TkR} {u : Value} (h : RT B' W l u) (hB : B ≤ B') : RT B W l u := by
 obtain ⟨xs, h1, h2⟩ := h
 exact ⟨xs, own_mono9 h1 hB, h2.mono (fun _ _ _ h => tkO_mono9 hB h)⟩
theorem RI.mono {B B' : Nat} {W : World} {l : List IsR} {u : Value} (h : RI B' W l u) (hB : B ≤ B') : RI B W l u := by
 obtain ⟨xs, h1, h2⟩ := h
 exact ⟨xs, own_mono9 h1 hB, h2.mono (fun _ _ _ h => isO_mono9 hB h)⟩
abbrev cS0 : Cf := cfS [tkS 116]
abbrev vS0 (bm g : Nat) : Vs := vsS bm ⟨some ⟨g, 0, none⟩, 1, 1⟩
abbrev tbK : Tb := tbS (tkS 116) 0 1 1 4 2 0
def zT13 : Array Value := #[I 0, I 0, .slice none 0 0, .slice none 0 0, .slice none 0 0, .slice none 0 0, .slice none 0 0, .slice none 0 0, .slice none 0 0, I 0, I 0, I 0, I 0]
end Go.Proofs.YtmidaeljeoifdaaGreatDoor
