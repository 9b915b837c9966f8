import Derived.Test.YtlbkbnhnklaebaaRls
import Derived.Test.YtlbkbnhnklaebaaRlv
namespace Go.Proofs.Ytlbkbnhnklaebaa
open Go.RowKit Go.Shelf
theorem seen_any (W : World) (room : Int) (s1 : Sl) (acts : List (Int × Int)) (h1 : RowsAt W 2 actP s1 acts) (hl1 : acts.length ≤ 17592186043904) (s2 : Sl) (dur : List (Int × Int)) (h2 : RowsAt W 2 actP s2 dur) (hl2 : dur.length ≤ 17592186043904) (lv : Int) : Calls Try.prog 7 #[I room, .slice s1.a s1.n s1.c, .slice s2.a s2.n s2.c, I lv] W fun e w' => e = .returned (.bool true) ∧ Below W.heap.size W w' := by
  by_cases h : room < 0 ∨ 65536 < room
  · exact seen_no W room h s1 s2 lv
  · obtain ⟨n, rfl⟩ : ∃ n : Nat, room = n := ⟨room.toNat, by omega⟩
    exact seen_ok W n (by omega) s1 acts h1 hl1 s2 dur h2 hl2 lv
end Go.Proofs.Ytlbkbnhnklaebaa
