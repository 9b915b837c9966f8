import Derived.Test.YtckmdkdhnhkdhaaZls
import Derived.Test.YtckmdkdhnhkdhaaZlv
namespace Go.Proofs.Ytckmdkdhnhkdhaa
open Go.RowKit Go.Shelf
theorem seen_any (W : World) (room : Int) (_ : (Lit.int .i64 room).wf = true) (s1 : Sl) (acts : List (Int × Int)) (h1 : RowsAt W 2 actP s1 acts) (hl1 : acts.length ≤ 17592186043904) (s2 : Sl) (dur : List (Int × Int)) (h2 : RowsAt W 2 actP s2 dur) (hl2 : dur.length ≤ 17592186043904) (lv : Int) (_ : (Lit.int .i64 lv).wf = true) : Calls Try.prog 6 #[I room, .slice s1.a s1.n s1.c, .slice s2.a s2.n s2.c, I lv] W fun e w' => e = .returned (.bool true) ∧ Below W.heap.size W w' := by
  by_cases h : room < 0 ∨ 1024 < room
  · exact seen_no W room h s1 s2 lv
  · obtain ⟨n, rfl⟩ : ∃ n : Nat, room = n := ⟨room.toNat, by omega⟩
    exact seen_ok W n (by omega) s1 acts h1 hl1 s2 dur h2 hl2 lv
end Go.Proofs.Ytckmdkdhnhkdhaa
