import Derived.Test.YtpoekphebmonnaaUy
namespace Go.Proofs.Ytpoekphebmonnaa
open Go.RowKit Go.Shelf Go.Sort
set_option linter.unusedVariables false
theorem exact_law (W : World) (s : ByteArray) (mx bs mn : Nat) (h1 : mx < 4294967296) (h2 : bs < 4294967296) (h3 : mn < 4294967296) (ahead : Nat) (ha : ahead < 65536) (ab : Bool) (v : Nat) (hv : v < 4294967296) (cy : Nat) (hcy : cy < 4294967296) (ss : Sl) (l : List Cl) (hl : RowsAt W 4 actP ss l) (hll : l.length ≤ 5864062014805) (ticks : Nat) (ht : ticks < 65536) : Calls Try.prog 4 #[.agg #[.string s, U mx, U bs, U mn], .int .u16 ahead, .bool ab, U v, U cy, .slice ss.a ss.n ss.c, .int .u16 ticks] W fun e w' => e = .returned (.bool true) ∧ Below W.heap.size W w' := by
  cases hn : newB mx mn (3 : Nat) with
  | false => exact exact_no W s mx bs mn ahead ab v cy ss ticks hn
  | true => exact exact_ok W s mx bs mn ahead ha ab v hv cy hcy ss l hl hll ticks ht hn
end Go.Proofs.Ytpoekphebmonnaa
