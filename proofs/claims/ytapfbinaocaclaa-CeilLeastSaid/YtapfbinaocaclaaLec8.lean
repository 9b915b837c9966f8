import Derived.Test.YtapfbinaocaclaaLea8
import Derived.Test.YtapfbinaocaclaaLeb8
namespace Go.Proofs.Ytapfbinaocaclaa
open Go.RowKit
theorem least_any (w : World) (c : Cf) (v : Vs) (h : CfAt w c v) (hn : c.ress.length ≤ 8796093022208) (hnt : c.tasks.length ≤ 8796093022208) (hni : c.isrs.length ≤ 8796093022208) (r : Int) : Calls Try.prog 3 #[.agg (cfC c v), I r] w fun e w' => e = .returned (.bool true) ∧ Below w.heap.size w w' := by
  by_cases hg : grpE c r = 0
  · have hid := (grp_zero hg).2
    have hbd : 0 ≤ r ∧ r < c.ress.length := by simpa [isId] using hid
    obtain ⟨q, rfl⟩ := Int.eq_ofNat_of_zero_le hbd.1
    exact least_good w c v h hn hnt hni q hg
  · exact least_bad w c v h hn hnt hni r hg
end Go.Proofs.Ytapfbinaocaclaa
