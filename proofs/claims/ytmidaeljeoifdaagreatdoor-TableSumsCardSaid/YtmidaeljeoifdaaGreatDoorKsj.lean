import Derived.Test.YtmidaeljeoifdaaGreatDoorKsi
namespace Go.Proofs.YtmidaeljeoifdaaGreatDoor
set_option maxRecDepth 100000
set_option maxHeartbeats 16000000
open Go.RowKit
set_option linter.unusedVariables false
theorem raction_lo (w : World) (c : Cf) (v : Vs) (a : Ac) (lo hi : Int) (h0 : ¬ False) (h1 : a.kind < lo) :
  Calls Tryz.prog 211 #[.agg (cfC c v), .agg (acC a), I lo, I hi] w fun e w' => e = .returned (I (actE c a lo hi)) ∧ Below w.heap.size w w' := by
 have hb := below_alloc w
 have hb2 := fun o o' => (hb o).trans ((below_alloc (w.alloc o) o').mono (hb o).size)
 have HE : Hid (actE c a lo hi = 74) := by
  have hI : inR a.kind lo hi = false := by simp [inR]; intro; omega
  show _ = _
  rw [actE, hI, Bool.false_and, if_pos rfl]
 generalize actE c a lo hi = R at *
 unfold acC
 have f11 : ∀ h : 11 < (cfC c v).size, (cfC c v)[11] = .slice v.t.a v.t.n v.t.c := fun _ => rfl
 have f13 : ∀ h : 13 < (cfC c v).size, (cfC c v)[13] = .slice v.e.a v.e.n v.e.c := fun _ => rfl
 have hs18 : (cfC c v).size = 18 := rfl
 generalize cfC c v = C at *
 replace f11 := f11 (by omega)
 replace f13 := f13 (by omega)
 cases hk1 : a.kind == 1 <;> cases hk3 : a.kind == 3 <;> (go_enter Tryz.func211, Tryz.ntmps211; go_wp2; go_ret; exact ⟨ret_int HE.out.symm, hb2 _ _⟩)
theorem raction_hi (w : World) (c : Cf) (v : Vs) (a : Ac) (lo hi : Int) (h0 : ¬ a.kind < lo) (h1 : hi < a.kind) :
  Calls Tryz.prog 211 #[.agg (cfC c v), .agg (acC a), I lo, I hi] w fun e w' => e = .returned (I (actE c a lo hi)) ∧ Below w.heap.size w w' := by
 have hb := below_alloc w
 have hb2 := fun o o' => (hb o).trans ((below_alloc (w.alloc o) o').mono (hb o).size)
 have HE : Hid (actE c a lo hi = 74) := by
  have hI : inR a.kind lo hi = false := by simp [inR]; intro; omega
  show _ = _
  rw [actE, hI, Bool.false_and, if_pos rfl]
 generalize actE c a lo hi = R at *
 unfold acC
 have f11 : ∀ h : 11 < (cfC c v).size, (cfC c v)[11] = .slice v.t.a v.t.n v.t.c := fun _ => rfl
 have f13 : ∀ h : 13 < (cfC c v).size, (cfC c v)[13] = .slice v.e.a v.e.n v.e.c := fun _ => rfl
 have hs18 : (cfC c v).size = 18 := rfl
 generalize cfC c v = C at *
 replace f11 := f11 (by omega)
 replace f13 := f13 (by omega)
 cases hk1 : a.kind == 1 <;> cases hk3 : a.kind == 3 <;> (go_enter Tryz.func211, Tryz.ntmps211; go_wp2; go_ret; exact ⟨ret_int HE.out.symm, hb2 _ _⟩)
theorem raction_all (w : World) (c : Cf) (v : Vs) (h : CfAt w c v) (a : Ac) (lo hi : Int) (hsz : a.name.length < 9223372036854775808) :
  Calls Tryz.prog 211 #[.agg (cfC c v), .agg (acC a), I lo, I hi] w fun e w' => e = .returned (I (actE c a lo hi)) ∧ Below w.heap.size w w' := by
 by_cases h1 : a.kind < lo
 ·exact raction_lo w c v a lo hi (fun h => h) h1
 ·by_cases h2 : hi < a.kind
  ·exact raction_hi w c v a lo hi h1 h2
  ·exact raction_any w c v h a lo hi hsz h1 h2
end Go.Proofs.YtmidaeljeoifdaaGreatDoor
