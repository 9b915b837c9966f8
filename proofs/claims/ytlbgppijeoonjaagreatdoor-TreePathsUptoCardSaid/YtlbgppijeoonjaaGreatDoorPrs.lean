import Derived.Test.YtlbgppijeoonjaaGreatDoorPrp
import Derived.Test.YtlbgppijeoonjaaGreatDoorOpg
namespace Go.Proofs.YtlbgppijeoonjaaGreatDoor
open Go.RowKit
set_option linter.unusedVariables false

/-! ### The law over a tree that came in -/
mutual
theorem pathA_cnt (d : Nat) : ∀ (a : At) (ahead : List Int) (i : Nat), (pathA ahead i a).length = (Cnt.attrT d a).length
  | .mk name o ln c v br ps nd nt, ahead, i => by rw [pathA, Cnt.attrT, List.length_cons, List.length_cons, pathsL_cnt (d + 1) ps]
theorem pathsL_cnt (d : Nat) : ∀ (l : List At) (ahead : List Int) (i : Nat), (pathsL ahead i l).length = (Cnt.attrsT d l).length
  | [], ahead, i => by rw [pathsL, Cnt.attrsT]; rfl
  | a :: l, ahead, i => by rw [pathsL, Cnt.attrsT, List.length_append, List.length_append, pathA_cnt d a, pathsL_cnt d l]
end
theorem pathsO_cnt : ∀ (l : List Ob) (i : Nat), (pathsO i l).length + l.length = (Cnt.objsT l).length
  | [], i => by rw [pathsO, Cnt.objsT]; rfl
  | o :: l, i => by
    have := pathsO_cnt l (i + 1)
    rw [pathsO, Cnt.objsT, List.length_append, List.length_append, Cnt.objT, List.length_cons, List.length_cons, pathsL_cnt 0 o.attrs]
    omega
/-- No list is longer than there are paths. -/
theorem lenB_paths (nb : Nat) (n : Nat) : ∀ (l : List At), (pathsL [] 0 l).length ≤ n → (pathsL [] 0 l).length ≤ nb → LenB nb l := by
  induction n with
  | zero =>
    intro l h1 h2
    have := pathsL_len [] l 0
    obtain rfl : l = [] := List.eq_nil_of_length_eq_zero (by omega)
    exact .mk (Nat.zero_le _) (fun a ha => by cases ha)
  | succ n ih =>
    intro l h1 h2
    have h3 := pathsL_len [] l 0
    refine .mk (by omega) (fun a ha => ?_)
    obtain ⟨j, hj⟩ := List.mem_iff_getElem?.1 ha
    have h4 := pathsL_par [] l j a hj
    have h5 : (pathsL ([] ++ [(j : Int)]) 0 a.params).length = (pathsL [] 0 a.params).length := by rw [pathsL_cnt 0, pathsL_cnt 0]
    rw [h5] at h4
    exact ih a.params (by omega) (by omega)
theorem lawpaths_objs (w : World) (t : Tr) (pv : Value) (hO : ObjsAt w (fun _ => True) pv t.objs) (hb : (pathsO 0 t.objs).length + t.objs.length + 20 ≤ 1099511627776) (stop : Int)
    (hHd : ∀ W, Below w.heap.size w W → Calls Tryz.prog 14 #[] W fun e w' => e = .returned (.bool true) ∧ Below W.heap.size W w') :
    Calls Tryz.prog 4 #[.agg (trC t pv), .int .i64 stop] w fun e w' => e = .returned (.bool true) ∧ Below w.heap.size w w' := by
  have hLB : ∀ o, o ∈ t.objs → LenB 1099511627776 o.attrs := fun o ho => by
    obtain ⟨j, hj⟩ := List.mem_iff_getElem?.1 ho
    have h2 := pathsO_take t.objs j o hj
    have h3 := pathsO_le t.objs (j + 1)
    rw [h2, List.length_append] at h3
    have h5 : (pathsL [(j : Int)] 0 o.attrs).length = (pathsL [] 0 o.attrs).length := by rw [pathsL_cnt 0, pathsL_cnt 0]
    exact lenB_paths _ _ o.attrs (Nat.le_refl _) (by omega)
  have hAt := fun p hp => attr_in w t pv hO 1099511627776 (Nat.le_refl _) hLB p hp
  obtain ⟨tv, tc, tobs, tnd, tnt⟩ := t
  dsimp only [trC] at hO hb hAt ⊢
  cases hO with
  | @nil a cap => exact lawpaths_any w tv tc tnd tnt a cap 0 [] rfl stop (fun j q hq => by cases hq) (fun q hq => by cases hq) (by omega) (by simp [pathsO]) hAt hHd
  | @row g off cap qs hF hg hc hcap hA =>
    refine lawpaths_any w tv tc tnd tnt (some ⟨g, off, none⟩) cap qs.length qs rfl stop (fun j q hq => ⟨g, off, rfl, hg, fun i u hi hu => ?_⟩) (fun q hq => attrsAt_move (Nat.le_refl _) (fun g _ hl => ⟨rfl, hl⟩) (hA q hq)) (by rw [List.length_map] at hb; omega) (by omega) hAt hHd
    have := hc _ u ((rowsO_at qs j q hq i hi).trans hu)
    rw [← Nat.add_assoc] at this
    exact this
end Go.Proofs.YtlbgppijeoonjaaGreatDoor
